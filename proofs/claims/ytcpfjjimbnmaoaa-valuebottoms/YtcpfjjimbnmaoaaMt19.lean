/- What ValueBottoms does: it answers true. No condition but that what is handed in lies in memory. -/
import Derived.Test.YtcpfjjimbnmaoaaMt18
namespace Go.Proofs.Ytcpfjjimbnmaoaa.V4
open Go.RowKit Go.Shelf
open C3 (Tk isC belAl drewB)
open S2 (Sc Tr isT allocB)

/-- What has nothing is of its schema. -/
theorem isV_bot : ∀ (t : Tr) (n : Nat), n ≤ 16 → isT n t = true → isV t (botT t) = true := by
  intro t
  induction t using S2.Tr.ind with
  | h k l ih =>
    intro n hn ht
    have h16 := isT_le ht hn
    have hl := isT_len ht
    by_cases h5 : k = 5
    · subst h5
      obtain ⟨a, b, rfl⟩ := two_of_len (show l.length = 2 by rw [show S2.arI 5 = 2 by decide] at hl; omega)
      cases n with
      | zero => simp [isT] at ht
      | succ n =>
        have i1 := ih a (by simp) n (by omega) (isT_ins ht a (by simp))
        have i2 := ih b (by simp) n (by omega) (isT_ins ht b (by simp))
        rw [botT_pair h16, isV, base_mk, fits_5]
        simp only [pairV, Va.v]
        rw [i1, i2]
        simp [hasN, R1.Srt]
    · rw [botT_zero (t := .mk k l) (fun h => h5 h.2), Va.zero]
      by_cases h4 : k = 4
      · subst h4
        obtain ⟨a, rfl⟩ := one_of_len (show l.length = 1 by rw [show S2.arI 4 = 1 by decide] at hl; omega)
        rw [isV, base_mk, fits_4]
        simp [hasN, R1.Srt, shortV, mapV, Va.v]
      by_cases h8 : k = 8
      · subst h8
        obtain ⟨a, rfl⟩ := one_of_len (show l.length = 1 by rw [show S2.arI 8 = 1 by decide] at hl; omega)
        rw [isV, base_mk, fits_ne 8 (by decide) (by decide) (by decide) (by decide) (by decide) (by decide) (by decide), sibs_mk]
        simp [hasN, R1.Srt, sibGo]
      have h0 : l = [] := by
        apply List.eq_nil_of_length_eq_zero
        have : S2.arI k = 0 ∨ S2.arI k = -1 := by
          unfold S2.arI
          by_cases hk : k = 1 ∨ k = 2 ∨ k = 3 ∨ k = 6 ∨ k = 7
          · rw [if_pos hk]; exact .inl rfl
          · rw [if_neg hk, if_neg (by omega), if_neg h5]; exact .inr rfl
        omega
      subst h0
      have hk : k = 1 ∨ k = 2 ∨ k = 3 ∨ k = 6 ∨ k = 7 := by
        unfold S2.arI at hl
        by_cases hk : k = 1 ∨ k = 2 ∨ k = 3 ∨ k = 6 ∨ k = 7
        · exact hk
        · rw [if_neg hk, if_neg (by omega), if_neg h5] at hl; simp at hl
      rcases hk with rfl | rfl | rfl | rfl | rfl
      · rw [isV, base_mk, fits_1]; simp [hasN, R1.Srt]
      · rw [isV, base_mk, fits_2]; simp [hasN, R1.Srt]
      · rw [isV, base_mk, fits_3]; simp [hasN, R1.Srt, shortV]
      · rw [isV, base_mk, fits_6]; simp [hasN, R1.Srt]
      · rw [isV, base_mk, fits_7]; simp [hasN, R1.Srt, clockV, Va.c]

set_option maxRecDepth 100000 in
set_option maxHeartbeats 16000000 in
theorem valueBottoms_all (s : Sc) (v : Vl) (w : World) (hs : s.In w.heap.size w) (hv : v.In w) : Calls Try.prog 4 #[s.val, v.val] w (RetV w (.bool true)) := by
  obtain ⟨k0, A, c, l⟩ := s
  obtain ⟨an, am, asA, asc, ass, acA, acc, acs, avA, avc, avs⟩ := v
  simp only [val_mk, S2.val_mk]
  obtain ⟨V, hV⟩ : ∃ V, ((w.alloc (.cells #[.int .i64 k0, .slice A l.length c] 24)).alloc (.cells #[.int .u64 an, .int .u64 am, .slice asA ass.length asc, .slice acA acs.length acc, .slice avA avs.length avc] 30)) = V := ⟨_, rfl⟩
  have hbw : Below w.heap.size w V := by rw [← hV]; exact belAl (belAl (Below.refl _ _))
  have X0 : Bxd V (w.heap.size) #[.int .i64 k0, .slice A l.length c] := by
    rw [← hV]
    have := Bxd.new (W := w) (cs := #[.int .i64 k0, .slice A l.length c]) (t := 24)
    exact this.al _
  have X1 : Bxd V (w.heap.size + 1) #[.int .u64 an, .int .u64 am, .slice asA ass.length asc, .slice acA acs.length acc, .slice avA avs.length avc] := by
    rw [← hV]
    have := Bxd.new (W := (w.alloc (.cells #[.int .i64 k0, .slice A l.length c] 24))) (cs := #[.int .u64 an, .int .u64 am, .slice asA ass.length asc, .slice acA acs.length acc, .slice avA avs.length avc]) (t := 30)
    rw [World.size_alloc] at this
    exact this
  have HA0 := Lib.hid (And.intro X0 (hs.later hbw))
  have HB0 := Lib.hid (And.intro X1 (hv.later hbw))
  have HW0 := Lib.hid hbw
  have HV := Lib.hid hV
  obtain ⟨p, hp⟩ : ∃ q, isT 16 (Sc.mk k0 A c l).er = q := ⟨_, rfl⟩
  have HP := Lib.hid hp
  clear hs hv hbw X0 X1 hp hV
  go_enter Try.func4, Try.ntmps4
  go_wp2_with fail
  rw [HV.out]
  clear HV
  refine (known_any _).mono ?_
  rintro e w1 ⟨rfl, hb1⟩
  have HA := Lib.hid (And.intro (HA0.out.1.later hb1) (HA0.out.2.later hb1))
  have HB := Lib.hid (And.intro (HB0.out.1.later hb1) (HB0.out.2.later hb1))
  have HW := Lib.hid (HW0.out.trans (hb1.mono HW0.out.size))
  clear hb1 HA0 HB0 HW0
  have a0 : World.cell? w1 ⟨w.heap.size, 0, none⟩ = some (.int .i64 k0) := HA.out.1.2 0 _ rfl
  have a1 : World.cell? w1 ⟨w.heap.size, 1, none⟩ = some (.slice A l.length c) := HA.out.1.2 1 _ rfl
  have b0 : World.cell? w1 ⟨w.heap.size + 1, 0, none⟩ = some (.int .u64 an) := HB.out.1.2 0 _ rfl
  have b1 : World.cell? w1 ⟨w.heap.size + 1, 1, none⟩ = some (.int .u64 am) := HB.out.1.2 1 _ rfl
  have b2 : World.cell? w1 ⟨w.heap.size + 1, 2, none⟩ = some (.slice asA ass.length asc) := HB.out.1.2 2 _ rfl
  have b3 : World.cell? w1 ⟨w.heap.size + 1, 3, none⟩ = some (.slice acA acs.length acc) := HB.out.1.2 3 _ rfl
  have b4 : World.cell? w1 ⟨w.heap.size + 1, 4, none⟩ = some (.slice avA avs.length avc) := HB.out.1.2 4 _ rfl
  have HBT := Lib.hid (Bottom_any (Sc.mk k0 A c l) w1 HA.out.2)
  simp only [S2.val_mk] at HBT
  go_wp2_with fail
  refine HBT.out.mono ?_
  clear HBT
  rintro e w2 ⟨⟨bn, bm, bsA, bsc, bss, bcA, bcc, bcs, bvA, bvc, bvs⟩, rfl, hce, hci, hb2⟩
  simp only [val_mk]
  have HCE := Lib.hid hce
  have hci2 := Vl.Inp.inn hci
  replace a0 : World.cell? w2 ⟨w.heap.size, 0, none⟩ = some (.int .i64 k0) := (HA.out.1.later hb2).2 0 _ rfl; replace a1 : World.cell? w2 ⟨w.heap.size, 1, none⟩ = some (.slice A l.length c) := (HA.out.1.later hb2).2 1 _ rfl; replace b0 : World.cell? w2 ⟨w.heap.size + 1, 0, none⟩ = some (.int .u64 an) := (HB.out.1.later hb2).2 0 _ rfl; replace b1 : World.cell? w2 ⟨w.heap.size + 1, 1, none⟩ = some (.int .u64 am) := (HB.out.1.later hb2).2 1 _ rfl; replace b2 : World.cell? w2 ⟨w.heap.size + 1, 2, none⟩ = some (.slice asA ass.length asc) := (HB.out.1.later hb2).2 2 _ rfl; replace b3 : World.cell? w2 ⟨w.heap.size + 1, 3, none⟩ = some (.slice acA acs.length acc) := (HB.out.1.later hb2).2 3 _ rfl; replace b4 : World.cell? w2 ⟨w.heap.size + 1, 4, none⟩ = some (.slice avA avs.length avc) := (HB.out.1.later hb2).2 4 _ rfl; replace HA := Lib.hid (And.intro (HA.out.1.later hb2) (HA.out.2.later hb2)); replace HB := Lib.hid (And.intro (HB.out.1.later hb2) (HB.out.2.later hb2)); replace HW := Lib.hid (HW.out.trans (hb2.mono HW.out.size))
  clear hb2 hce hci
  obtain ⟨pb, hpb⟩ : ∃ pb, w2.heap.size = pb := ⟨_, rfl⟩
  obtain ⟨w3, hw3⟩ : ∃ w3, w2.alloc (.cells #[.int .u64 bn, .int .u64 bm, .slice bsA bss.length bsc, .slice bcA bcs.length bcc, .slice bvA bvs.length bvc] 30) = w3 := ⟨_, rfl⟩
  have hb3 : Below w2.heap.size w2 w3 := by rw [← hw3]; exact allocB _ _
  have HC : Hid (Bxd w3 pb #[.int .u64 bn, .int .u64 bm, .slice bsA bss.length bsc, .slice bcA bcs.length bcc, .slice bvA bvs.length bvc] ∧ (Vl.mk bn bm bsA bsc bss bcA bcc bcs bvA bvc bvs).In w3) := by
    refine ⟨?_, hci2.later hb3⟩
    rw [← hw3, ← hpb]
    exact Bxd.new
  replace a0 : World.cell? w3 ⟨w.heap.size, 0, none⟩ = some (.int .i64 k0) := (HA.out.1.later hb3).2 0 _ rfl; replace a1 : World.cell? w3 ⟨w.heap.size, 1, none⟩ = some (.slice A l.length c) := (HA.out.1.later hb3).2 1 _ rfl; replace b0 : World.cell? w3 ⟨w.heap.size + 1, 0, none⟩ = some (.int .u64 an) := (HB.out.1.later hb3).2 0 _ rfl; replace b1 : World.cell? w3 ⟨w.heap.size + 1, 1, none⟩ = some (.int .u64 am) := (HB.out.1.later hb3).2 1 _ rfl; replace b2 : World.cell? w3 ⟨w.heap.size + 1, 2, none⟩ = some (.slice asA ass.length asc) := (HB.out.1.later hb3).2 2 _ rfl; replace b3 : World.cell? w3 ⟨w.heap.size + 1, 3, none⟩ = some (.slice acA acs.length acc) := (HB.out.1.later hb3).2 3 _ rfl; replace b4 : World.cell? w3 ⟨w.heap.size + 1, 4, none⟩ = some (.slice avA avs.length avc) := (HB.out.1.later hb3).2 4 _ rfl; replace HA := Lib.hid (And.intro (HA.out.1.later hb3) (HA.out.2.later hb3)); replace HB := Lib.hid (And.intro (HB.out.1.later hb3) (HB.out.2.later hb3)); replace HW := Lib.hid (HW.out.trans (hb3.mono HW.out.size))
  clear hb3 hci2
  have c0 : World.cell? w3 ⟨pb, 0, none⟩ = some (.int .u64 bn) := HC.out.1.2 0 _ rfl
  have c1 : World.cell? w3 ⟨pb, 1, none⟩ = some (.int .u64 bm) := HC.out.1.2 1 _ rfl
  have c2 : World.cell? w3 ⟨pb, 2, none⟩ = some (.slice bsA bss.length bsc) := HC.out.1.2 2 _ rfl
  have c3 : World.cell? w3 ⟨pb, 3, none⟩ = some (.slice bcA bcs.length bcc) := HC.out.1.2 3 _ rfl
  have c4 : World.cell? w3 ⟨pb, 4, none⟩ = some (.slice bvA bvs.length bvc) := HC.out.1.2 4 _ rfl
  have HS := Lib.hid (S2.refIs_any (Sc.mk k0 A c l) w3 HA.out.2)
  rw [HP.out] at HS
  simp only [S2.val_mk] at HS
  go_wp2_with fail
  clear hw3
  refine HS.out.mono ?_
  clear HS
  rintro e w4 ⟨rfl, hbj⟩
  (replace a0 : World.cell? w4 ⟨w.heap.size, 0, none⟩ = some (.int .i64 k0) := (HA.out.1.later hbj).2 0 _ rfl; replace a1 : World.cell? w4 ⟨w.heap.size, 1, none⟩ = some (.slice A l.length c) := (HA.out.1.later hbj).2 1 _ rfl; replace b0 : World.cell? w4 ⟨w.heap.size + 1, 0, none⟩ = some (.int .u64 an) := (HB.out.1.later hbj).2 0 _ rfl; replace b1 : World.cell? w4 ⟨w.heap.size + 1, 1, none⟩ = some (.int .u64 am) := (HB.out.1.later hbj).2 1 _ rfl; replace b2 : World.cell? w4 ⟨w.heap.size + 1, 2, none⟩ = some (.slice asA ass.length asc) := (HB.out.1.later hbj).2 2 _ rfl; replace b3 : World.cell? w4 ⟨w.heap.size + 1, 3, none⟩ = some (.slice acA acs.length acc) := (HB.out.1.later hbj).2 3 _ rfl; replace b4 : World.cell? w4 ⟨w.heap.size + 1, 4, none⟩ = some (.slice avA avs.length avc) := (HB.out.1.later hbj).2 4 _ rfl; replace c0 : World.cell? w4 ⟨pb, 0, none⟩ = some (.int .u64 bn) := (HC.out.1.later hbj).2 0 _ rfl; replace c1 : World.cell? w4 ⟨pb, 1, none⟩ = some (.int .u64 bm) := (HC.out.1.later hbj).2 1 _ rfl; replace c2 : World.cell? w4 ⟨pb, 2, none⟩ = some (.slice bsA bss.length bsc) := (HC.out.1.later hbj).2 2 _ rfl; replace c3 : World.cell? w4 ⟨pb, 3, none⟩ = some (.slice bcA bcs.length bcc) := (HC.out.1.later hbj).2 3 _ rfl; replace c4 : World.cell? w4 ⟨pb, 4, none⟩ = some (.slice bvA bvs.length bvc) := (HC.out.1.later hbj).2 4 _ rfl; replace HA := Lib.hid (And.intro (HA.out.1.later hbj) (HA.out.2.later hbj)); replace HB := Lib.hid (And.intro (HB.out.1.later hbj) (HB.out.2.later hbj)); replace HC := Lib.hid (And.intro (HC.out.1.later hbj) (HC.out.2.later hbj)); replace HW := Lib.hid (HW.out.trans (hbj.mono HW.out.size)); clear hbj)
  cases p with
  | false =>
    have HI1 := Lib.hid (Is_any (Sc.mk k0 A c l) (Vl.mk an am asA asc ass acA acc acs avA avc avs) w4 HA.out.2 HB.out.2)
    rw [HP.out, Bool.false_and] at HI1
    simp only [val_mk, S2.val_mk] at HI1
    go_wp2_with fail
    refine HI1.out.mono ?_
    clear HI1
    rintro e w5 ⟨rfl, hbj⟩
    (replace a0 : World.cell? w5 ⟨w.heap.size, 0, none⟩ = some (.int .i64 k0) := (HA.out.1.later hbj).2 0 _ rfl; replace a1 : World.cell? w5 ⟨w.heap.size, 1, none⟩ = some (.slice A l.length c) := (HA.out.1.later hbj).2 1 _ rfl; replace b0 : World.cell? w5 ⟨w.heap.size + 1, 0, none⟩ = some (.int .u64 an) := (HB.out.1.later hbj).2 0 _ rfl; replace b1 : World.cell? w5 ⟨w.heap.size + 1, 1, none⟩ = some (.int .u64 am) := (HB.out.1.later hbj).2 1 _ rfl; replace b2 : World.cell? w5 ⟨w.heap.size + 1, 2, none⟩ = some (.slice asA ass.length asc) := (HB.out.1.later hbj).2 2 _ rfl; replace b3 : World.cell? w5 ⟨w.heap.size + 1, 3, none⟩ = some (.slice acA acs.length acc) := (HB.out.1.later hbj).2 3 _ rfl; replace b4 : World.cell? w5 ⟨w.heap.size + 1, 4, none⟩ = some (.slice avA avs.length avc) := (HB.out.1.later hbj).2 4 _ rfl; replace c0 : World.cell? w5 ⟨pb, 0, none⟩ = some (.int .u64 bn) := (HC.out.1.later hbj).2 0 _ rfl; replace c1 : World.cell? w5 ⟨pb, 1, none⟩ = some (.int .u64 bm) := (HC.out.1.later hbj).2 1 _ rfl; replace c2 : World.cell? w5 ⟨pb, 2, none⟩ = some (.slice bsA bss.length bsc) := (HC.out.1.later hbj).2 2 _ rfl; replace c3 : World.cell? w5 ⟨pb, 3, none⟩ = some (.slice bcA bcs.length bcc) := (HC.out.1.later hbj).2 3 _ rfl; replace c4 : World.cell? w5 ⟨pb, 4, none⟩ = some (.slice bvA bvs.length bvc) := (HC.out.1.later hbj).2 4 _ rfl; replace HA := Lib.hid (And.intro (HA.out.1.later hbj) (HA.out.2.later hbj)); replace HB := Lib.hid (And.intro (HB.out.1.later hbj) (HB.out.2.later hbj)); replace HC := Lib.hid (And.intro (HC.out.1.later hbj) (HC.out.2.later hbj)); replace HW := Lib.hid (HW.out.trans (hbj.mono HW.out.size)); clear hbj)
    have HI2 := Lib.hid (Is_any (Sc.mk k0 A c l) (Vl.mk bn bm bsA bsc bss bcA bcc bcs bvA bvc bvs) w5 HA.out.2 HC.out.2)
    rw [HP.out, Bool.false_and] at HI2
    simp only [val_mk, S2.val_mk] at HI2
    go_wp2_with fail
    refine HI2.out.mono ?_
    clear HI2
    rintro e w6 ⟨rfl, hbj⟩
    (replace a0 : World.cell? w6 ⟨w.heap.size, 0, none⟩ = some (.int .i64 k0) := (HA.out.1.later hbj).2 0 _ rfl; replace a1 : World.cell? w6 ⟨w.heap.size, 1, none⟩ = some (.slice A l.length c) := (HA.out.1.later hbj).2 1 _ rfl; replace b0 : World.cell? w6 ⟨w.heap.size + 1, 0, none⟩ = some (.int .u64 an) := (HB.out.1.later hbj).2 0 _ rfl; replace b1 : World.cell? w6 ⟨w.heap.size + 1, 1, none⟩ = some (.int .u64 am) := (HB.out.1.later hbj).2 1 _ rfl; replace b2 : World.cell? w6 ⟨w.heap.size + 1, 2, none⟩ = some (.slice asA ass.length asc) := (HB.out.1.later hbj).2 2 _ rfl; replace b3 : World.cell? w6 ⟨w.heap.size + 1, 3, none⟩ = some (.slice acA acs.length acc) := (HB.out.1.later hbj).2 3 _ rfl; replace b4 : World.cell? w6 ⟨w.heap.size + 1, 4, none⟩ = some (.slice avA avs.length avc) := (HB.out.1.later hbj).2 4 _ rfl; replace c0 : World.cell? w6 ⟨pb, 0, none⟩ = some (.int .u64 bn) := (HC.out.1.later hbj).2 0 _ rfl; replace c1 : World.cell? w6 ⟨pb, 1, none⟩ = some (.int .u64 bm) := (HC.out.1.later hbj).2 1 _ rfl; replace c2 : World.cell? w6 ⟨pb, 2, none⟩ = some (.slice bsA bss.length bsc) := (HC.out.1.later hbj).2 2 _ rfl; replace c3 : World.cell? w6 ⟨pb, 3, none⟩ = some (.slice bcA bcs.length bcc) := (HC.out.1.later hbj).2 3 _ rfl; replace c4 : World.cell? w6 ⟨pb, 4, none⟩ = some (.slice bvA bvs.length bvc) := (HC.out.1.later hbj).2 4 _ rfl; replace HA := Lib.hid (And.intro (HA.out.1.later hbj) (HA.out.2.later hbj)); replace HB := Lib.hid (And.intro (HB.out.1.later hbj) (HB.out.2.later hbj)); replace HC := Lib.hid (And.intro (HC.out.1.later hbj) (HC.out.2.later hbj)); replace HW := Lib.hid (HW.out.trans (hbj.mono HW.out.size)); clear hbj)
    go_wp2_with fail
    go_ret
    exact ⟨rfl, HW.out⟩
  | true =>
    have HIB : Hid ((isT 16 (Sc.mk k0 A c l).er && isV (Sc.mk k0 A c l).er (Vl.mk bn bm bsA bsc bss bcA bcc bcs bvA bvc bvs).er) = true) := by
      show (_ && _) = true
      rw [HCE.out, HP.out, isV_bot _ 16 (Nat.le_refl _) HP.out]; rfl
    have HNB : Hid (decide ((Vl.mk bn bm bsA bsc bss bcA bcc bcs bvA bvc bvs).er = botT (Sc.mk k0 A c l).er) = true) := decide_eq_true HCE.out
    obtain ⟨q, hq⟩ : ∃ q, decide ((Vl.mk an am asA asc ass acA acc acs avA avc avs).er = botT (Sc.mk k0 A c l).er) = q := ⟨_, rfl⟩
    have HQ := Lib.hid hq
    have HQ2 : Hid (decide ((Vl.mk an am asA asc ass acA acc acs avA avc avs).er = (Vl.mk bn bm bsA bsc bss bcA bcc bcs bvA bvc bvs).er) = q) := by show decide _ = q; rw [HCE.out]; exact hq
    have HIV : Hid (q = true → (isT 16 (Sc.mk k0 A c l).er && isV (Sc.mk k0 A c l).er (Vl.mk an am asA asc ass acA acc acs avA avc avs).er) = true) := fun h => by
      rw [of_decide_eq_true (hq.trans h), HP.out, isV_bot _ 16 (Nat.le_refl _) HP.out]; rfl
    clear hq
    replace HA := Lib.hid (And.intro (HA.out.1.later (drewB _)) (HA.out.2.later (drewB _)))
    replace HB := Lib.hid (And.intro (HB.out.1.later (drewB _)) (HB.out.2.later (drewB _)))
    replace HC := Lib.hid (And.intro (HC.out.1.later (drewB _)) (HC.out.2.later (drewB _)))
    replace HW := Lib.hid HW.out.drew
    cases q with
    | true =>
      have HIV2 := Lib.hid (HIV.out (by trivial))
      go_wp2_with fail
      refine wp_region_noPanic ?_
      refine wp_region_held_drew (S := (fun w' => World.cell? w' ⟨w.heap.size, 0, none⟩ = some (.int .i64 k0) ∧ World.cell? w' ⟨w.heap.size, 1, none⟩ = some (.slice A l.length c) ∧ World.cell? w' ⟨w.heap.size + 1, 0, none⟩ = some (.int .u64 an) ∧ World.cell? w' ⟨w.heap.size + 1, 1, none⟩ = some (.int .u64 am) ∧ World.cell? w' ⟨w.heap.size + 1, 2, none⟩ = some (.slice asA ass.length asc) ∧ World.cell? w' ⟨w.heap.size + 1, 3, none⟩ = some (.slice acA acs.length acc) ∧ World.cell? w' ⟨w.heap.size + 1, 4, none⟩ = some (.slice avA avs.length avc) ∧ World.cell? w' ⟨pb, 0, none⟩ = some (.int .u64 bn) ∧ World.cell? w' ⟨pb, 1, none⟩ = some (.int .u64 bm) ∧ World.cell? w' ⟨pb, 2, none⟩ = some (.slice bsA bss.length bsc) ∧ World.cell? w' ⟨pb, 3, none⟩ = some (.slice bcA bcs.length bcc) ∧ World.cell? w' ⟨pb, 4, none⟩ = some (.slice bvA bvs.length bvc))) (by kernel_rfl) ?_ (fun hHeld => ?_)
      · exact ⟨a0, a1, b0, b1, b2, b3, b4, c0, c1, c2, c3, c4⟩
      refine takeH 0 23 (v := ?q1_v0) rfl rfl (by kernel_rfl) (by kernel_rfl) (by kernel_rfl) (fun _ _ _ h => h) (Or.inl ⟨by rfl, ?q1_h0⟩) (by assumption) ?q1_r0
      case q1_h0 => (intro w hSw; (try dsimp only at hSw); go_simp; try (with_reducible rfl))
      simp only [List.set_cons_zero, List.set_cons_succ]
      refine takeH 1 24 (v := ?q1_v1) rfl rfl (by kernel_rfl) (by kernel_rfl) (by kernel_rfl) (fun _ _ _ h => h) (Or.inl ⟨by rfl, ?q1_h1⟩) (by assumption) ?q1_r1
      case q1_h1 => (intro w hSw; (try dsimp only at hSw); go_simp; try (with_reducible rfl))
      simp only [List.set_cons_zero, List.set_cons_succ]
      refine wpAnyH_ready (rs := [2]) (by kernel_rfl) (by simp) ?_
      refine AllReadyH.cons rfl (fun K hK => ?_) AllReadyH.nil
      go_simp
      go_wp2_with (go_at_call 9; refine (Is_any (Sc.mk k0 A c l) (Vl.mk bn bm bsA bsc bss bcA bcc bcs bvA bvc bvs) _ HA.out.2 HC.out.2).mono ?_; rintro e wj ⟨rfl, hbj⟩; (rw [HIB.out]; replace a0 : World.cell? wj ⟨w.heap.size, 0, none⟩ = some (.int .i64 k0) := (HA.out.1.later hbj).2 0 _ rfl; replace a1 : World.cell? wj ⟨w.heap.size, 1, none⟩ = some (.slice A l.length c) := (HA.out.1.later hbj).2 1 _ rfl; replace b0 : World.cell? wj ⟨w.heap.size + 1, 0, none⟩ = some (.int .u64 an) := (HB.out.1.later hbj).2 0 _ rfl; replace b1 : World.cell? wj ⟨w.heap.size + 1, 1, none⟩ = some (.int .u64 am) := (HB.out.1.later hbj).2 1 _ rfl; replace b2 : World.cell? wj ⟨w.heap.size + 1, 2, none⟩ = some (.slice asA ass.length asc) := (HB.out.1.later hbj).2 2 _ rfl; replace b3 : World.cell? wj ⟨w.heap.size + 1, 3, none⟩ = some (.slice acA acs.length acc) := (HB.out.1.later hbj).2 3 _ rfl; replace b4 : World.cell? wj ⟨w.heap.size + 1, 4, none⟩ = some (.slice avA avs.length avc) := (HB.out.1.later hbj).2 4 _ rfl; replace c0 : World.cell? wj ⟨pb, 0, none⟩ = some (.int .u64 bn) := (HC.out.1.later hbj).2 0 _ rfl; replace c1 : World.cell? wj ⟨pb, 1, none⟩ = some (.int .u64 bm) := (HC.out.1.later hbj).2 1 _ rfl; replace c2 : World.cell? wj ⟨pb, 2, none⟩ = some (.slice bsA bss.length bsc) := (HC.out.1.later hbj).2 2 _ rfl; replace c3 : World.cell? wj ⟨pb, 3, none⟩ = some (.slice bcA bcs.length bcc) := (HC.out.1.later hbj).2 3 _ rfl; replace c4 : World.cell? wj ⟨pb, 4, none⟩ = some (.slice bvA bvs.length bvc) := (HC.out.1.later hbj).2 4 _ rfl; replace HA := Lib.hid (And.intro (HA.out.1.later hbj) (HA.out.2.later hbj)); replace HB := Lib.hid (And.intro (HB.out.1.later hbj) (HB.out.2.later hbj)); replace HC := Lib.hid (And.intro (HC.out.1.later hbj) (HC.out.2.later hbj)); replace HW := Lib.hid (HW.out.trans (hbj.mono HW.out.size)); clear hbj))
      refine hK.out _ _ ?_ (fun hHeld => ?_)
      · exact ⟨a0, a1, b0, b1, b2, b3, b4, c0, c1, c2, c3, c4⟩
      clear hK K
      refine takeH 3 26 (v := ?q1_v3) rfl rfl (by kernel_rfl) (by kernel_rfl) (by kernel_rfl) (fun _ _ _ h => h) (Or.inl ⟨by rfl, ?q1_h3⟩) (by assumption) ?q1_r3
      case q1_h3 => (intro w hSw; (try dsimp only at hSw); go_simp; try (with_reducible rfl))
      simp only [List.set_cons_zero, List.set_cons_succ]
      refine takeH 4 27 (v := ?q1_v4) rfl rfl (by kernel_rfl) (by kernel_rfl) (by kernel_rfl) (fun _ _ _ h => h) (Or.inl ⟨by rfl, ?q1_h4⟩) (by assumption) ?q1_r4
      case q1_h4 => (intro w hSw; (try dsimp only at hSw); go_simp; try (with_reducible rfl))
      simp only [List.set_cons_zero, List.set_cons_succ]
      refine takeH 5 28 (v := ?q1_v5) rfl rfl (by kernel_rfl) (by kernel_rfl) (by kernel_rfl) (fun _ _ _ h => h) (Or.inl ⟨by rfl, ?q1_h5⟩) (by assumption) ?q1_r5
      case q1_h5 => (intro w hSw; (try dsimp only at hSw); go_simp; try (with_reducible rfl))
      simp only [List.set_cons_zero, List.set_cons_succ]
      refine wpAnyH_ready (rs := [6]) (by kernel_rfl) (by simp) ?_
      refine AllReadyH.cons rfl (fun K hK => ?_) AllReadyH.nil
      go_simp
      go_wp2_with (go_at_call 14; refine (None_any (Sc.mk k0 A c l) (Vl.mk bn bm bsA bsc bss bcA bcc bcs bvA bvc bvs) _ HA.out.2 HC.out.2).mono ?_; rintro e wj ⟨rfl, hbj⟩; (rw [HNB.out]; replace a0 : World.cell? wj ⟨w.heap.size, 0, none⟩ = some (.int .i64 k0) := (HA.out.1.later hbj).2 0 _ rfl; replace a1 : World.cell? wj ⟨w.heap.size, 1, none⟩ = some (.slice A l.length c) := (HA.out.1.later hbj).2 1 _ rfl; replace b0 : World.cell? wj ⟨w.heap.size + 1, 0, none⟩ = some (.int .u64 an) := (HB.out.1.later hbj).2 0 _ rfl; replace b1 : World.cell? wj ⟨w.heap.size + 1, 1, none⟩ = some (.int .u64 am) := (HB.out.1.later hbj).2 1 _ rfl; replace b2 : World.cell? wj ⟨w.heap.size + 1, 2, none⟩ = some (.slice asA ass.length asc) := (HB.out.1.later hbj).2 2 _ rfl; replace b3 : World.cell? wj ⟨w.heap.size + 1, 3, none⟩ = some (.slice acA acs.length acc) := (HB.out.1.later hbj).2 3 _ rfl; replace b4 : World.cell? wj ⟨w.heap.size + 1, 4, none⟩ = some (.slice avA avs.length avc) := (HB.out.1.later hbj).2 4 _ rfl; replace c0 : World.cell? wj ⟨pb, 0, none⟩ = some (.int .u64 bn) := (HC.out.1.later hbj).2 0 _ rfl; replace c1 : World.cell? wj ⟨pb, 1, none⟩ = some (.int .u64 bm) := (HC.out.1.later hbj).2 1 _ rfl; replace c2 : World.cell? wj ⟨pb, 2, none⟩ = some (.slice bsA bss.length bsc) := (HC.out.1.later hbj).2 2 _ rfl; replace c3 : World.cell? wj ⟨pb, 3, none⟩ = some (.slice bcA bcs.length bcc) := (HC.out.1.later hbj).2 3 _ rfl; replace c4 : World.cell? wj ⟨pb, 4, none⟩ = some (.slice bvA bvs.length bvc) := (HC.out.1.later hbj).2 4 _ rfl; replace HA := Lib.hid (And.intro (HA.out.1.later hbj) (HA.out.2.later hbj)); replace HB := Lib.hid (And.intro (HB.out.1.later hbj) (HB.out.2.later hbj)); replace HC := Lib.hid (And.intro (HC.out.1.later hbj) (HC.out.2.later hbj)); replace HW := Lib.hid (HW.out.trans (hbj.mono HW.out.size)); clear hbj))
      refine hK.out _ _ ?_ (fun hHeld => ?_)
      · exact ⟨a0, a1, b0, b1, b2, b3, b4, c0, c1, c2, c3, c4⟩
      clear hK K
      refine takeH 7 30 (v := ?q1_v7) rfl rfl (by kernel_rfl) (by kernel_rfl) (by kernel_rfl) (fun _ _ _ h => h) (Or.inl ⟨by rfl, ?q1_h7⟩) (by assumption) ?q1_r7
      case q1_h7 => (intro w hSw; (try dsimp only at hSw); go_simp; try (with_reducible rfl))
      simp only [List.set_cons_zero, List.set_cons_succ]
      refine takeH 8 31 (v := ?q1_v8) rfl rfl (by kernel_rfl) (by kernel_rfl) (by kernel_rfl) (fun _ _ _ h => h) (Or.inl ⟨by rfl, ?q1_h8⟩) (by assumption) ?q1_r8
      case q1_h8 => (intro w hSw; (try dsimp only at hSw); go_simp; try (with_reducible rfl))
      simp only [List.set_cons_zero, List.set_cons_succ]
      refine takeH 9 32 (v := ?q1_v9) rfl rfl (by kernel_rfl) (by kernel_rfl) (by kernel_rfl) (fun _ _ _ h => h) (Or.inl ⟨by rfl, ?q1_h9⟩) (by assumption) ?q1_r9
      case q1_h9 => (intro w hSw; (try dsimp only at hSw); go_simp; try (with_reducible rfl))
      simp only [List.set_cons_zero, List.set_cons_succ]
      refine takeH 10 33 (v := ?q1_v10) rfl rfl (by kernel_rfl) (by kernel_rfl) (by kernel_rfl) (fun _ _ _ h => h) (Or.inl ⟨by rfl, ?q1_h10⟩) (by assumption) ?q1_r10
      case q1_h10 => (intro w hSw; (try dsimp only at hSw); go_simp; try (with_reducible rfl))
      simp only [List.set_cons_zero, List.set_cons_succ]
      refine takeH 12 35 (v := ?q1_v12) rfl rfl (by kernel_rfl) (by kernel_rfl) (by kernel_rfl) (fun _ _ _ h => h) (Or.inl ⟨by rfl, ?q1_h12⟩) (by assumption) ?q1_r12
      case q1_h12 => (intro w hSw; (try dsimp only at hSw); go_simp; try (with_reducible rfl))
      simp only [List.set_cons_zero, List.set_cons_succ]
      refine takeH 13 36 (v := ?q1_v13) rfl rfl (by kernel_rfl) (by kernel_rfl) (by kernel_rfl) (fun _ _ _ h => h) (Or.inl ⟨by rfl, ?q1_h13⟩) (by assumption) ?q1_r13
      case q1_h13 => (intro w hSw; (try dsimp only at hSw); go_simp; try (with_reducible rfl))
      simp only [List.set_cons_zero, List.set_cons_succ]
      refine wpAnyH_ready (rs := [11]) (by kernel_rfl) (by simp) ?_
      refine AllReadyH.cons rfl (fun K hK => ?_) AllReadyH.nil
      go_simp
      go_wp2_with (go_at_call 14; refine (None_any (Sc.mk k0 A c l) (Vl.mk an am asA asc ass acA acc acs avA avc avs) _ HA.out.2 HB.out.2).mono ?_; rintro e wj ⟨rfl, hbj⟩; (rw [HQ.out]; replace a0 : World.cell? wj ⟨w.heap.size, 0, none⟩ = some (.int .i64 k0) := (HA.out.1.later hbj).2 0 _ rfl; replace a1 : World.cell? wj ⟨w.heap.size, 1, none⟩ = some (.slice A l.length c) := (HA.out.1.later hbj).2 1 _ rfl; replace b0 : World.cell? wj ⟨w.heap.size + 1, 0, none⟩ = some (.int .u64 an) := (HB.out.1.later hbj).2 0 _ rfl; replace b1 : World.cell? wj ⟨w.heap.size + 1, 1, none⟩ = some (.int .u64 am) := (HB.out.1.later hbj).2 1 _ rfl; replace b2 : World.cell? wj ⟨w.heap.size + 1, 2, none⟩ = some (.slice asA ass.length asc) := (HB.out.1.later hbj).2 2 _ rfl; replace b3 : World.cell? wj ⟨w.heap.size + 1, 3, none⟩ = some (.slice acA acs.length acc) := (HB.out.1.later hbj).2 3 _ rfl; replace b4 : World.cell? wj ⟨w.heap.size + 1, 4, none⟩ = some (.slice avA avs.length avc) := (HB.out.1.later hbj).2 4 _ rfl; replace c0 : World.cell? wj ⟨pb, 0, none⟩ = some (.int .u64 bn) := (HC.out.1.later hbj).2 0 _ rfl; replace c1 : World.cell? wj ⟨pb, 1, none⟩ = some (.int .u64 bm) := (HC.out.1.later hbj).2 1 _ rfl; replace c2 : World.cell? wj ⟨pb, 2, none⟩ = some (.slice bsA bss.length bsc) := (HC.out.1.later hbj).2 2 _ rfl; replace c3 : World.cell? wj ⟨pb, 3, none⟩ = some (.slice bcA bcs.length bcc) := (HC.out.1.later hbj).2 3 _ rfl; replace c4 : World.cell? wj ⟨pb, 4, none⟩ = some (.slice bvA bvs.length bvc) := (HC.out.1.later hbj).2 4 _ rfl; replace HA := Lib.hid (And.intro (HA.out.1.later hbj) (HA.out.2.later hbj)); replace HB := Lib.hid (And.intro (HB.out.1.later hbj) (HB.out.2.later hbj)); replace HC := Lib.hid (And.intro (HC.out.1.later hbj) (HC.out.2.later hbj)); replace HW := Lib.hid (HW.out.trans (hbj.mono HW.out.size)); clear hbj))
      refine hK.out _ _ ?_ (fun hHeld => ?_)
      · exact ⟨a0, a1, b0, b1, b2, b3, b4, c0, c1, c2, c3, c4⟩
      clear hK K
      refine wpAnyH_ready (rs := [14]) (by kernel_rfl) (by simp) ?_
      refine AllReadyH.cons rfl (fun K hK => ?_) AllReadyH.nil
      go_simp
      go_wp2_with (go_at_call 16; refine (Same_any (Vl.mk an am asA asc ass acA acc acs avA avc avs) (Vl.mk bn bm bsA bsc bss bcA bcc bcs bvA bvc bvs) _ HB.out.2 HC.out.2).mono ?_; rintro e wj ⟨rfl, hbj⟩; (rw [HQ2.out]; replace a0 : World.cell? wj ⟨w.heap.size, 0, none⟩ = some (.int .i64 k0) := (HA.out.1.later hbj).2 0 _ rfl; replace a1 : World.cell? wj ⟨w.heap.size, 1, none⟩ = some (.slice A l.length c) := (HA.out.1.later hbj).2 1 _ rfl; replace b0 : World.cell? wj ⟨w.heap.size + 1, 0, none⟩ = some (.int .u64 an) := (HB.out.1.later hbj).2 0 _ rfl; replace b1 : World.cell? wj ⟨w.heap.size + 1, 1, none⟩ = some (.int .u64 am) := (HB.out.1.later hbj).2 1 _ rfl; replace b2 : World.cell? wj ⟨w.heap.size + 1, 2, none⟩ = some (.slice asA ass.length asc) := (HB.out.1.later hbj).2 2 _ rfl; replace b3 : World.cell? wj ⟨w.heap.size + 1, 3, none⟩ = some (.slice acA acs.length acc) := (HB.out.1.later hbj).2 3 _ rfl; replace b4 : World.cell? wj ⟨w.heap.size + 1, 4, none⟩ = some (.slice avA avs.length avc) := (HB.out.1.later hbj).2 4 _ rfl; replace c0 : World.cell? wj ⟨pb, 0, none⟩ = some (.int .u64 bn) := (HC.out.1.later hbj).2 0 _ rfl; replace c1 : World.cell? wj ⟨pb, 1, none⟩ = some (.int .u64 bm) := (HC.out.1.later hbj).2 1 _ rfl; replace c2 : World.cell? wj ⟨pb, 2, none⟩ = some (.slice bsA bss.length bsc) := (HC.out.1.later hbj).2 2 _ rfl; replace c3 : World.cell? wj ⟨pb, 3, none⟩ = some (.slice bcA bcs.length bcc) := (HC.out.1.later hbj).2 3 _ rfl; replace c4 : World.cell? wj ⟨pb, 4, none⟩ = some (.slice bvA bvs.length bvc) := (HC.out.1.later hbj).2 4 _ rfl; replace HA := Lib.hid (And.intro (HA.out.1.later hbj) (HA.out.2.later hbj)); replace HB := Lib.hid (And.intro (HB.out.1.later hbj) (HB.out.2.later hbj)); replace HC := Lib.hid (And.intro (HC.out.1.later hbj) (HC.out.2.later hbj)); replace HW := Lib.hid (HW.out.trans (hbj.mono HW.out.size)); clear hbj))
      refine hK.out _ _ ?_ (fun hHeld => ?_)
      · exact ⟨a0, a1, b0, b1, b2, b3, b4, c0, c1, c2, c3, c4⟩
      clear hK K
      refine takeH 15 38 (v := ?q1_v15) rfl rfl (by kernel_rfl) (by kernel_rfl) (by kernel_rfl) (fun _ _ _ h => h) (Or.inl ⟨by rfl, ?q1_h15⟩) (by assumption) ?q1_r15
      case q1_h15 => (intro w hSw; (try dsimp only at hSw); go_simp; try (with_reducible rfl))
      simp only [List.set_cons_zero, List.set_cons_succ]
      refine takeH 16 39 (v := ?q1_v16) rfl rfl (by kernel_rfl) (by kernel_rfl) (by kernel_rfl) (fun _ _ _ h => h) (Or.inl ⟨by rfl, ?q1_h16⟩) (by assumption) ?q1_r16
      case q1_h16 => (intro w hSw; (try dsimp only at hSw); go_simp; try (with_reducible rfl))
      simp only [List.set_cons_zero, List.set_cons_succ]
      refine takeH 17 40 (v := ?q1_v17) rfl rfl (by kernel_rfl) (by kernel_rfl) (by kernel_rfl) (fun _ _ _ h => h) (Or.inl ⟨by rfl, ?q1_h17⟩) (by assumption) ?q1_r17
      case q1_h17 => (intro w hSw; (try dsimp only at hSw); go_simp; try (with_reducible rfl))
      simp only [List.set_cons_zero, List.set_cons_succ]
      refine takeH 18 41 (v := ?q1_v18) rfl rfl (by kernel_rfl) (by kernel_rfl) (by kernel_rfl) (fun _ _ _ h => h) (Or.inl ⟨by rfl, ?q1_h18⟩) (by assumption) ?q1_r18
      case q1_h18 => (intro w hSw; (try dsimp only at hSw); go_simp; try (with_reducible rfl))
      simp only [List.set_cons_zero, List.set_cons_succ]
      refine takeH 19 42 (v := ?q1_v19) rfl rfl (by kernel_rfl) (by kernel_rfl) (by kernel_rfl) (fun _ _ _ h => h) (Or.inl ⟨by rfl, ?q1_h19⟩) (by assumption) ?q1_r19
      case q1_h19 => (intro w hSw; (try dsimp only at hSw); go_simp; try (with_reducible rfl))
      simp only [List.set_cons_zero, List.set_cons_succ]
      refine wpAnyH_ready (rs := [20]) (by kernel_rfl) (by simp) ?_
      refine AllReadyH.cons rfl (fun K hK => ?_) AllReadyH.nil
      go_simp
      go_wp2_with (go_at_call 14; refine (None_any (Sc.mk k0 A c l) (Vl.mk an am asA asc ass acA acc acs avA avc avs) _ HA.out.2 HB.out.2).mono ?_; rintro e wj ⟨rfl, hbj⟩; (rw [HQ.out]; replace a0 : World.cell? wj ⟨w.heap.size, 0, none⟩ = some (.int .i64 k0) := (HA.out.1.later hbj).2 0 _ rfl; replace a1 : World.cell? wj ⟨w.heap.size, 1, none⟩ = some (.slice A l.length c) := (HA.out.1.later hbj).2 1 _ rfl; replace b0 : World.cell? wj ⟨w.heap.size + 1, 0, none⟩ = some (.int .u64 an) := (HB.out.1.later hbj).2 0 _ rfl; replace b1 : World.cell? wj ⟨w.heap.size + 1, 1, none⟩ = some (.int .u64 am) := (HB.out.1.later hbj).2 1 _ rfl; replace b2 : World.cell? wj ⟨w.heap.size + 1, 2, none⟩ = some (.slice asA ass.length asc) := (HB.out.1.later hbj).2 2 _ rfl; replace b3 : World.cell? wj ⟨w.heap.size + 1, 3, none⟩ = some (.slice acA acs.length acc) := (HB.out.1.later hbj).2 3 _ rfl; replace b4 : World.cell? wj ⟨w.heap.size + 1, 4, none⟩ = some (.slice avA avs.length avc) := (HB.out.1.later hbj).2 4 _ rfl; replace c0 : World.cell? wj ⟨pb, 0, none⟩ = some (.int .u64 bn) := (HC.out.1.later hbj).2 0 _ rfl; replace c1 : World.cell? wj ⟨pb, 1, none⟩ = some (.int .u64 bm) := (HC.out.1.later hbj).2 1 _ rfl; replace c2 : World.cell? wj ⟨pb, 2, none⟩ = some (.slice bsA bss.length bsc) := (HC.out.1.later hbj).2 2 _ rfl; replace c3 : World.cell? wj ⟨pb, 3, none⟩ = some (.slice bcA bcs.length bcc) := (HC.out.1.later hbj).2 3 _ rfl; replace c4 : World.cell? wj ⟨pb, 4, none⟩ = some (.slice bvA bvs.length bvc) := (HC.out.1.later hbj).2 4 _ rfl; replace HA := Lib.hid (And.intro (HA.out.1.later hbj) (HA.out.2.later hbj)); replace HB := Lib.hid (And.intro (HB.out.1.later hbj) (HB.out.2.later hbj)); replace HC := Lib.hid (And.intro (HC.out.1.later hbj) (HC.out.2.later hbj)); replace HW := Lib.hid (HW.out.trans (hbj.mono HW.out.size)); clear hbj))
      refine hK.out _ _ ?_ (fun hHeld => ?_)
      · exact ⟨a0, a1, b0, b1, b2, b3, b4, c0, c1, c2, c3, c4⟩
      clear hK K
      refine takeH 21 44 (v := ?q1_v21) rfl rfl (by kernel_rfl) (by kernel_rfl) (by kernel_rfl) (fun _ _ _ h => h) (Or.inl ⟨by rfl, ?q1_h21⟩) (by assumption) ?q1_r21
      case q1_h21 => (intro w hSw; (try dsimp only at hSw); go_simp; try (with_reducible rfl))
      simp only [List.set_cons_zero, List.set_cons_succ]
      refine takeH 22 45 (v := ?q1_v22) rfl rfl (by kernel_rfl) (by kernel_rfl) (by kernel_rfl) (fun _ _ _ h => h) (Or.inl ⟨by rfl, ?q1_h22⟩) (by assumption) ?q1_r22
      case q1_h22 => (intro w hSw; (try dsimp only at hSw); go_simp; try (with_reducible rfl))
      simp only [List.set_cons_zero, List.set_cons_succ]
      refine takeH 23 46 (v := ?q1_v23) rfl rfl (by kernel_rfl) (by kernel_rfl) (by kernel_rfl) (fun _ _ _ h => h) (Or.inl ⟨by rfl, ?q1_h23⟩) (by assumption) ?q1_r23
      case q1_h23 => (intro w hSw; (try dsimp only at hSw); go_simp; try (with_reducible rfl))
      simp only [List.set_cons_zero, List.set_cons_succ]
      refine takeH 24 47 (v := ?q1_v24) rfl rfl (by kernel_rfl) (by kernel_rfl) (by kernel_rfl) (fun _ _ _ h => h) (Or.inl ⟨by rfl, ?q1_h24⟩) (by assumption) ?q1_r24
      case q1_h24 => (intro w hSw; (try dsimp only at hSw); go_simp; try (with_reducible rfl))
      simp only [List.set_cons_zero, List.set_cons_succ]
      refine wpAnyH_ready (rs := [25]) (by kernel_rfl) (by simp) ?_
      refine AllReadyH.cons rfl (fun K hK => ?_) AllReadyH.nil
      go_simp
      go_wp2_with (go_at_call 9; refine (Is_any (Sc.mk k0 A c l) (Vl.mk an am asA asc ass acA acc acs avA avc avs) _ HA.out.2 HB.out.2).mono ?_; rintro e wj ⟨rfl, hbj⟩; (rw [HIV2.out]; replace a0 : World.cell? wj ⟨w.heap.size, 0, none⟩ = some (.int .i64 k0) := (HA.out.1.later hbj).2 0 _ rfl; replace a1 : World.cell? wj ⟨w.heap.size, 1, none⟩ = some (.slice A l.length c) := (HA.out.1.later hbj).2 1 _ rfl; replace b0 : World.cell? wj ⟨w.heap.size + 1, 0, none⟩ = some (.int .u64 an) := (HB.out.1.later hbj).2 0 _ rfl; replace b1 : World.cell? wj ⟨w.heap.size + 1, 1, none⟩ = some (.int .u64 am) := (HB.out.1.later hbj).2 1 _ rfl; replace b2 : World.cell? wj ⟨w.heap.size + 1, 2, none⟩ = some (.slice asA ass.length asc) := (HB.out.1.later hbj).2 2 _ rfl; replace b3 : World.cell? wj ⟨w.heap.size + 1, 3, none⟩ = some (.slice acA acs.length acc) := (HB.out.1.later hbj).2 3 _ rfl; replace b4 : World.cell? wj ⟨w.heap.size + 1, 4, none⟩ = some (.slice avA avs.length avc) := (HB.out.1.later hbj).2 4 _ rfl; replace c0 : World.cell? wj ⟨pb, 0, none⟩ = some (.int .u64 bn) := (HC.out.1.later hbj).2 0 _ rfl; replace c1 : World.cell? wj ⟨pb, 1, none⟩ = some (.int .u64 bm) := (HC.out.1.later hbj).2 1 _ rfl; replace c2 : World.cell? wj ⟨pb, 2, none⟩ = some (.slice bsA bss.length bsc) := (HC.out.1.later hbj).2 2 _ rfl; replace c3 : World.cell? wj ⟨pb, 3, none⟩ = some (.slice bcA bcs.length bcc) := (HC.out.1.later hbj).2 3 _ rfl; replace c4 : World.cell? wj ⟨pb, 4, none⟩ = some (.slice bvA bvs.length bvc) := (HC.out.1.later hbj).2 4 _ rfl; replace HA := Lib.hid (And.intro (HA.out.1.later hbj) (HA.out.2.later hbj)); replace HB := Lib.hid (And.intro (HB.out.1.later hbj) (HB.out.2.later hbj)); replace HC := Lib.hid (And.intro (HC.out.1.later hbj) (HC.out.2.later hbj)); replace HW := Lib.hid (HW.out.trans (hbj.mono HW.out.size)); clear hbj))
      refine hK.out _ _ ?_ (fun hHeld => ?_)
      · exact ⟨a0, a1, b0, b1, b2, b3, b4, c0, c1, c2, c3, c4⟩
      clear hK K
      refine takeH 26 49 (v := ?q1_v26) rfl rfl (by kernel_rfl) (by kernel_rfl) (by kernel_rfl) (fun _ _ _ h => h) (Or.inl ⟨by rfl, ?q1_h26⟩) (by assumption) ?q1_r26
      case q1_h26 => (intro w hSw; (try dsimp only at hSw); go_simp; try (with_reducible rfl))
      simp only [List.set_cons_zero, List.set_cons_succ]
      refine takeH 27 50 (v := ?q1_v27) rfl rfl (by kernel_rfl) (by kernel_rfl) (by kernel_rfl) (fun _ _ _ h => h) (Or.inl ⟨by rfl, ?q1_h27⟩) (by assumption) ?q1_r27
      case q1_h27 => (intro w hSw; (try dsimp only at hSw); go_simp; try (with_reducible rfl))
      simp only [List.set_cons_zero, List.set_cons_succ]
      refine takeH 28 4 (v := ?q1_v28) rfl rfl (by kernel_rfl) (by kernel_rfl) (by kernel_rfl) (fun _ _ _ h => h) (Or.inl ⟨by rfl, ?q1_h28⟩) (by assumption) ?q1_r28
      case q1_h28 => (intro w hSw; (try dsimp only at hSw); go_simp; try (with_reducible rfl))
      simp only [List.set_cons_zero, List.set_cons_succ]
      refine wpAnyH_done (by kernel_rfl) ?_ _
      refine NoPanic.normal ?_
      go_wp2_with fail
      go_ret
      exact ⟨rfl, HW.out⟩
    | false =>
      go_wp2_with fail
      refine wp_region_noPanic ?_
      refine wp_region_held_drew (S := (fun w' => World.cell? w' ⟨w.heap.size, 0, none⟩ = some (.int .i64 k0) ∧ World.cell? w' ⟨w.heap.size, 1, none⟩ = some (.slice A l.length c) ∧ World.cell? w' ⟨w.heap.size + 1, 0, none⟩ = some (.int .u64 an) ∧ World.cell? w' ⟨w.heap.size + 1, 1, none⟩ = some (.int .u64 am) ∧ World.cell? w' ⟨w.heap.size + 1, 2, none⟩ = some (.slice asA ass.length asc) ∧ World.cell? w' ⟨w.heap.size + 1, 3, none⟩ = some (.slice acA acs.length acc) ∧ World.cell? w' ⟨w.heap.size + 1, 4, none⟩ = some (.slice avA avs.length avc) ∧ World.cell? w' ⟨pb, 0, none⟩ = some (.int .u64 bn) ∧ World.cell? w' ⟨pb, 1, none⟩ = some (.int .u64 bm) ∧ World.cell? w' ⟨pb, 2, none⟩ = some (.slice bsA bss.length bsc) ∧ World.cell? w' ⟨pb, 3, none⟩ = some (.slice bcA bcs.length bcc) ∧ World.cell? w' ⟨pb, 4, none⟩ = some (.slice bvA bvs.length bvc))) (by kernel_rfl) ?_ (fun hHeld => ?_)
      · exact ⟨a0, a1, b0, b1, b2, b3, b4, c0, c1, c2, c3, c4⟩
      refine takeH 0 23 (v := ?q2_v0) rfl rfl (by kernel_rfl) (by kernel_rfl) (by kernel_rfl) (fun _ _ _ h => h) (Or.inl ⟨by rfl, ?q2_h0⟩) (by assumption) ?q2_r0
      case q2_h0 => (intro w hSw; (try dsimp only at hSw); go_simp; try (with_reducible rfl))
      simp only [List.set_cons_zero, List.set_cons_succ]
      refine takeH 1 24 (v := ?q2_v1) rfl rfl (by kernel_rfl) (by kernel_rfl) (by kernel_rfl) (fun _ _ _ h => h) (Or.inl ⟨by rfl, ?q2_h1⟩) (by assumption) ?q2_r1
      case q2_h1 => (intro w hSw; (try dsimp only at hSw); go_simp; try (with_reducible rfl))
      simp only [List.set_cons_zero, List.set_cons_succ]
      refine wpAnyH_ready (rs := [2]) (by kernel_rfl) (by simp) ?_
      refine AllReadyH.cons rfl (fun K hK => ?_) AllReadyH.nil
      go_simp
      go_wp2_with (go_at_call 9; refine (Is_any (Sc.mk k0 A c l) (Vl.mk bn bm bsA bsc bss bcA bcc bcs bvA bvc bvs) _ HA.out.2 HC.out.2).mono ?_; rintro e wj ⟨rfl, hbj⟩; (rw [HIB.out]; replace a0 : World.cell? wj ⟨w.heap.size, 0, none⟩ = some (.int .i64 k0) := (HA.out.1.later hbj).2 0 _ rfl; replace a1 : World.cell? wj ⟨w.heap.size, 1, none⟩ = some (.slice A l.length c) := (HA.out.1.later hbj).2 1 _ rfl; replace b0 : World.cell? wj ⟨w.heap.size + 1, 0, none⟩ = some (.int .u64 an) := (HB.out.1.later hbj).2 0 _ rfl; replace b1 : World.cell? wj ⟨w.heap.size + 1, 1, none⟩ = some (.int .u64 am) := (HB.out.1.later hbj).2 1 _ rfl; replace b2 : World.cell? wj ⟨w.heap.size + 1, 2, none⟩ = some (.slice asA ass.length asc) := (HB.out.1.later hbj).2 2 _ rfl; replace b3 : World.cell? wj ⟨w.heap.size + 1, 3, none⟩ = some (.slice acA acs.length acc) := (HB.out.1.later hbj).2 3 _ rfl; replace b4 : World.cell? wj ⟨w.heap.size + 1, 4, none⟩ = some (.slice avA avs.length avc) := (HB.out.1.later hbj).2 4 _ rfl; replace c0 : World.cell? wj ⟨pb, 0, none⟩ = some (.int .u64 bn) := (HC.out.1.later hbj).2 0 _ rfl; replace c1 : World.cell? wj ⟨pb, 1, none⟩ = some (.int .u64 bm) := (HC.out.1.later hbj).2 1 _ rfl; replace c2 : World.cell? wj ⟨pb, 2, none⟩ = some (.slice bsA bss.length bsc) := (HC.out.1.later hbj).2 2 _ rfl; replace c3 : World.cell? wj ⟨pb, 3, none⟩ = some (.slice bcA bcs.length bcc) := (HC.out.1.later hbj).2 3 _ rfl; replace c4 : World.cell? wj ⟨pb, 4, none⟩ = some (.slice bvA bvs.length bvc) := (HC.out.1.later hbj).2 4 _ rfl; replace HA := Lib.hid (And.intro (HA.out.1.later hbj) (HA.out.2.later hbj)); replace HB := Lib.hid (And.intro (HB.out.1.later hbj) (HB.out.2.later hbj)); replace HC := Lib.hid (And.intro (HC.out.1.later hbj) (HC.out.2.later hbj)); replace HW := Lib.hid (HW.out.trans (hbj.mono HW.out.size)); clear hbj))
      refine hK.out _ _ ?_ (fun hHeld => ?_)
      · exact ⟨a0, a1, b0, b1, b2, b3, b4, c0, c1, c2, c3, c4⟩
      clear hK K
      refine takeH 3 26 (v := ?q2_v3) rfl rfl (by kernel_rfl) (by kernel_rfl) (by kernel_rfl) (fun _ _ _ h => h) (Or.inl ⟨by rfl, ?q2_h3⟩) (by assumption) ?q2_r3
      case q2_h3 => (intro w hSw; (try dsimp only at hSw); go_simp; try (with_reducible rfl))
      simp only [List.set_cons_zero, List.set_cons_succ]
      refine takeH 4 27 (v := ?q2_v4) rfl rfl (by kernel_rfl) (by kernel_rfl) (by kernel_rfl) (fun _ _ _ h => h) (Or.inl ⟨by rfl, ?q2_h4⟩) (by assumption) ?q2_r4
      case q2_h4 => (intro w hSw; (try dsimp only at hSw); go_simp; try (with_reducible rfl))
      simp only [List.set_cons_zero, List.set_cons_succ]
      refine takeH 5 28 (v := ?q2_v5) rfl rfl (by kernel_rfl) (by kernel_rfl) (by kernel_rfl) (fun _ _ _ h => h) (Or.inl ⟨by rfl, ?q2_h5⟩) (by assumption) ?q2_r5
      case q2_h5 => (intro w hSw; (try dsimp only at hSw); go_simp; try (with_reducible rfl))
      simp only [List.set_cons_zero, List.set_cons_succ]
      refine wpAnyH_ready (rs := [6]) (by kernel_rfl) (by simp) ?_
      refine AllReadyH.cons rfl (fun K hK => ?_) AllReadyH.nil
      go_simp
      go_wp2_with (go_at_call 14; refine (None_any (Sc.mk k0 A c l) (Vl.mk bn bm bsA bsc bss bcA bcc bcs bvA bvc bvs) _ HA.out.2 HC.out.2).mono ?_; rintro e wj ⟨rfl, hbj⟩; (rw [HNB.out]; replace a0 : World.cell? wj ⟨w.heap.size, 0, none⟩ = some (.int .i64 k0) := (HA.out.1.later hbj).2 0 _ rfl; replace a1 : World.cell? wj ⟨w.heap.size, 1, none⟩ = some (.slice A l.length c) := (HA.out.1.later hbj).2 1 _ rfl; replace b0 : World.cell? wj ⟨w.heap.size + 1, 0, none⟩ = some (.int .u64 an) := (HB.out.1.later hbj).2 0 _ rfl; replace b1 : World.cell? wj ⟨w.heap.size + 1, 1, none⟩ = some (.int .u64 am) := (HB.out.1.later hbj).2 1 _ rfl; replace b2 : World.cell? wj ⟨w.heap.size + 1, 2, none⟩ = some (.slice asA ass.length asc) := (HB.out.1.later hbj).2 2 _ rfl; replace b3 : World.cell? wj ⟨w.heap.size + 1, 3, none⟩ = some (.slice acA acs.length acc) := (HB.out.1.later hbj).2 3 _ rfl; replace b4 : World.cell? wj ⟨w.heap.size + 1, 4, none⟩ = some (.slice avA avs.length avc) := (HB.out.1.later hbj).2 4 _ rfl; replace c0 : World.cell? wj ⟨pb, 0, none⟩ = some (.int .u64 bn) := (HC.out.1.later hbj).2 0 _ rfl; replace c1 : World.cell? wj ⟨pb, 1, none⟩ = some (.int .u64 bm) := (HC.out.1.later hbj).2 1 _ rfl; replace c2 : World.cell? wj ⟨pb, 2, none⟩ = some (.slice bsA bss.length bsc) := (HC.out.1.later hbj).2 2 _ rfl; replace c3 : World.cell? wj ⟨pb, 3, none⟩ = some (.slice bcA bcs.length bcc) := (HC.out.1.later hbj).2 3 _ rfl; replace c4 : World.cell? wj ⟨pb, 4, none⟩ = some (.slice bvA bvs.length bvc) := (HC.out.1.later hbj).2 4 _ rfl; replace HA := Lib.hid (And.intro (HA.out.1.later hbj) (HA.out.2.later hbj)); replace HB := Lib.hid (And.intro (HB.out.1.later hbj) (HB.out.2.later hbj)); replace HC := Lib.hid (And.intro (HC.out.1.later hbj) (HC.out.2.later hbj)); replace HW := Lib.hid (HW.out.trans (hbj.mono HW.out.size)); clear hbj))
      refine hK.out _ _ ?_ (fun hHeld => ?_)
      · exact ⟨a0, a1, b0, b1, b2, b3, b4, c0, c1, c2, c3, c4⟩
      clear hK K
      refine takeH 7 30 (v := ?q2_v7) rfl rfl (by kernel_rfl) (by kernel_rfl) (by kernel_rfl) (fun _ _ _ h => h) (Or.inl ⟨by rfl, ?q2_h7⟩) (by assumption) ?q2_r7
      case q2_h7 => (intro w hSw; (try dsimp only at hSw); go_simp; try (with_reducible rfl))
      simp only [List.set_cons_zero, List.set_cons_succ]
      refine takeH 8 31 (v := ?q2_v8) rfl rfl (by kernel_rfl) (by kernel_rfl) (by kernel_rfl) (fun _ _ _ h => h) (Or.inl ⟨by rfl, ?q2_h8⟩) (by assumption) ?q2_r8
      case q2_h8 => (intro w hSw; (try dsimp only at hSw); go_simp; try (with_reducible rfl))
      simp only [List.set_cons_zero, List.set_cons_succ]
      refine takeH 9 32 (v := ?q2_v9) rfl rfl (by kernel_rfl) (by kernel_rfl) (by kernel_rfl) (fun _ _ _ h => h) (Or.inl ⟨by rfl, ?q2_h9⟩) (by assumption) ?q2_r9
      case q2_h9 => (intro w hSw; (try dsimp only at hSw); go_simp; try (with_reducible rfl))
      simp only [List.set_cons_zero, List.set_cons_succ]
      refine takeH 10 33 (v := ?q2_v10) rfl rfl (by kernel_rfl) (by kernel_rfl) (by kernel_rfl) (fun _ _ _ h => h) (Or.inl ⟨by rfl, ?q2_h10⟩) (by assumption) ?q2_r10
      case q2_h10 => (intro w hSw; (try dsimp only at hSw); go_simp; try (with_reducible rfl))
      simp only [List.set_cons_zero, List.set_cons_succ]
      refine takeH 12 35 (v := ?q2_v12) rfl rfl (by kernel_rfl) (by kernel_rfl) (by kernel_rfl) (fun _ _ _ h => h) (Or.inl ⟨by rfl, ?q2_h12⟩) (by assumption) ?q2_r12
      case q2_h12 => (intro w hSw; (try dsimp only at hSw); go_simp; try (with_reducible rfl))
      simp only [List.set_cons_zero, List.set_cons_succ]
      refine takeH 13 36 (v := ?q2_v13) rfl rfl (by kernel_rfl) (by kernel_rfl) (by kernel_rfl) (fun _ _ _ h => h) (Or.inl ⟨by rfl, ?q2_h13⟩) (by assumption) ?q2_r13
      case q2_h13 => (intro w hSw; (try dsimp only at hSw); go_simp; try (with_reducible rfl))
      simp only [List.set_cons_zero, List.set_cons_succ]
      refine wpAnyH_ready (rs := [11]) (by kernel_rfl) (by simp) ?_
      refine AllReadyH.cons rfl (fun K hK => ?_) AllReadyH.nil
      go_simp
      go_wp2_with (go_at_call 14; refine (None_any (Sc.mk k0 A c l) (Vl.mk an am asA asc ass acA acc acs avA avc avs) _ HA.out.2 HB.out.2).mono ?_; rintro e wj ⟨rfl, hbj⟩; (rw [HQ.out]; replace a0 : World.cell? wj ⟨w.heap.size, 0, none⟩ = some (.int .i64 k0) := (HA.out.1.later hbj).2 0 _ rfl; replace a1 : World.cell? wj ⟨w.heap.size, 1, none⟩ = some (.slice A l.length c) := (HA.out.1.later hbj).2 1 _ rfl; replace b0 : World.cell? wj ⟨w.heap.size + 1, 0, none⟩ = some (.int .u64 an) := (HB.out.1.later hbj).2 0 _ rfl; replace b1 : World.cell? wj ⟨w.heap.size + 1, 1, none⟩ = some (.int .u64 am) := (HB.out.1.later hbj).2 1 _ rfl; replace b2 : World.cell? wj ⟨w.heap.size + 1, 2, none⟩ = some (.slice asA ass.length asc) := (HB.out.1.later hbj).2 2 _ rfl; replace b3 : World.cell? wj ⟨w.heap.size + 1, 3, none⟩ = some (.slice acA acs.length acc) := (HB.out.1.later hbj).2 3 _ rfl; replace b4 : World.cell? wj ⟨w.heap.size + 1, 4, none⟩ = some (.slice avA avs.length avc) := (HB.out.1.later hbj).2 4 _ rfl; replace c0 : World.cell? wj ⟨pb, 0, none⟩ = some (.int .u64 bn) := (HC.out.1.later hbj).2 0 _ rfl; replace c1 : World.cell? wj ⟨pb, 1, none⟩ = some (.int .u64 bm) := (HC.out.1.later hbj).2 1 _ rfl; replace c2 : World.cell? wj ⟨pb, 2, none⟩ = some (.slice bsA bss.length bsc) := (HC.out.1.later hbj).2 2 _ rfl; replace c3 : World.cell? wj ⟨pb, 3, none⟩ = some (.slice bcA bcs.length bcc) := (HC.out.1.later hbj).2 3 _ rfl; replace c4 : World.cell? wj ⟨pb, 4, none⟩ = some (.slice bvA bvs.length bvc) := (HC.out.1.later hbj).2 4 _ rfl; replace HA := Lib.hid (And.intro (HA.out.1.later hbj) (HA.out.2.later hbj)); replace HB := Lib.hid (And.intro (HB.out.1.later hbj) (HB.out.2.later hbj)); replace HC := Lib.hid (And.intro (HC.out.1.later hbj) (HC.out.2.later hbj)); replace HW := Lib.hid (HW.out.trans (hbj.mono HW.out.size)); clear hbj))
      refine hK.out _ _ ?_ (fun hHeld => ?_)
      · exact ⟨a0, a1, b0, b1, b2, b3, b4, c0, c1, c2, c3, c4⟩
      clear hK K
      refine wpAnyH_ready (rs := [14]) (by kernel_rfl) (by simp) ?_
      refine AllReadyH.cons rfl (fun K hK => ?_) AllReadyH.nil
      go_simp
      go_wp2_with (go_at_call 16; refine (Same_any (Vl.mk an am asA asc ass acA acc acs avA avc avs) (Vl.mk bn bm bsA bsc bss bcA bcc bcs bvA bvc bvs) _ HB.out.2 HC.out.2).mono ?_; rintro e wj ⟨rfl, hbj⟩; (rw [HQ2.out]; replace a0 : World.cell? wj ⟨w.heap.size, 0, none⟩ = some (.int .i64 k0) := (HA.out.1.later hbj).2 0 _ rfl; replace a1 : World.cell? wj ⟨w.heap.size, 1, none⟩ = some (.slice A l.length c) := (HA.out.1.later hbj).2 1 _ rfl; replace b0 : World.cell? wj ⟨w.heap.size + 1, 0, none⟩ = some (.int .u64 an) := (HB.out.1.later hbj).2 0 _ rfl; replace b1 : World.cell? wj ⟨w.heap.size + 1, 1, none⟩ = some (.int .u64 am) := (HB.out.1.later hbj).2 1 _ rfl; replace b2 : World.cell? wj ⟨w.heap.size + 1, 2, none⟩ = some (.slice asA ass.length asc) := (HB.out.1.later hbj).2 2 _ rfl; replace b3 : World.cell? wj ⟨w.heap.size + 1, 3, none⟩ = some (.slice acA acs.length acc) := (HB.out.1.later hbj).2 3 _ rfl; replace b4 : World.cell? wj ⟨w.heap.size + 1, 4, none⟩ = some (.slice avA avs.length avc) := (HB.out.1.later hbj).2 4 _ rfl; replace c0 : World.cell? wj ⟨pb, 0, none⟩ = some (.int .u64 bn) := (HC.out.1.later hbj).2 0 _ rfl; replace c1 : World.cell? wj ⟨pb, 1, none⟩ = some (.int .u64 bm) := (HC.out.1.later hbj).2 1 _ rfl; replace c2 : World.cell? wj ⟨pb, 2, none⟩ = some (.slice bsA bss.length bsc) := (HC.out.1.later hbj).2 2 _ rfl; replace c3 : World.cell? wj ⟨pb, 3, none⟩ = some (.slice bcA bcs.length bcc) := (HC.out.1.later hbj).2 3 _ rfl; replace c4 : World.cell? wj ⟨pb, 4, none⟩ = some (.slice bvA bvs.length bvc) := (HC.out.1.later hbj).2 4 _ rfl; replace HA := Lib.hid (And.intro (HA.out.1.later hbj) (HA.out.2.later hbj)); replace HB := Lib.hid (And.intro (HB.out.1.later hbj) (HB.out.2.later hbj)); replace HC := Lib.hid (And.intro (HC.out.1.later hbj) (HC.out.2.later hbj)); replace HW := Lib.hid (HW.out.trans (hbj.mono HW.out.size)); clear hbj))
      refine hK.out _ _ ?_ (fun hHeld => ?_)
      · exact ⟨a0, a1, b0, b1, b2, b3, b4, c0, c1, c2, c3, c4⟩
      clear hK K
      refine takeH 15 38 (v := ?q2_v15) rfl rfl (by kernel_rfl) (by kernel_rfl) (by kernel_rfl) (fun _ _ _ h => h) (Or.inl ⟨by rfl, ?q2_h15⟩) (by assumption) ?q2_r15
      case q2_h15 => (intro w hSw; (try dsimp only at hSw); go_simp; try (with_reducible rfl))
      simp only [List.set_cons_zero, List.set_cons_succ]
      refine takeH 16 39 (v := ?q2_v16) rfl rfl (by kernel_rfl) (by kernel_rfl) (by kernel_rfl) (fun _ _ _ h => h) (Or.inl ⟨by rfl, ?q2_h16⟩) (by assumption) ?q2_r16
      case q2_h16 => (intro w hSw; (try dsimp only at hSw); go_simp; try (with_reducible rfl))
      simp only [List.set_cons_zero, List.set_cons_succ]
      refine takeH 17 40 (v := ?q2_v17) rfl rfl (by kernel_rfl) (by kernel_rfl) (by kernel_rfl) (fun _ _ _ h => h) (Or.inl ⟨by rfl, ?q2_h17⟩) (by assumption) ?q2_r17
      case q2_h17 => (intro w hSw; (try dsimp only at hSw); go_simp; try (with_reducible rfl))
      simp only [List.set_cons_zero, List.set_cons_succ]
      refine takeH 18 41 (v := ?q2_v18) rfl rfl (by kernel_rfl) (by kernel_rfl) (by kernel_rfl) (fun _ _ _ h => h) (Or.inl ⟨by rfl, ?q2_h18⟩) (by assumption) ?q2_r18
      case q2_h18 => (intro w hSw; (try dsimp only at hSw); go_simp; try (with_reducible rfl))
      simp only [List.set_cons_zero, List.set_cons_succ]
      refine takeH 19 42 (v := ?q2_v19) rfl rfl (by kernel_rfl) (by kernel_rfl) (by kernel_rfl) (fun _ _ _ h => h) (Or.inl ⟨by rfl, ?q2_h19⟩) (by assumption) ?q2_r19
      case q2_h19 => (intro w hSw; (try dsimp only at hSw); go_simp; try (with_reducible rfl))
      simp only [List.set_cons_zero, List.set_cons_succ]
      refine wpAnyH_ready (rs := [20]) (by kernel_rfl) (by simp) ?_
      refine AllReadyH.cons rfl (fun K hK => ?_) AllReadyH.nil
      go_simp
      go_wp2_with (go_at_call 14; refine (None_any (Sc.mk k0 A c l) (Vl.mk an am asA asc ass acA acc acs avA avc avs) _ HA.out.2 HB.out.2).mono ?_; rintro e wj ⟨rfl, hbj⟩; (rw [HQ.out]; replace a0 : World.cell? wj ⟨w.heap.size, 0, none⟩ = some (.int .i64 k0) := (HA.out.1.later hbj).2 0 _ rfl; replace a1 : World.cell? wj ⟨w.heap.size, 1, none⟩ = some (.slice A l.length c) := (HA.out.1.later hbj).2 1 _ rfl; replace b0 : World.cell? wj ⟨w.heap.size + 1, 0, none⟩ = some (.int .u64 an) := (HB.out.1.later hbj).2 0 _ rfl; replace b1 : World.cell? wj ⟨w.heap.size + 1, 1, none⟩ = some (.int .u64 am) := (HB.out.1.later hbj).2 1 _ rfl; replace b2 : World.cell? wj ⟨w.heap.size + 1, 2, none⟩ = some (.slice asA ass.length asc) := (HB.out.1.later hbj).2 2 _ rfl; replace b3 : World.cell? wj ⟨w.heap.size + 1, 3, none⟩ = some (.slice acA acs.length acc) := (HB.out.1.later hbj).2 3 _ rfl; replace b4 : World.cell? wj ⟨w.heap.size + 1, 4, none⟩ = some (.slice avA avs.length avc) := (HB.out.1.later hbj).2 4 _ rfl; replace c0 : World.cell? wj ⟨pb, 0, none⟩ = some (.int .u64 bn) := (HC.out.1.later hbj).2 0 _ rfl; replace c1 : World.cell? wj ⟨pb, 1, none⟩ = some (.int .u64 bm) := (HC.out.1.later hbj).2 1 _ rfl; replace c2 : World.cell? wj ⟨pb, 2, none⟩ = some (.slice bsA bss.length bsc) := (HC.out.1.later hbj).2 2 _ rfl; replace c3 : World.cell? wj ⟨pb, 3, none⟩ = some (.slice bcA bcs.length bcc) := (HC.out.1.later hbj).2 3 _ rfl; replace c4 : World.cell? wj ⟨pb, 4, none⟩ = some (.slice bvA bvs.length bvc) := (HC.out.1.later hbj).2 4 _ rfl; replace HA := Lib.hid (And.intro (HA.out.1.later hbj) (HA.out.2.later hbj)); replace HB := Lib.hid (And.intro (HB.out.1.later hbj) (HB.out.2.later hbj)); replace HC := Lib.hid (And.intro (HC.out.1.later hbj) (HC.out.2.later hbj)); replace HW := Lib.hid (HW.out.trans (hbj.mono HW.out.size)); clear hbj))
      refine hK.out _ _ ?_ (fun hHeld => ?_)
      · exact ⟨a0, a1, b0, b1, b2, b3, b4, c0, c1, c2, c3, c4⟩
      clear hK K
      refine takeH 21 44 (v := ?q2_v21) rfl rfl (by kernel_rfl) (by kernel_rfl) (by kernel_rfl) (fun _ _ _ h => h) (Or.inl ⟨by rfl, ?q2_h21⟩) (by assumption) ?q2_r21
      case q2_h21 => (intro w hSw; (try dsimp only at hSw); go_simp; try (with_reducible rfl))
      simp only [List.set_cons_zero, List.set_cons_succ]
      refine takeH 22 45 (v := ?q2_v22) rfl rfl (by kernel_rfl) (by kernel_rfl) (by kernel_rfl) (fun _ _ _ h => h) (Or.inl ⟨by rfl, ?q2_h22⟩) (by assumption) ?q2_r22
      case q2_h22 => (intro w hSw; (try dsimp only at hSw); go_simp; try (with_reducible rfl))
      simp only [List.set_cons_zero, List.set_cons_succ]
      refine takeH 23 46 (v := undef) rfl rfl (by kernel_rfl) (by kernel_rfl) (by kernel_rfl) (fun _ _ _ h => h) (Or.inr ⟨by rfl, rfl⟩) (by assumption) ?_
      simp only [List.set_cons_zero, List.set_cons_succ]
      refine takeH 24 47 (v := undef) rfl rfl (by kernel_rfl) (by kernel_rfl) (by kernel_rfl) (fun _ _ _ h => h) (Or.inr ⟨by rfl, rfl⟩) (by assumption) ?_
      simp only [List.set_cons_zero, List.set_cons_succ]
      refine takeH 25 48 (v := undef) rfl rfl (by kernel_rfl) (by kernel_rfl) (by kernel_rfl) (fun _ _ _ h => h) (Or.inr ⟨by rfl, rfl⟩) (by assumption) ?_
      simp only [List.set_cons_zero, List.set_cons_succ]
      refine takeH 26 49 (v := ?q2_v26) rfl rfl (by kernel_rfl) (by kernel_rfl) (by kernel_rfl) (fun _ _ _ h => h) (Or.inl ⟨by rfl, ?q2_h26⟩) (by assumption) ?q2_r26
      case q2_h26 => (intro w hSw; (try dsimp only at hSw); go_simp; try (with_reducible rfl))
      simp only [List.set_cons_zero, List.set_cons_succ]
      refine takeH 27 50 (v := ?q2_v27) rfl rfl (by kernel_rfl) (by kernel_rfl) (by kernel_rfl) (fun _ _ _ h => h) (Or.inl ⟨by rfl, ?q2_h27⟩) (by assumption) ?q2_r27
      case q2_h27 => (intro w hSw; (try dsimp only at hSw); go_simp; try (with_reducible rfl))
      simp only [List.set_cons_zero, List.set_cons_succ]
      refine takeH 28 4 (v := ?q2_v28) rfl rfl (by kernel_rfl) (by kernel_rfl) (by kernel_rfl) (fun _ _ _ h => h) (Or.inl ⟨by rfl, ?q2_h28⟩) (by assumption) ?q2_r28
      case q2_h28 => (intro w hSw; (try dsimp only at hSw); go_simp; try (with_reducible rfl))
      simp only [List.set_cons_zero, List.set_cons_succ]
      refine wpAnyH_done (by kernel_rfl) ?_ _
      refine NoPanic.normal ?_
      go_wp2_with fail
      go_ret
      exact ⟨rfl, HW.out⟩
end Go.Proofs.Ytcpfjjimbnmaoaa.V4
