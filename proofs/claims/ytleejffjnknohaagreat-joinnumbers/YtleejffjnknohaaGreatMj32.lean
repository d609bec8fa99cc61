/- What value.bottom and value.Bottom do. No condition but that the schema lies in memory. What join.All does; pairs, if joinPairs does what it should. No condition but that what it takes lies in memory. What the law's own test, known, answers: yes. No condition. What the law's own helper, of, answers; two versions of one tick each: plain mathematics, and in memory. No condition. Some values joined: plain mathematics. No condition. What errors.Is does with errors that are numbers. No condition. -/
import Derived.Test.YtleejffjnknohaaGreatMj31
import Derived.Test.YtleejffjnknohaaGreatMj18
import Derived.Stop.Asserts
import Derived.LaidEql
namespace Go.Proofs.YtleejffjnknohaaGreat.V4
open Go.RowKit Go.Shelf
open C3 (Tk isC belAl drewB)
open S2 (Sc isT allocB)

set_option maxRecDepth 100000 in
set_option maxHeartbeats 2000000 in
theorem bottom_any : ∀ (s : Sc) (n : Nat), n ≤ 16 → isT n s.er = true → ∀ (w : World), s.In w.heap.size w → Calls Tryz.prog 37 #[s.val] w (RetWN w (botT s.er)) := by
  intro s
  induction s using S2.Sc.ind with
  | h k A c l ih =>
    intro n hn hp w hin
    obtain ⟨w1, hw1⟩ : ∃ w1, ((w.alloc (.cells #[.int .i64 k, .slice A l.length c] 24)).alloc (.cells #[.int .u64 0, .int .u64 0, .slice none 0 0, .slice none 0 0, .slice none 0 0] 32)) = w1 := ⟨_, rfl⟩
    have HW1 := Lib.hid hw1
    have HB1 : Hid (Below w.heap.size w w1) := by rw [← hw1]; exact belAl (allocB _ _)
    have HI0 := Lib.hid hin
    have HI1 := Lib.hid (hin.later HB1.out)
    have IH := Lib.hid ih
    have HP := Lib.hid hp
    clear hin ih hp hw1
    simp only [S2.val_mk]
    have a0 : w1.cell? ⟨w.heap.size, 0, none⟩ = some (.int .i64 k) := by rw [← HW1.out]; go_simp
    have a1 : w1.cell? ⟨w.heap.size, 1, none⟩ = some (.slice A l.length c) := by rw [← HW1.out]; go_simp
    have b0 : w1.cell? ⟨w.heap.size + 1, 0, none⟩ = some (.int .u64 0) := by rw [← HW1.out]; go_simp
    have b1 : w1.cell? ⟨w.heap.size + 1, 1, none⟩ = some (.int .u64 0) := by rw [← HW1.out]; go_simp
    have b2 : w1.cell? ⟨w.heap.size + 1, 2, none⟩ = some (.slice none 0 0) := by rw [← HW1.out]; go_simp
    have b3 : w1.cell? ⟨w.heap.size + 1, 3, none⟩ = some (.slice none 0 0) := by rw [← HW1.out]; go_simp
    have b4 : w1.cell? ⟨w.heap.size + 1, 4, none⟩ = some (.slice none 0 0) := by rw [← HW1.out]; go_simp
    have f0 : w1.frozen? ⟨w.heap.size + 1, 0, none⟩ = false := by rw [← HW1.out]; go_simp
    have f1 : w1.frozen? ⟨w.heap.size + 1, 1, none⟩ = false := by rw [← HW1.out]; go_simp
    have f2 : w1.frozen? ⟨w.heap.size + 1, 2, none⟩ = false := by rw [← HW1.out]; go_simp
    have f3 : w1.frozen? ⟨w.heap.size + 1, 3, none⟩ = false := by rw [← HW1.out]; go_simp
    have f4 : w1.frozen? ⟨w.heap.size + 1, 4, none⟩ = false := by rw [← HW1.out]; go_simp
    have hsz : w.heap.size + 1 < w1.heap.size := by rw [← HW1.out]; simp
    by_cases hc : k = 5
    · subst hc
      have hl2 : l.length = 2 := by
        have := isT_len (n := n) (k := 5) (l := l.map Sc.er) (by rw [← S2.er_mk 5 A c]; exact HP.out)
        simp [S2.arI] at this
        omega
      obtain ⟨x, y, rfl⟩ := two_of_len hl2
      obtain ⟨-, -, -, hall⟩ := HI1.out.out
      obtain ⟨hl0, -, -, -⟩ := HI0.out.out
      have hll : S2.LiesS w.heap.size w1 A [x, y] := hl0.below HB1.out
      obtain ⟨b, off, rfl, hb, hcl⟩ := hll.get (k := 0) (by simp)
      have hbn : b ≠ w.heap.size + 1 := by omega
      have hbn' : w.heap.size + 1 ≠ b := by omega
      replace hb : b < w1.heap.size := by omega
      obtain ⟨c0, c1⟩ := hcl 0 x rfl
      obtain ⟨c2, c3⟩ := hcl 1 y rfl
      have HX := Lib.hid (hall x (by simp))
      have HY := Lib.hid (hall y (by simp))
      obtain ⟨n', rfl⟩ : ∃ n', n = n' + 1 := by
        cases n with
        | zero => have := HP.out; simp [isT] at this
        | succ n' => exact ⟨n', rfl⟩
      have hsub := HP.out
      rw [S2.er_mk] at hsub
      have IHX := Lib.hid (IH.out x (by simp) n' (by omega) (isT_ins hsub x.er (by simp)))
      have IHY := Lib.hid (IH.out y (by simp) n' (by omega) (isT_ins hsub y.er (by simp)))
      have HT : Hid (botT (Sc.mk 5 (some ⟨b, off, none⟩) c [x, y]).er = .mk 0 0 [] [] [botT x.er, botT y.er]) := by
        show botT _ = _
        have := isT_le HP.out hn
        rw [S2.er_mk] at this ⊢
        exact botT_pair this
      rw [HT.out]
      clear hll hl0 hall hcl IH hl2 HP HI0 HI1 hsub
      obtain ⟨xk, xA, xc, xl⟩ := x
      obtain ⟨yk, yA, yc, yl⟩ := y
      simp only [S2.Sc.v1, S2.Sc.k, Nat.zero_mul, Nat.add_zero, Nat.one_mul] at c0 c1 c2 c3
      simp only [S2.val_mk] at IHX IHY
      replace HX := Lib.hid (HX.out.later (drewB w1))
      replace HY := Lib.hid (HY.out.later (drewB w1))
      replace HB1 : Hid (Below w.heap.size w w1.drew) := HB1.out.drew
      simp only [List.length_cons, List.length_nil, Nat.zero_add, Nat.reduceAdd] at a1
      have hs0 : w.heap.size < w1.heap.size := by omega
      have hsn := Nat.ne_of_lt hsz
      go_enter Tryz.func37, Tryz.ntmps37
      go_wp2_with fail
      simp only [List.length_cons, List.length_nil, Nat.zero_add, Nat.reduceAdd] at HW1
      rw [HW1.out]
      clear HW1
      go_region_held3 (fun w' => w'.cell? ⟨w.heap.size, 1, none⟩ = some (.slice (some ⟨b, off, none⟩) 2 c) ∧ w'.cell? ⟨b, off, none⟩ = some (.int .i64 xk) ∧ w'.cell? ⟨b, off + 1, none⟩ = some (.slice xA xl.length xc) ∧ w'.cell? ⟨b, off + 2, none⟩ = some (.int .i64 yk) ∧ w'.cell? ⟨b, off + 2 + 1, none⟩ = some (.slice yA yl.length yc))
        (first
          | (with_reducible exact ⟨a1, c0, c1, c2, c3⟩)
          | (refine ⟨?_, ?_, ?_, ?_, ?_⟩ <;> go_simp))
        (first
          | (go_at_call 37; refine (IHX.out _ HX.out).mono ?_; rintro e w2 ⟨⟨pn, pm, psA, psc, pss, pcA, pcc, pcs, pvA, pvc, pvs⟩, rfl, hpe, hpi, hb2⟩; (simp only [val_mk]; have HPE := Lib.hid hpe; have HPI : Hid ((Vl.mk pn pm psA psc pss pcA pcc pcs pvA pvc pvs).Inp (fun b => w.heap.size + 2 ≤ b ∧ b < w2.heap.size) w2) := hpi.mono (fun b hP => ⟨Nat.le_trans hsz hP.1, hP.2⟩); replace HY := Lib.hid (HY.out.later hb2); clear hpe hpi HX IHX; replace a1 := (hb2.cell (p := ⟨w.heap.size, 1, none⟩) hs0).trans a1; replace c0 := (hb2.cell (p := ⟨b, off, none⟩) hb).trans c0; replace c1 := (hb2.cell (p := ⟨b, off + 1, none⟩) hb).trans c1; replace c2 := (hb2.cell (p := ⟨b, off + 2, none⟩) hb).trans c2; replace c3 := (hb2.cell (p := ⟨b, off + 2 + 1, none⟩) hb).trans c3; replace b0 := (hb2.cell (p := ⟨w.heap.size + 1, 0, none⟩) hsz).trans b0; replace b1 := (hb2.cell (p := ⟨w.heap.size + 1, 1, none⟩) hsz).trans b1; replace b2 := (hb2.cell (p := ⟨w.heap.size + 1, 2, none⟩) hsz).trans b2; replace b3 := (hb2.cell (p := ⟨w.heap.size + 1, 3, none⟩) hsz).trans b3; replace b4 := (hb2.cell (p := ⟨w.heap.size + 1, 4, none⟩) hsz).trans b4; replace f0 := (hb2.frozen (p := ⟨w.heap.size + 1, 0, none⟩) hsz).trans f0; replace f1 := (hb2.frozen (p := ⟨w.heap.size + 1, 1, none⟩) hsz).trans f1; replace f2 := (hb2.frozen (p := ⟨w.heap.size + 1, 2, none⟩) hsz).trans f2; replace f3 := (hb2.frozen (p := ⟨w.heap.size + 1, 3, none⟩) hsz).trans f3; replace f4 := (hb2.frozen (p := ⟨w.heap.size + 1, 4, none⟩) hsz).trans f4; replace hb : b < w2.heap.size := Nat.lt_of_lt_of_le hb hb2.size; replace hs0 : w.heap.size < w2.heap.size := Nat.lt_of_lt_of_le hs0 hb2.size; replace hsz : w.heap.size + 1 < w2.heap.size := Nat.lt_of_lt_of_le hsz hb2.size; replace hsn := Nat.ne_of_lt hsz; replace HB1 : Hid (Below w.heap.size w w2) := HB1.out.trans (hb2.mono HB1.out.size); clear hb2))
          | (go_at_call 37; refine (IHY.out _ HY.out).mono ?_; rintro e w3 ⟨⟨qn, qm, qsA, qsc, qss, qcA, qcc, qcs, qvA, qvc, qvs⟩, rfl, hqe, hqi, hb3⟩; (simp only [val_mk]; have HQE := Lib.hid hqe; have HQI : Hid ((Vl.mk qn qm qsA qsc qss qcA qcc qcs qvA qvc qvs).Inp (fun b => w.heap.size + 2 ≤ b ∧ b < w3.heap.size) w3) := hqi.mono (fun b hP => ⟨Nat.le_trans hsz hP.1, hP.2⟩); replace HPI : Hid ((Vl.mk pn pm psA psc pss pcA pcc pcs pvA pvc pvs).Inp (fun b => w.heap.size + 2 ≤ b ∧ b < w3.heap.size) w3) := (HPI.out.keep fun b hP => hb3.block b hP.2).mono (fun b hP => ⟨hP.1, Nat.lt_of_lt_of_le hP.2 hb3.size⟩); clear hqe hqi; replace a1 := (hb3.cell (p := ⟨w.heap.size, 1, none⟩) hs0).trans a1; replace c0 := (hb3.cell (p := ⟨b, off, none⟩) hb).trans c0; replace c1 := (hb3.cell (p := ⟨b, off + 1, none⟩) hb).trans c1; replace c2 := (hb3.cell (p := ⟨b, off + 2, none⟩) hb).trans c2; replace c3 := (hb3.cell (p := ⟨b, off + 2 + 1, none⟩) hb).trans c3; replace b0 := (hb3.cell (p := ⟨w.heap.size + 1, 0, none⟩) hsz).trans b0; replace b1 := (hb3.cell (p := ⟨w.heap.size + 1, 1, none⟩) hsz).trans b1; replace b2 := (hb3.cell (p := ⟨w.heap.size + 1, 2, none⟩) hsz).trans b2; replace b3 := (hb3.cell (p := ⟨w.heap.size + 1, 3, none⟩) hsz).trans b3; replace b4 := (hb3.cell (p := ⟨w.heap.size + 1, 4, none⟩) hsz).trans b4; replace f0 := (hb3.frozen (p := ⟨w.heap.size + 1, 0, none⟩) hsz).trans f0; replace f1 := (hb3.frozen (p := ⟨w.heap.size + 1, 1, none⟩) hsz).trans f1; replace f2 := (hb3.frozen (p := ⟨w.heap.size + 1, 2, none⟩) hsz).trans f2; replace f3 := (hb3.frozen (p := ⟨w.heap.size + 1, 3, none⟩) hsz).trans f3; replace f4 := (hb3.frozen (p := ⟨w.heap.size + 1, 4, none⟩) hsz).trans f4; replace hb : b < w3.heap.size := Nat.lt_of_lt_of_le hb hb3.size; replace hs0 : w.heap.size < w3.heap.size := Nat.lt_of_lt_of_le hs0 hb3.size; replace hsz : w.heap.size + 1 < w3.heap.size := Nat.lt_of_lt_of_le hsz hb3.size; replace hsn := Nat.ne_of_lt hsz; replace HB1 : Hid (Below w.heap.size w w3) := HB1.out.trans (hb3.mono HB1.out.size); clear hb3)))
      go_wp2_with fail
      refine bodyPost_ret (results_cellV rfl _ _ (w.heap.size + 1) (.int .u64 0) (.int .u64 0) (.slice none 0 0) (.slice none 0 0) (.slice (some ⟨w3.heap.size, 0, none⟩) 2 2) rfl (by go_simp) (by go_simp) (by go_simp) (by go_simp) (by go_simp)) rfl ?_
      rw [← HPE.out, ← HQE.out]
      exact bottom_end HPI.out HQI.out hsz (by simp) (fun b hbb => by
        rw [Below.heap_setCell _ _ _ _ (by show b ≠ w.heap.size + 1; omega), Below.heap_setCell _ _ _ _ (by show b ≠ w.heap.size + 1; omega), Below.heap_setCell _ _ _ _ (by show b ≠ w.heap.size + 1; omega), Below.heap_setCell _ _ _ _ (by show b ≠ w.heap.size + 1; omega), Below.heap_setCell _ _ _ _ (by show b ≠ w.heap.size + 1; omega)])
        (((((HB1.out.setCell (by simp) _).setCell (by simp) _).setCell (by simp) _).setCell (by simp) _).setCell (by simp) _)
    · have HT : Hid (botT (Sc.mk k A c l).er = .zero) := botT_zero (by rw [S2.er_k]; exact fun h => hc h.2)
      rw [HT.out]
      have h5' : (k == 5) = false := by simp [hc]
      have h5'' : (k != 5) = true := by simp [hc]
      have HB2 : Hid (Below w.heap.size w ((w.alloc (.cells #[.int .i64 k, .slice A l.length c] 24)).alloc (.cells #[.int .u64 0, .int .u64 0, .slice none 0 0, .slice none 0 0, .slice none 0 0] 32))) := belAl (allocB _ _)
      clear HW1 a0 a1 b0 b1 b2 b3 b4 f0 f1 f2 f3 f4 hsz hc IH HP HI0 HI1 HB1
      go_enter Tryz.func37, Tryz.ntmps37
      go_wp2_with fail
      refine bodyPost_ret (results_cellV rfl _ _ (w.heap.size + 1) (.int .u64 0) (.int .u64 0) (.slice none 0 0) (.slice none 0 0) (.slice none 0 0) rfl (by go_simp) (by go_simp) (by go_simp) (by go_simp) (by go_simp)) rfl ?_
      exact ⟨.mk 0 0 none 0 [] none 0 [] none 0 [], rfl, rfl, inp_zero _ _, HB2.out⟩

set_option maxRecDepth 100000 in
set_option maxHeartbeats 1000000 in
theorem Bottom_any (s : Sc) (w : World) (hin : s.In w.heap.size w) : Calls Tryz.prog 24 #[s.val] w (RetWN w (botT s.er)) := by
  obtain ⟨k, A, c, l⟩ := s
  obtain ⟨w1, hw1⟩ : ∃ w1, ((w.alloc (.cells #[.int .i64 k, .slice A l.length c] 24)).alloc (.cells #[.int .u64 0, .int .u64 0, .slice none 0 0, .slice none 0 0, .slice none 0 0] 32)) = w1 := ⟨_, rfl⟩
  have HW1 := Lib.hid hw1
  have HB1 : Hid (Below w.heap.size w w1) := by rw [← hw1]; exact belAl (allocB _ _)
  have HI1 := Lib.hid (hin.later HB1.out)
  obtain ⟨q, hq⟩ : ∃ q, isT 16 (Sc.mk k A c l).er = q := ⟨_, rfl⟩
  have HQ := Lib.hid hq
  have HS := Lib.hid (S2.Is_any (Sc.mk k A c l) w1 HI1.out)
  rw [hq] at HS
  clear hin hw1 hq
  simp only [S2.val_mk] at HS ⊢
  have a0 : w1.cell? ⟨w.heap.size, 0, none⟩ = some (.int .i64 k) := by rw [← HW1.out]; go_simp
  have a1 : w1.cell? ⟨w.heap.size, 1, none⟩ = some (.slice A l.length c) := by rw [← HW1.out]; go_simp
  have b0 : w1.cell? ⟨w.heap.size + 1, 0, none⟩ = some (.int .u64 0) := by rw [← HW1.out]; go_simp
  have b1 : w1.cell? ⟨w.heap.size + 1, 1, none⟩ = some (.int .u64 0) := by rw [← HW1.out]; go_simp
  have b2 : w1.cell? ⟨w.heap.size + 1, 2, none⟩ = some (.slice none 0 0) := by rw [← HW1.out]; go_simp
  have b3 : w1.cell? ⟨w.heap.size + 1, 3, none⟩ = some (.slice none 0 0) := by rw [← HW1.out]; go_simp
  have b4 : w1.cell? ⟨w.heap.size + 1, 4, none⟩ = some (.slice none 0 0) := by rw [← HW1.out]; go_simp
  have f0 : w1.frozen? ⟨w.heap.size + 1, 0, none⟩ = false := by rw [← HW1.out]; go_simp
  have f1 : w1.frozen? ⟨w.heap.size + 1, 1, none⟩ = false := by rw [← HW1.out]; go_simp
  have f2 : w1.frozen? ⟨w.heap.size + 1, 2, none⟩ = false := by rw [← HW1.out]; go_simp
  have f3 : w1.frozen? ⟨w.heap.size + 1, 3, none⟩ = false := by rw [← HW1.out]; go_simp
  have f4 : w1.frozen? ⟨w.heap.size + 1, 4, none⟩ = false := by rw [← HW1.out]; go_simp
  have hsz : w.heap.size + 1 < w1.heap.size := by rw [← HW1.out]; simp
  go_enter Tryz.func24, Tryz.ntmps24
  go_wp2_with fail
  rw [HW1.out]
  clear HW1
  refine HS.out.mono ?_
  clear HS
  rintro e w2 ⟨rfl, hb2⟩
  replace a0 := (hb2.cell (p := ⟨w.heap.size, 0, none⟩) (by simp only; omega)).trans a0
  replace a1 := (hb2.cell (p := ⟨w.heap.size, 1, none⟩) (by simp only; omega)).trans a1
  replace b0 := (hb2.cell (p := ⟨w.heap.size + 1, 0, none⟩) (by simp only; omega)).trans b0
  replace f0 := (hb2.frozen (p := ⟨w.heap.size + 1, 0, none⟩) (by simp only; omega)).trans f0
  replace b1 := (hb2.cell (p := ⟨w.heap.size + 1, 1, none⟩) (by simp only; omega)).trans b1
  replace f1 := (hb2.frozen (p := ⟨w.heap.size + 1, 1, none⟩) (by simp only; omega)).trans f1
  replace b2 := (hb2.cell (p := ⟨w.heap.size + 1, 2, none⟩) (by simp only; omega)).trans b2
  replace f2 := (hb2.frozen (p := ⟨w.heap.size + 1, 2, none⟩) (by simp only; omega)).trans f2
  replace b3 := (hb2.cell (p := ⟨w.heap.size + 1, 3, none⟩) (by simp only; omega)).trans b3
  replace f3 := (hb2.frozen (p := ⟨w.heap.size + 1, 3, none⟩) (by simp only; omega)).trans f3
  replace b4 := (hb2.cell (p := ⟨w.heap.size + 1, 4, none⟩) (by simp only; omega)).trans b4
  replace f4 := (hb2.frozen (p := ⟨w.heap.size + 1, 4, none⟩) (by simp only; omega)).trans f4
  replace hsz := Nat.lt_of_lt_of_le hsz hb2.size
  have HB2 : Hid (Below w.heap.size w w2) := HB1.out.trans (hb2.mono HB1.out.size)
  have HI2 := Lib.hid (HI1.out.later hb2)
  clear hb2 HB1 HI1
  cases q with
  | false =>
    have HT : Hid (botT (Sc.mk k A c l).er = .zero) := botT_zero (fun h => by rw [HQ.out] at h; exact absurd h.1 (by simp))
    rw [HT.out]
    go_wp2_with fail
    refine bodyPost_ret (results_cellV rfl _ _ (w.heap.size + 1) (.int .u64 0) (.int .u64 0) (.slice none 0 0) (.slice none 0 0) (.slice none 0 0) rfl (by go_simp) (by go_simp) (by go_simp) (by go_simp) (by go_simp)) rfl ?_
    exact ⟨.mk 0 0 none 0 [] none 0 [] none 0 [], rfl, by rw [HT.out]; rfl, inp_zero _ _, ((((HB2.out.setCell (by simp) _).setCell (by simp) _).setCell (by simp) _).setCell (by simp) _).setCell (by simp) _⟩
  | true =>
    have HBT := Lib.hid (bottom_any (Sc.mk k A c l) 16 (Nat.le_refl _) HQ.out w2 HI2.out)
    simp only [S2.val_mk] at HBT
    go_wp2_with fail
    refine HBT.out.mono ?_
    clear HBT
    rintro e w3 ⟨⟨pn, pm, psA, psc, pss, pcA, pcc, pcs, pvA, pvc, pvs⟩, rfl, hpe, hpi, hb2⟩
    simp only [val_mk]
    have HPI : Hid ((Vl.mk pn pm psA psc pss pcA pcc pcs pvA pvc pvs).Inp (fun b => w.heap.size + 2 ≤ b ∧ b < w3.heap.size) w3) := hpi.mono fun b hb => ⟨by have := hb.1; omega, hb.2⟩
    have HPE := Lib.hid hpe
    replace a0 := (hb2.cell (p := ⟨w.heap.size, 0, none⟩) (by simp only; omega)).trans a0
    replace a1 := (hb2.cell (p := ⟨w.heap.size, 1, none⟩) (by simp only; omega)).trans a1
    replace b0 := (hb2.cell (p := ⟨w.heap.size + 1, 0, none⟩) (by simp only; omega)).trans b0
    replace f0 := (hb2.frozen (p := ⟨w.heap.size + 1, 0, none⟩) (by simp only; omega)).trans f0
    replace b1 := (hb2.cell (p := ⟨w.heap.size + 1, 1, none⟩) (by simp only; omega)).trans b1
    replace f1 := (hb2.frozen (p := ⟨w.heap.size + 1, 1, none⟩) (by simp only; omega)).trans f1
    replace b2 := (hb2.cell (p := ⟨w.heap.size + 1, 2, none⟩) (by simp only; omega)).trans b2
    replace f2 := (hb2.frozen (p := ⟨w.heap.size + 1, 2, none⟩) (by simp only; omega)).trans f2
    replace b3 := (hb2.cell (p := ⟨w.heap.size + 1, 3, none⟩) (by simp only; omega)).trans b3
    replace f3 := (hb2.frozen (p := ⟨w.heap.size + 1, 3, none⟩) (by simp only; omega)).trans f3
    replace b4 := (hb2.cell (p := ⟨w.heap.size + 1, 4, none⟩) (by simp only; omega)).trans b4
    replace f4 := (hb2.frozen (p := ⟨w.heap.size + 1, 4, none⟩) (by simp only; omega)).trans f4
    replace hsz := Nat.lt_of_lt_of_le hsz hb2.size
    have HB3 : Hid (Below w.heap.size w w3) := HB2.out.trans (hb2.mono HB2.out.size)
    clear hb2 HB2 HI2 hpi hpe
    go_wp2_with fail
    refine bodyPost_ret (results_cellV rfl _ _ (w.heap.size + 1) (.int .u64 pn) (.int .u64 pm) (.slice psA pss.length psc) (.slice pcA pcs.length pcc) (.slice pvA pvs.length pvc) rfl (by go_simp) (by go_simp) (by go_simp) (by go_simp) (by go_simp)) rfl ?_
    refine ⟨Vl.mk pn pm psA psc pss pcA pcc pcs pvA pvc pvs, rfl, HPE.out, ?_, ((((HB3.out.setCell (by simp) _).setCell (by simp) _).setCell (by simp) _).setCell (by simp) _).setCell (by simp) _⟩
    refine (HPI.out.keep fun b hb => ?_).mono fun b hb => ⟨by omega, by simpa using hb.2⟩
    rw [Below.heap_setCell _ _ _ _ (by show b ≠ w.heap.size + 1; omega), Below.heap_setCell _ _ _ _ (by show b ≠ w.heap.size + 1; omega), Below.heap_setCell _ _ _ _ (by show b ≠ w.heap.size + 1; omega), Below.heap_setCell _ _ _ _ (by show b ≠ w.heap.size + 1; omega), Below.heap_setCell _ _ _ _ (by show b ≠ w.heap.size + 1; omega)]
end Go.Proofs.YtleejffjnknohaaGreat.V4

namespace Go.Proofs.YtleejffjnknohaaGreat.J5
open Go.RowKit Go.Shelf
open C3 (Tk In belAl allocB)
open S2 (Sc Tr isT)
open V4 (Va Vl Ck isV botT LiesC cellsV val_mk er_mk)

/-- What it answers, as one. -/
theorem retK_case {W : World} {o : Except Int Va} {e : Ending} {W' : World} (h : RetK W o e W') : ∃ (x : Vl) (ev : Value), e = .returned (.tuple #[x.val, ev]) ∧ x.Inp (fun b => W.heap.size ≤ b ∧ b < W'.heap.size) W' ∧ Below W.heap.size W W' ∧ ((o = .ok x.er ∧ ev = .nilIface) ∨ (∃ n, o = .error n ∧ x = vlZ ∧ ev = errV n)) := by
  rcases h with ⟨x, ho, rfl, hi, hb⟩ | ⟨n, ho, rfl, hb⟩
  · exact ⟨x, _, rfl, hi, hb, .inl ⟨ho, rfl⟩⟩
  · exact ⟨vlZ, _, rfl, V4.inp_zero _ _, hb, .inr ⟨n, ho, rfl, rfl⟩⟩

/-- Between the rounds. -/
structure AllM (w : World) (sv : Array Value) (B6 : Nat) (t : Tr) (l : List Vl) (k : Nat) (g : Vl) (W : World) : Prop where
  q0 : Blk W w.heap.size 24 sv
  q1 : Blk W (w.heap.size + 1) 32 #[.int .u64 0, .int .u64 0, .slice none 0 0, .slice none 0 0, .slice none 0 0]
  q2 : Blk W B6 32 #[.int .u64 g.n, .int .u64 g.m, g.s1, g.c1, g.v1]
  hg : g.Inp (fun b => w.heap.size + 2 ≤ b ∧ b < W.heap.size ∧ b ≠ B6) W
  fold : ((l.map Vl.er).take k).foldlM (stepE t) (botT t) = .ok g.er
  bel : Below w.heap.size w W
  b6 : w.heap.size + 2 ≤ B6

theorem getL {l : List Vl} {k : Nat} {v : Vl} (hv : l[k]? = some v) : (l.map Vl.er)[k]? = some v.er := by rw [List.getElem?_map, hv]; rfl

set_option maxRecDepth 100000 in
set_option maxHeartbeats 2000000 in
theorem All_any (Q : Prop) (HP : Q → PairsDo) (s : Sc) (A : Option Addr) (c : Nat) (l : List Vl) (w : World) (hs : s.In w.heap.size w) (hl : LiesC (fun b => b < w.heap.size) w A (cellsV l)) (hv : ∀ v ∈ l, v.In w) (hn : l.length ≤ 1000000) (hq : isT 16 s.er = true → Q ∨ NoP s.er) :
    Calls Tryz.prog 12 #[s.val, .slice A l.length c] w (RetK w (allF s.er (l.map Vl.er))) := by
  obtain ⟨p, hp⟩ : ∃ p, isT 16 s.er = p := ⟨_, rfl⟩
  have HIS := Lib.hid (fun W (hb : Below w.heap.size w W) => S2.Is_any s W (hs.later hb))
  rw [hp] at HIS
  have HBO := Lib.hid (fun W (hb : Below w.heap.size w W) => V4.Bottom_any s W (hs.later hb))
  have HJ := Lib.hid (fun x y W (hb : Below w.heap.size w W) (hx : x.In W) (hy : y.In W) => Join_any Q HP s x y W (hs.later hb) hx hy hq)
  have HF : Hid (p = true → allF s.er (l.map Vl.er) = (l.map Vl.er).foldlM (stepE s.er) (botT s.er)) := fun e => by show allF _ _ = _; unfold allF; rw [if_pos (hp.trans e)]
  have HJF : Hid (p = true → ∀ x y, joinF s.er x y = stepE s.er x y) := fun e x y => by show joinF _ _ _ = _; unfold joinF; rw [if_pos (hp.trans e)]
  have HN : Hid (p = false → allF s.er (l.map Vl.er) = .error 14) := fun e => by show allF _ _ = _; unfold allF; rw [if_neg (by rw [hp, e]; decide)]
  obtain ⟨R, hR⟩ : ∃ R, allF s.er (l.map Vl.er) = R := ⟨_, rfl⟩
  rw [hR] at HF HN
  rw [hR]
  clear hR hq hs hp
  have HL := Lib.hid hl
  have HV := Lib.hid hv
  have hln : l.length ≤ 9223372036854775807 := by omega
  clear hl hv hn
  obtain ⟨t, ht⟩ : ∃ t, s.er = t := ⟨_, rfl⟩
  rw [ht] at HBO HJ HF HJF
  clear ht
  obtain ⟨k0, A0, sc0, sl⟩ := s
  simp only [S2.val_mk] at HIS HBO HJ ⊢
  obtain ⟨V, hV⟩ : ∃ V, (w.alloc (.cells #[.int .i64 k0, .slice A0 sl.length sc0] 24)).alloc (.cells #[.int .u64 0, .int .u64 0, .slice none 0 0, .slice none 0 0, .slice none 0 0] 32) = V := ⟨_, rfl⟩
  obtain ⟨q0, q1, hbV, hs0⟩ := blk2 hV
  have hsV : w.heap.size + 2 ≤ V.heap.size := by omega
  clear hs0
  have e0 : V.cell? ⟨w.heap.size, 0, none⟩ = some (.int .i64 k0) := blk_cell q0 0 _ rfl
  have e1 : V.cell? ⟨w.heap.size, 1, none⟩ = some (.slice A0 sl.length sc0) := blk_cell q0 1 _ rfl
  go_enter Tryz.func12, Tryz.ntmps12
  go_wp2_with fail
  refine (HIS.out V hbV).mono ?_
  rintro e V1 ⟨rfl, hb1⟩
  have hbV1 := hbV.trans (hb1.mono hbV.size)
  have hs1 := hb1.size
  replace q0 := q0.below hb1
  replace q1 := q1.below hb1
  clear e0 e1 hV HIS hb1
  cases p with
  | false =>
    have d0 : V1.cell? ⟨w.heap.size + 1, 0, none⟩ = some (.int .u64 0) := blk_cell q1 0 _ rfl
    have d1 : V1.cell? ⟨w.heap.size + 1, 1, none⟩ = some (.int .u64 0) := blk_cell q1 1 _ rfl
    have d2 : V1.cell? ⟨w.heap.size + 1, 2, none⟩ = some (.slice none 0 0) := blk_cell q1 2 _ rfl
    have d3 : V1.cell? ⟨w.heap.size + 1, 3, none⟩ = some (.slice none 0 0) := blk_cell q1 3 _ rfl
    have d4 : V1.cell? ⟨w.heap.size + 1, 4, none⟩ = some (.slice none 0 0) := blk_cell q1 4 _ rfl
    have f0 := blk_frozen q1 0
    have f1 := blk_frozen q1 1
    have f2 := blk_frozen q1 2
    have f3 := blk_frozen q1 3
    have f4 := blk_frozen q1 4
    go_wp2_with fail
    refine bodyPost_ret (results_cv rfl _ _ (w.heap.size + 1) (.int .u64 0) (.int .u64 0) (.slice none 0 0) (.slice none 0 0) (.slice none 0 0) rfl (blk_cell (set5_blk q1) 0 _ rfl) (blk_cell (set5_blk q1) 1 _ rfl) (blk_cell (set5_blk q1) 2 _ rfl) (blk_cell (set5_blk q1) 3 _ rfl) (blk_cell (set5_blk q1) 4 _ rfl)) rfl ?_
    rw [HN.out (by simp)]
    exact .inr ⟨14, rfl, rfl, set5_bel hbV1 (by omega)⟩
  | true =>
    replace HF := Lib.hid (HF.out rfl)
    replace HJF := Lib.hid (HJF.out rfl)
    clear HN
    have e0 : V1.cell? ⟨w.heap.size, 0, none⟩ = some (.int .i64 k0) := blk_cell q0 0 _ rfl
    have e1 : V1.cell? ⟨w.heap.size, 1, none⟩ = some (.slice A0 sl.length sc0) := blk_cell q0 1 _ rfl
    go_wp2_with fail
    refine (HBO.out V1 hbV1).mono ?_
    rintro e U ⟨⟨gn, gm, gsA, gsc, gss, gcA, gcc, gcs, gvA, gvc, gvs⟩, rfl, hge, hgi, hbU⟩
    simp only [val_mk]
    have hsU := hbU.size
    obtain ⟨X, hX⟩ : ∃ X, U.alloc (.cells #[.int .u64 gn, .int .u64 gm, .slice gsA gss.length gsc, .slice gcA gcs.length gcc, .slice gvA gvs.length gvc] 32) = X := ⟨_, rfl⟩
    have hbX : Below U.heap.size U X := by rw [← hX]; exact allocB _ _
    have q2 : Blk X U.heap.size 32 #[.int .u64 gn, .int .u64 gm, .slice gsA gss.length gsc, .slice gcA gcs.length gcc, .slice gvA gvs.length gvc] := by rw [← hX]; exact Blk.new _ _ _
    have HM : Hid (AllM w #[.int .i64 k0, .slice A0 sl.length sc0] U.heap.size t l 0 (.mk gn gm gsA gsc gss gcA gcc gcs gvA gvc gvs) X) := by
      refine ⟨(q0.below hbU).below hbX, (q1.below hbU).below hbX, q2, (hgi.keep fun b hP => hbX.block b hP.2).mono fun b hP => ⟨by have := hP.1; omega, ?_, by have := hP.2; omega⟩, ?_, hbV1.trans ((hbU.trans (hbX.mono hbU.size)).mono hbV1.size), by omega⟩
      · exact Nat.lt_of_lt_of_le hP.2 hbX.size
      · rw [hge]; rfl
    obtain ⟨B6, hB6⟩ : ∃ B6, U.heap.size = B6 := ⟨_, rfl⟩
    rw [hB6] at HM
    clear q0 q1 q2 e0 e1 hge hgi hbX HBO
    go_wp2_with fail
    clear hB6 hX hbU hsU hbV1 hs1
    go_loopw [20] (fun iv wr => ∃ (k : Nat) (g : Vl), k ≤ l.length ∧ iv = .int .i64 k ∧ Hid (AllM w #[.int .i64 k0, .slice A0 sl.length sc0] B6 t l k g wr)) (fun iv _ => l.length - (intOf iv).toNat)
    case atStart => exact ⟨0, _, Nat.zero_le _, rfl, HM⟩
    case round =>
      clear HM
      obtain ⟨k, ⟨gn, gm, gsA, gsc, gss, gcA, gcc, gcs, gvA, gvc, gvs⟩, hk, rfl, HM⟩ := hrel
      have q0 := HM.out.q0
      have q1 := HM.out.q1
      have q2 := HM.out.q2
      have h6 := HM.out.b6
      have hbr := HM.out.bel
      simp only [V4.Vl.n, V4.Vl.m, V4.Vl.s1, V4.Vl.c1, V4.Vl.v1] at q2
      by_cases hlt : k < l.length
      · obtain ⟨x, hx⟩ : ∃ x, l[k]? = some x := ⟨_, List.getElem?_eq_getElem hlt⟩
        obtain ⟨b, off, rfl, hbb, c0, c1, c2, c3, c4⟩ := V4.value_at HL.out hx
        have HX := Lib.hid hx
        have HXI := Lib.hid (HV.out x (List.mem_of_getElem? hx))
        obtain ⟨x0, hx0⟩ : ∃ x0, x = x0 := ⟨_, rfl⟩
        rw [hx0] at HX
        have HX0 := Lib.hid hx0
        clear hx hx0
        obtain ⟨kn, km, ksA, ksc, kss, kcA, kcc, kcs, kvA, kvc, kvs⟩ := x
        simp only [V4.Vl.n, V4.Vl.m, V4.Vl.s1, V4.Vl.c1, V4.Vl.v1] at c0 c1 c2 c3 c4
        replace c0 := (hbr.cell (p := ⟨b, off + k * 5, none⟩) hbb).trans c0
        replace c1 := (hbr.cell (p := ⟨b, off + k * 5 + 1, none⟩) hbb).trans c1
        replace c2 := (hbr.cell (p := ⟨b, off + k * 5 + 2, none⟩) hbb).trans c2
        replace c3 := (hbr.cell (p := ⟨b, off + k * 5 + 3, none⟩) hbb).trans c3
        replace c4 := (hbr.cell (p := ⟨b, off + k * 5 + 4, none⟩) hbb).trans c4
        obtain ⟨Y, hY⟩ : ∃ Y, wr.alloc (.cells #[.int .u64 kn, .int .u64 km, .slice ksA kss.length ksc, .slice kcA kcs.length kcc, .slice kvA kvs.length kvc] 32) = Y := ⟨_, rfl⟩
        have hbY : Below wr.heap.size wr Y := by rw [← hY]; exact allocB _ _
        have r8 : Blk Y wr.heap.size 32 #[.int .u64 kn, .int .u64 km, .slice ksA kss.length ksc, .slice kcA kcs.length kcc, .slice kvA kvs.length kvc] := by rw [← hY]; exact Blk.new _ _ _
        have r0 := q0.below hbY
        have r1 := q1.below hbY
        have r2 := q2.below hbY
        have hbwY := hbr.trans (hbY.mono hbr.size)
        have hsY := hbY.size
        have hl1 := r1.lt
        have hl2 := q2.lt
        have hl3 := q1.lt
        have hl8 := r8.lt
        have e0 : Y.cell? ⟨w.heap.size, 0, none⟩ = some (.int .i64 k0) := blk_cell r0 0 _ rfl
        have e1 : Y.cell? ⟨w.heap.size, 1, none⟩ = some (.slice A0 sl.length sc0) := blk_cell r0 1 _ rfl
        have a0 : Y.cell? ⟨B6, 0, none⟩ = some (.int .u64 gn) := blk_cell r2 0 _ rfl
        have a1 : Y.cell? ⟨B6, 1, none⟩ = some (.int .u64 gm) := blk_cell r2 1 _ rfl
        have a2 : Y.cell? ⟨B6, 2, none⟩ = some (.slice gsA gss.length gsc) := blk_cell r2 2 _ rfl
        have a3 : Y.cell? ⟨B6, 3, none⟩ = some (.slice gcA gcs.length gcc) := blk_cell r2 3 _ rfl
        have a4 : Y.cell? ⟨B6, 4, none⟩ = some (.slice gvA gvs.length gvc) := blk_cell r2 4 _ rfl
        have b0 : Y.cell? ⟨wr.heap.size, 0, none⟩ = some (.int .u64 kn) := blk_cell r8 0 _ rfl
        have b1 : Y.cell? ⟨wr.heap.size, 1, none⟩ = some (.int .u64 km) := blk_cell r8 1 _ rfl
        have b2 : Y.cell? ⟨wr.heap.size, 2, none⟩ = some (.slice ksA kss.length ksc) := blk_cell r8 2 _ rfl
        have b3 : Y.cell? ⟨wr.heap.size, 3, none⟩ = some (.slice kcA kcs.length kcc) := blk_cell r8 3 _ rfl
        have b4 : Y.cell? ⟨wr.heap.size, 4, none⟩ = some (.slice kvA kvs.length kvc) := blk_cell r8 4 _ rfl
        have HJY : Hid (Calls Tryz.prog 15 #[.agg #[.int .i64 k0, .slice A0 sl.length sc0], .agg #[.int .u64 gn, .int .u64 gm, .slice gsA gss.length gsc, .slice gcA gcs.length gcc, .slice gvA gvs.length gvc], .agg #[.int .u64 kn, .int .u64 km, .slice ksA kss.length ksc, .slice kcA kcs.length kcc, .slice kvA kvs.length kvc]] Y (RetK Y (joinF t (Vl.mk gn gm gsA gsc gss gcA gcc gcs gvA gvc gvs).er (Vl.mk kn km ksA ksc kss kcA kcc kcs kvA kvc kvs).er))) :=
          HJ.out _ _ Y hbwY ((HM.out.hg.keep fun b hP => hbY.block b hP.2.1).mono fun b hP => Nat.lt_of_lt_of_le hP.2.1 hbY.size) (HXI.out.later hbwY)
        rw [HJF.out] at HJY
        obtain ⟨st, hst⟩ : ∃ st, stepE t (Vl.mk gn gm gsA gsc gss gcA gcc gcs gvA gvc gvs).er (Vl.mk kn km ksA ksc kss kcA kcc kcs kvA kvc kvs).er = st := ⟨_, rfl⟩
        rw [hst] at HJY
        have HST : Hid (((l.map Vl.er).take (k + 1)).foldlM (stepE t) (botT t) = st) := by
          show _ = _
          rw [foldlM_take (getL HX.out), HM.out.fold, ← hst, ← HX0.out]; rfl
        clear hst q0 q2
        go_wp2_with fail
        refine HJY.out.mono ?_
        rintro e T hr
        obtain ⟨⟨zn, zm, zsA, zsc, zss, zcA, zcc, zcs, zvA, zvc, zvs⟩, ev, rfl, hzi, hbT, hcase⟩ := retK_case hr
        simp only [val_mk]
        clear hr HJY e0 e1 a0 a1 a2 a3 a4 b0 b1 b2 b3 b4 c0 c1 c2 c3 c4 hbb hY
        have hsT := hbT.size
        obtain ⟨Z, hZ⟩ : ∃ Z, T.alloc (.cells #[.int .u64 zn, .int .u64 zm, .slice zsA zss.length zsc, .slice zcA zcs.length zcc, .slice zvA zvs.length zvc] 32) = Z := ⟨_, rfl⟩
        have hbZ : Below T.heap.size T Z := by rw [← hZ]; exact allocB _ _
        have r9 : Blk Z T.heap.size 32 #[.int .u64 zn, .int .u64 zm, .slice zsA zss.length zsc, .slice zcA zcs.length zcc, .slice zvA zvs.length zvc] := by rw [← hZ]; exact Blk.new _ _ _
        have z0 := (r0.below hbT).below hbZ
        have z1 := (r1.below hbT).below hbZ
        have z2 := (r2.below hbT).below hbZ
        have hbwZ : Below w.heap.size w Z := (hbwY.trans (hbT.mono hbwY.size)).trans (hbZ.mono (Nat.le_trans hbwY.size hbT.size))
        have hsZ := hbZ.size
        have HZI : Hid ((Vl.mk zn zm zsA zsc zss zcA zcc zcs zvA zvc zvs).Inp (fun b => Y.heap.size ≤ b ∧ b < T.heap.size) Z) := hzi.keep fun b hP => hbZ.block b hP.2
        clear hzi r0 r1 r2 r8
        rcases hcase with ⟨ho, rfl⟩ | ⟨en, ho, hz, rfl⟩
        · have HO := Lib.hid ho
          clear ho
          have a0 : Z.cell? ⟨T.heap.size, 0, none⟩ = some (.int .u64 zn) := blk_cell r9 0 _ rfl
          have a1 : Z.cell? ⟨T.heap.size, 1, none⟩ = some (.int .u64 zm) := blk_cell r9 1 _ rfl
          have a2 : Z.cell? ⟨T.heap.size, 2, none⟩ = some (.slice zsA zss.length zsc) := blk_cell r9 2 _ rfl
          have a3 : Z.cell? ⟨T.heap.size, 3, none⟩ = some (.slice zcA zcs.length zcc) := blk_cell r9 3 _ rfl
          have a4 : Z.cell? ⟨T.heap.size, 4, none⟩ = some (.slice zvA zvs.length zvc) := blk_cell r9 4 _ rfl
          have b0 : Z.cell? ⟨B6, 0, none⟩ = some (.int .u64 gn) := blk_cell z2 0 _ rfl
          have b1 : Z.cell? ⟨B6, 1, none⟩ = some (.int .u64 gm) := blk_cell z2 1 _ rfl
          have b2 : Z.cell? ⟨B6, 2, none⟩ = some (.slice gsA gss.length gsc) := blk_cell z2 2 _ rfl
          have b3 : Z.cell? ⟨B6, 3, none⟩ = some (.slice gcA gcs.length gcc) := blk_cell z2 3 _ rfl
          have b4 : Z.cell? ⟨B6, 4, none⟩ = some (.slice gvA gvs.length gvc) := blk_cell z2 4 _ rfl
          have f0 := blk_frozen z2 0
          have f1 := blk_frozen z2 1
          have f2 := blk_frozen z2 2
          have f3 := blk_frozen z2 3
          have f4 := blk_frozen z2 4
          have HM2 : Hid (AllM w #[.int .i64 k0, .slice A0 sl.length sc0] B6 t l (k + 1) (.mk zn zm zsA zsc zss zcA zcc zcs zvA zvc zvs) (set5 Z B6 (.int .u64 zn) (.int .u64 zm) (.slice zsA zss.length zsc) (.slice zcA zcs.length zcc) (.slice zvA zvs.length zvc))) := by
            refine ⟨(set5_low (by omega)).trans z0, (set5_low (by omega)).trans z1, set5_blk z2, (HZI.out.keep fun b hP => set5_low (by have := hP.1; omega)).mono fun b hP => ⟨by have := hP.1; omega, ?_, by have := hP.1; omega⟩, HST.out.trans HO.out, set5_bel hbwZ (by omega), h6⟩
            exact Nat.lt_of_lt_of_le (Nat.lt_of_lt_of_le hP.2 hbZ.size) (Nat.le_of_eq set5_size.symm)
          clear z0 z1 z2 r9 HM
          go_wp2_with fail
          go_roundw
          case rel => exact ⟨k + 1, _, by omega, by go_num, HM2⟩
          case measure => simp [intOf]; omega
        · have HO := Lib.hid ho
          clear ho
          have hev : errV en = .iface 39 (.int .i64 en) := rfl
          rw [hev]
          have d0 : Z.cell? ⟨w.heap.size + 1, 0, none⟩ = some (.int .u64 0) := blk_cell z1 0 _ rfl
          have d1 : Z.cell? ⟨w.heap.size + 1, 1, none⟩ = some (.int .u64 0) := blk_cell z1 1 _ rfl
          have d2 : Z.cell? ⟨w.heap.size + 1, 2, none⟩ = some (.slice none 0 0) := blk_cell z1 2 _ rfl
          have d3 : Z.cell? ⟨w.heap.size + 1, 3, none⟩ = some (.slice none 0 0) := blk_cell z1 3 _ rfl
          have d4 : Z.cell? ⟨w.heap.size + 1, 4, none⟩ = some (.slice none 0 0) := blk_cell z1 4 _ rfl
          have f0 := blk_frozen z1 0
          have f1 := blk_frozen z1 1
          have f2 := blk_frozen z1 2
          have f3 := blk_frozen z1 3
          have f4 := blk_frozen z1 4
          clear HM
          go_wp2_with fail
          refine bodyPost_ret (results_cv rfl _ _ (w.heap.size + 1) (.int .u64 0) (.int .u64 0) (.slice none 0 0) (.slice none 0 0) (.slice none 0 0) rfl (blk_cell (set5_blk z1) 0 _ rfl) (blk_cell (set5_blk z1) 1 _ rfl) (blk_cell (set5_blk z1) 2 _ rfl) (blk_cell (set5_blk z1) 3 _ rfl) (blk_cell (set5_blk z1) 4 _ rfl)) rfl ?_
          refine .inr ⟨en, ?_, rfl, set5_bel hbwZ (by omega)⟩
          rw [HF.out]
          exact foldlM_error (HST.out.trans HO.out)
      · have hkk : k = l.length := by omega
        have a0 : wr.cell? ⟨B6, 0, none⟩ = some (.int .u64 gn) := blk_cell q2 0 _ rfl
        have a1 : wr.cell? ⟨B6, 1, none⟩ = some (.int .u64 gm) := blk_cell q2 1 _ rfl
        have a2 : wr.cell? ⟨B6, 2, none⟩ = some (.slice gsA gss.length gsc) := blk_cell q2 2 _ rfl
        have a3 : wr.cell? ⟨B6, 3, none⟩ = some (.slice gcA gcs.length gcc) := blk_cell q2 3 _ rfl
        have a4 : wr.cell? ⟨B6, 4, none⟩ = some (.slice gvA gvs.length gvc) := blk_cell q2 4 _ rfl
        have d0 : wr.cell? ⟨w.heap.size + 1, 0, none⟩ = some (.int .u64 0) := blk_cell q1 0 _ rfl
        have d1 : wr.cell? ⟨w.heap.size + 1, 1, none⟩ = some (.int .u64 0) := blk_cell q1 1 _ rfl
        have d2 : wr.cell? ⟨w.heap.size + 1, 2, none⟩ = some (.slice none 0 0) := blk_cell q1 2 _ rfl
        have d3 : wr.cell? ⟨w.heap.size + 1, 3, none⟩ = some (.slice none 0 0) := blk_cell q1 3 _ rfl
        have d4 : wr.cell? ⟨w.heap.size + 1, 4, none⟩ = some (.slice none 0 0) := blk_cell q1 4 _ rfl
        have f0 := blk_frozen q1 0
        have f1 := blk_frozen q1 1
        have f2 := blk_frozen q1 2
        have f3 := blk_frozen q1 3
        have f4 := blk_frozen q1 4
        have hl2 := q2.lt
        have HQ := Lib.hid (And.intro q0 q2)
        clear q0 q2
        go_wp2_with fail
        refine bodyPost_ret (results_cv rfl _ _ (w.heap.size + 1) (.int .u64 gn) (.int .u64 gm) (.slice gsA gss.length gsc) (.slice gcA gcs.length gcc) (.slice gvA gvs.length gvc) rfl (blk_cell (set5_blk q1) 0 _ rfl) (blk_cell (set5_blk q1) 1 _ rfl) (blk_cell (set5_blk q1) 2 _ rfl) (blk_cell (set5_blk q1) 3 _ rfl) (blk_cell (set5_blk q1) 4 _ rfl)) rfl ?_
        refine .inl ⟨.mk gn gm gsA gsc gss gcA gcc gcs gvA gvc gvs, ?_, rfl, (HM.out.hg.keep fun b hP => set5_low (by have := hP.1; omega)).mono fun b hP => ⟨by have := hP.1; omega, ?_⟩, set5_bel hbr (by omega)⟩
        · rw [HF.out]
          have := HM.out.fold
          rwa [List.take_of_length_le (by simp; omega)] at this
        · exact Nat.lt_of_lt_of_le hP.2.1 (Nat.le_of_eq set5_size.symm)
end Go.Proofs.YtleejffjnknohaaGreat.J5

namespace Go.Proofs.YtleejffjnknohaaGreat.V4
open Go.RowKit Go.Shelf
open C3 (Tk isC belAl)
open S2 (Sc Tr isT allocB)

/-- A variable: its cells. -/
def Bxd (W : World) (b : Nat) (cs : Array Value) : Prop := b < W.heap.size ∧ ∀ i v, cs[i]? = some v → W.cell? ⟨b, i, none⟩ = some v
theorem Bxd.later {W W' : World} {b : Nat} {cs : Array Value} (h : Bxd W b cs) (hb : Below W.heap.size W W') : Bxd W' b cs := ⟨Nat.lt_of_lt_of_le h.1 hb.size, fun i v hv => (hb.cell (p := ⟨b, i, none⟩) h.1).trans (h.2 i v hv)⟩
theorem Bxd.new {W : World} {cs : Array Value} {t : TypeId} : Bxd (W.alloc (.cells cs t)) W.heap.size cs := ⟨by simp, fun i v h => alloc_cells i v h⟩
theorem Bxd.al {W : World} {b : Nat} {cs : Array Value} (h : Bxd W b cs) (o : Obj) : Bxd (W.alloc o) b cs := h.later (allocB W o)

/-- A schema without any in it, a value without any: wherever. -/
def scLeaf (k : Int) : Sc := .mk k none 0 []
def vlNum (n : Int) : Vl := .mk n 0 none 0 [] none 0 [] none 0 []
theorem scLeaf_in (k : Int) (P : Nat → Prop) (W : World) : (scLeaf k).Inp P W := .mk _ _ _ _ (.inl rfl) (by simp) (by simp) (by simp) (by simp)
theorem vlNum_in (n : Int) (hn : 0 ≤ n ∧ n ≤ 18446744073709551615) (P : Nat → Prop) (W : World) : (vlNum n).Inp P W :=
  .mk _ _ _ _ _ _ _ _ _ _ _ hn (by omega) .nil (by simp [maxLen]) (by simp) .nil (by simp [maxLen]) (by simp) .nil (by simp [maxLen]) (by simp)
/-- A value of texts alone, that lie in block b. -/
def vlTexts (n b : Nat) (ss : List Str) : Vl := .mk n 0 (some ⟨b, 0, none⟩) ss.length ss none 0 [] none 0 []
theorem vlTexts_in {W : World} {b : Nat} {ss : List Str} {cs : Array Value} (n : Nat) (hn : n ≤ 1000) (h : Bxd W b cs) (hcs : cs = (cellsS ss).toArray) (hl : ss.length ≤ 1000) (ht : ∀ s ∈ ss, s.length ≤ 1000) : (vlTexts n b ss).In W := by
  refine .mk _ _ _ _ _ _ _ _ _ _ _ (by omega) (by omega) (.inr ⟨b, 0, rfl, h.1, fun i u hu => ?_⟩) (by simp [maxLen]; omega) (fun s hs => by have := ht s hs; unfold maxLen; omega) .nil (by simp [maxLen]) (by simp) .nil (by simp [maxLen]) (by simp)
  rw [Nat.zero_add]
  exact h.2 i u (by rw [hcs]; simpa using hu)

/-- A schema of one or two that lie in block b. -/
def scRow (k : Int) (b : Nat) (l : List Sc) : Sc := .mk k (some ⟨b, 0, none⟩) l.length l
theorem scRow_in {W : World} {b : Nat} {l : List Sc} {cs : Array Value} (k : Int) (h : Bxd W b cs) (hcs : cs = (l.flatMap fun s => [.int .i64 s.k, s.v1]).toArray) (hl : l.length ≤ 1000) (hin : ∀ s ∈ l, s.In W.heap.size W) : (scRow k b l).In W.heap.size W := by
  refine .mk _ _ _ _ (.inr ⟨b, 0, rfl, h.1, fun i s hs => ?_⟩) (Nat.le_refl _) (by omega) (by omega) hin
  have hc : ∀ (l : List Sc) (i : Nat) (s : Sc), l[i]? = some s → (l.flatMap fun s => [Value.int .i64 s.k, s.v1])[i * 2]? = some (.int .i64 s.k) ∧ (l.flatMap fun s => [Value.int .i64 s.k, s.v1])[i * 2 + 1]? = some s.v1 := fun l => by
    induction l with
    | nil => intro i s h; simp at h
    | cons y l ih =>
      intro i s h
      cases i with
      | zero => simp at h; subst h; simp
      | succ i =>
        have := ih i s (by simpa using h)
        rw [show (i + 1) * 2 = i * 2 + 1 + 1 by omega]
        simpa using this
  obtain ⟨h0, h1⟩ := hc l i s hs
  rw [Nat.zero_add]
  exact ⟨h.2 _ _ (by rw [hcs]; simpa using h0), h.2 _ _ (by rw [hcs]; simpa using h1)⟩
/-- A value of values alone, that lie in block b. -/
def vlRow (b : Nat) (vs : List Vl) : Vl := .mk 0 0 none 0 [] none 0 [] (some ⟨b, 0, none⟩) vs.length vs
theorem vlRow_in {W : World} {b : Nat} {vs : List Vl} {cs : Array Value} (h : Bxd W b cs) (hcs : cs = (cellsV vs).toArray) (hl : vs.length ≤ 1000) (hin : ∀ x ∈ vs, x.In W) : (vlRow b vs).In W := by
  refine .mk _ _ _ _ _ _ _ _ _ _ _ (by omega) (by omega) .nil (by simp [maxLen]) (by simp) .nil (by simp [maxLen]) (by simp) (.inr ⟨b, 0, rfl, h.1, fun i u hu => ?_⟩) (by simp [maxLen]; omega) hin
  rw [Nat.zero_add]
  exact h.2 i u (by rw [hcs]; simpa using hu)

def trP : Tr := .mk 5 [.mk 3 [], .mk 1 []]
def vaV : Va := .mk 0 0 [] [] [.mk 0 0 [[97]] [] [], .mk 3 0 [] [] []]
theorem kn_isP : isT 16 trP = true := by decide
theorem kn_isS : isT 16 (.mk 3 []) = true := by decide
theorem kn_bot : botT trP = .mk 0 0 [] [] [.zero, .zero] := by
  unfold trP
  rw [botT_pair kn_isP, botT_zero (by simp [Tr.k]), botT_zero (by simp [Tr.k])]
theorem kn_1 : isV trP vaV = true := by
  unfold trP vaV
  simp [isV, base_mk, fits_5, fits_3, fits_1, hasN, pairV, Va.v, shortV, R1.Srt]
theorem kn_2 : isV (.mk 3 []) vaV = false := by
  unfold vaV
  simp [isV, base_mk, fits_3, hasN]
theorem kn_3 : vaV ≠ .mk 0 0 [] [] [.zero, .zero] := by
  unfold vaV Va.zero
  intro h
  simp at h
theorem kn_4 : isV (.mk 3 []) (.mk 0 0 [[98], [97]] [] []) = false := by
  simp [isV, base_mk, fits_3, hasN, R1.Srt]
  intro _
  decide

end Go.Proofs.YtleejffjnknohaaGreat.V4

namespace Go.Proofs.YtleejffjnknohaaGreat.V4
open Go.RowKit Go.Shelf
open C3 (Tk isC belAl drewB cmpC)
open S2 (Sc Tr isT allocB)

theorem cmp_mk (p q x y : Int) : cmpC [⟨p, x⟩] [⟨q, y⟩] = C3.cmpB (decide (x ≤ (if q = p then y else 0)) && true) (decide (y ≤ (if p = q then x else 0)) && true) := rfl
theorem two_apart (p q x y : Int) (hx : 1 ≤ x) (hy : 1 ≤ y) : (aheadC [⟨p, x⟩] [⟨q, y⟩] && decide (cmpC [⟨p, x⟩] [⟨q, y⟩] = 2)) = decide (p < q) := by
  by_cases h : p = q
  · subst h
    have h2 : cmpC [⟨p, x⟩] [⟨p, y⟩] ≠ 2 := by
      rw [cmp_mk, if_pos rfl, if_pos rfl, Bool.and_true, Bool.and_true]
      by_cases h1 : x ≤ y
      · rw [decide_eq_true h1]; cases decide (y ≤ x) <;> decide
      · rw [decide_eq_false h1, decide_eq_true (show y ≤ x by omega)]; decide
    rw [decide_eq_false h2, Bool.and_false, decide_eq_false (by omega)]
  · have h2 : cmpC [⟨p, x⟩] [⟨q, y⟩] = 2 := by
      rw [cmp_mk, if_neg (fun e => h e.symm), if_neg h, decide_eq_false (show ¬ x ≤ 0 by omega), decide_eq_false (show ¬ y ≤ 0 by omega)]
      rfl
    rw [h2, aheadC, if_neg h]
    simp

theorem tick_ok (p x : Int) (hp : 0 ≤ p ∧ p ≤ 1000) (hx : 1 ≤ x) : isC [⟨p, x⟩] = true := by
  unfold C3.isC C3.bad
  simp [C3.Asc]
  omega

theorem num_1 : isV (.mk 1 []) (.mk 1 0 [] [] []) = true := by rw [isV, base_mk, fits_1]; simp [hasN, R1.Srt]
theorem num_0 : isV (.mk 1 []) .zero = true := by rw [Va.zero, isV, base_mk, fits_1]; simp [hasN, R1.Srt]

theorem sib_two (p q x y : Int) (hp : 0 ≤ p ∧ p ≤ 1000) (hq : 0 ≤ q ∧ q ≤ 1000) (hx : 1 ≤ x) (hy : 1 ≤ y) :
    isV (.mk 8 [.mk 1 []]) (.mk 0 0 [] [[⟨p, x⟩], [⟨q, y⟩]] [.mk 1 0 [] [] [], .zero]) = decide (p < q) := by
  rw [isV, base_mk, fits_ne 8 (by decide) (by decide) (by decide) (by decide) (by decide) (by decide) (by decide), sibs_mk, if_neg (by decide)]
  rw [← two_apart p q x y hx hy]
  simp only [sibGo, tick_ok p x hp hx, tick_ok q y hq hy, num_1, num_0, lastAhead, List.nil_append, List.getLast?_nil, List.getLast?_singleton, List.all_nil, List.all_cons, Bool.true_and, Bool.and_true]
  simp [hasN, R1.Srt]

/-- A clock of one tick that lies in block b. -/
def ckOne (b : Nat) (p x : Int) : Ck := ⟨some ⟨b, 0, none⟩, 1, [⟨p, x⟩]⟩
theorem ckOne_in {W : World} {b : Nat} {p x : Int} (h : Bxd W b #[.int .i64 p, .int .u64 x]) (hx : 0 ≤ x ∧ x ≤ 18446744073709551615) : (ckOne b p x).Inp (fun b => b < W.heap.size) W := by
  refine ⟨.inr ⟨b, 0, rfl, h.1, fun i u hu => ?_⟩, by simp [ckOne], by simp [ckOne, maxLen], fun t ht => ?_, by simp [ckOne]⟩
  · rw [Nat.zero_add]
    exact h.2 i u (by simpa [ckOne, C3.cellsT] using hu)
  · simp [ckOne] at ht
    subst ht
    exact hx

/-- A value of clocks and values that lie in blocks c and v. -/
def vlCV (n m : Int) (sA : Option Addr) (ss : List Str) (c : Nat) (cs : List Ck) (v : Nat) (vs : List Vl) : Vl := .mk n m sA ss.length ss (some ⟨c, 0, none⟩) cs.length cs (some ⟨v, 0, none⟩) vs.length vs
theorem vlCV_in {W : World} {c v : Nat} {cs : List Ck} {vs : List Vl} {c1 c2 : Array Value} (hc : Bxd W c c1) (e1 : c1 = (cellsC cs).toArray) (hv : Bxd W v c2) (e2 : c2 = (cellsV vs).toArray) (l1 : cs.length ≤ 1000) (l2 : vs.length ≤ 1000)
    (h1 : ∀ k ∈ cs, k.Inp (fun b => b < W.heap.size) W) (h2 : ∀ x ∈ vs, x.In W) : (vlCV 0 0 none [] c cs v vs).In W := by
  refine .mk _ _ _ _ _ _ _ _ _ _ _ (by omega) (by omega) .nil (by simp [maxLen]) (by simp) (.inr ⟨c, 0, rfl, hc.1, fun i u hu => ?_⟩) (by simp [maxLen]; omega) h1 (.inr ⟨v, 0, rfl, hv.1, fun i u hu => ?_⟩) (by simp [maxLen]; omega) h2
  · rw [Nat.zero_add]
    exact hc.2 i u (by rw [e1]; simpa using hu)
  · rw [Nat.zero_add]
    exact hv.2 i u (by rw [e2]; simpa using hu)
end Go.Proofs.YtleejffjnknohaaGreat.V4

namespace Go.Proofs.YtleejffjnknohaaGreat.J5
open Go.RowKit Go.Shelf
open C3 (Tk isC cmpC)
open S2 (Sc Tr isT)
open V4 (Va Vl Ck isV botT ApR tick_ok)

theorem retK_ok {w : World} {o : Except Int Va} {z : Va} {e : Ending} {w' : World} (h : RetK w o e w') (ho : o = .ok z) : ∃ x : Vl, e = .returned (.tuple #[x.val, .nilIface]) ∧ x.er = z ∧ x.Inp (fun b => w.heap.size ≤ b ∧ b < w'.heap.size) w' ∧ Below w.heap.size w w' := by
  rcases h with ⟨x, h1, h2⟩ | ⟨n, h1, _⟩
  · rw [ho] at h1
    exact ⟨x, h2.1, (Except.ok.inj h1).symm, h2.2⟩
  · rw [ho] at h1; cases h1
theorem retK_err {w : World} {o : Except Int Va} {n : Int} {e : Ending} {w' : World} (h : RetK w o e w') (ho : o = .error n) : e = .returned (.tuple #[vlZ.val, errV n]) ∧ Below w.heap.size w w' := by
  rcases h with ⟨x, h1, h2⟩ | ⟨m, h1, h2⟩
  · rw [ho] at h1; cases h1
  · rw [ho] at h1
    cases h1; exact h2

theorem joinF_ok {t : Tr} {x y z : Va} (ht : isT 16 t = true) (vx : isV t x = true) (vy : isV t y = true) (hj : joinE t x y = some z) : joinF t x y = .ok z := by
  unfold joinF stepE
  rw [if_pos ht, if_pos ⟨vx, vy⟩, hj]
theorem joinF_large {t : Tr} {x y : Va} (ht : isT 16 t = true) (vx : isV t x = true) (vy : isV t y = true) (hj : joinE t x y = none) : joinF t x y = .error 13 := by
  unfold joinF stepE
  rw [if_pos ht, if_pos ⟨vx, vy⟩, hj]
theorem joinF_type {t : Tr} {x y : Va} (h : isV t x = false ∨ isV t y = false) : joinF t x y = .error 14 :=
  joinF_no (h.imp (fun h => by rw [h, Bool.and_false]) (fun h => by rw [h, Bool.and_false]))

/-- A number as a value. -/
def numE (n : Int) : Va := .mk n 0 [] [] []
theorem is_num (n : Int) : isV (.mk 1 []) (numE n) = true := (isV_num (.inl rfl)).2 ⟨n, rfl, by simp⟩
theorem joinE_num (a b : Int) : joinE (.mk 1 []) (numE a) (numE b) = some (numE (max a b)) := by
  rw [joinE, if_neg (by decide), if_neg (by decide), if_neg (by decide)]; rfl
theorem isT_1 : isT 16 (.mk 1 []) = true := by decide
theorem isT_2 : isT 16 (.mk 2 []) = true := by decide
theorem isT_3 : isT 16 (.mk 3 []) = true := by decide
theorem isT_6 : isT 16 (.mk 6 []) = true := by decide
theorem isT_81 : isT 16 (.mk 8 [.mk 1 []]) = true := by decide

/-- One version. -/
def verE (k n v : Int) : Va := .mk 0 0 [] [[⟨k, n⟩]] [numE v]
theorem is_ver (k n v : Int) (hk : 0 ≤ k ∧ k ≤ 1000) (hn : 1 ≤ n) : isV (.mk 8 [.mk 1 []]) (verE k n v) = true := by
  refine isV_cause.2 ⟨_, _, rfl, rfl, by simp, by simp, fun c hc => ?_, fun y hy => ?_⟩
  · rw [List.mem_singleton] at hc
    subst hc
    exact tick_ok k n hk hn
  · rw [List.mem_singleton] at hy
    subst hy
    exact is_num v

theorem cmpT_one (k n m : Int) (h : n < m) : cmpT [⟨k, n⟩] [⟨k, m⟩] = -1 := by
  unfold cmpT
  have h1 : V4.aheadC [⟨k, n⟩] [⟨k, m⟩] = true := by
    simp only [V4.aheadC, if_true]
    rw [if_neg (by omega)]
    exact decide_eq_true h
  rw [if_pos h1]

theorem kn_j1 : joinF (.mk 3 []) (.mk 0 0 [[97]] [] []) (.mk 0 0 [[98]] [] []) = .ok (.mk 0 0 [[97], [98]] [] []) := by
  refine joinF_ok isT_3 (isV_set.2 ⟨_, rfl, by simp, by simp, rfl⟩) (isV_set.2 ⟨_, rfl, by simp, by simp, rfl⟩) ?_
  rw [joinE, if_pos rfl]
  rfl
theorem no_num {s : List Str} : isV (.mk 3 []) (.mk 1 0 s [] []) = false := by
  cases h : isV (.mk 3 []) (.mk 1 0 s [] []) with
  | false => rfl
  | true =>
    obtain ⟨t, e, _⟩ := isV_set.1 h
    cases e
theorem kn_j2 (x : Va) : joinF (.mk 3 []) x (.mk 1 0 [] [] []) = .error 14 := joinF_type (.inr no_num)
theorem kn_j3 : joinF (.mk 8 [.mk 1 []]) (verE 1 1 9) (verE 1 2 3) = .ok (verE 1 2 3) := by
  refine joinF_ok isT_81 (is_ver 1 1 9 (by omega) (by omega)) (is_ver 1 2 3 (by omega) (by omega)) ?_
  rw [joinE, if_neg (by decide)]
  unfold causeE verE
  simp only [Va.c, Va.v, List.zip_cons_cons, List.zip_nil_left]
  rw [mix_lt _ _ _ _ (by rw [cmpT_one 1 1 2 (by omega)]; decide), mix_right, mix_nil]
  rw [List.filter_cons_of_neg (by decide), List.filter_cons_of_pos (by decide), List.filter_nil]
  unfold togE
  rw [if_neg (by simp)]
  simp only [allE]
  rw [show (Va.zero : Va) = numE 0 from rfl, joinE_num]
  rfl
theorem kn_j4 : allF (.mk 3 []) [] = .ok .zero := by
  unfold allF
  rw [if_pos isT_3, V4.botT_zero (by simp [Tr.k])]
  rfl
theorem noP_leaf {k : Int} (h : k ≠ 5) : NoP (.mk k []) := .mk _ _ h (fun _ h => by cases h)
theorem noP_one {k : Int} {a : Tr} (h : k ≠ 5) (ha : NoP a) : NoP (.mk k [a]) := .mk _ _ h (fun x hx => by rw [List.mem_singleton.1 hx]; exact ha)

/-- Twins. -/
theorem kn_twins (k n a b : Int) (hk : 0 ≤ k ∧ k ≤ 1000) (hn : 1 ≤ n) : joinF (.mk 8 [.mk 1 []]) (verE k n a) (verE k n b) = .ok (verE k n (max a b)) := by
  refine joinF_ok isT_81 (is_ver k n a hk hn) (is_ver k n b hk hn) ?_
  rw [joinE, if_neg (by decide)]
  unfold causeE verE
  simp only [Va.c, Va.v, List.zip_cons_cons, List.zip_nil_left]
  rw [mix_eq cmpT Va.zero (x := ([⟨k, n⟩], numE a)) (y := ([⟨k, n⟩], numE b)) [] [] (cmpT_ok.refl _), mix_nil]
  have hs : (!seenE [⟨k, n⟩] ([[⟨k, n⟩]] ++ [[⟨k, n⟩]])) = true := by
    unfold seenE
    simp only [Bool.not_eq_true', List.any_eq_false, decide_eq_true_eq]
    intro o ho
    rcases List.mem_append.1 ho with h | h <;> (rw [List.mem_singleton.1 h]; exact cmpC_irrefl _)
  have hf : ([([⟨k, n⟩], numE a, numE b)] : List (List Tk × Va × Va)).filter (fun p => !seenE p.1 ([[⟨k, n⟩]] ++ [[⟨k, n⟩]])) = [([⟨k, n⟩], numE a, numE b)] := by simp only [List.filter, hs]
  dsimp only
  rw [hf]
  unfold togE
  rw [if_neg (by simp)]
  simp only [allE]
  rw [joinE_num]
  rfl
end Go.Proofs.YtleejffjnknohaaGreat.J5

namespace Go.Proofs.YtleejffjnknohaaGreat.J5
open Go.RowKit Go.Shelf Go.Extern.Stop Go.Stop Go.Extern

theorem Tryz.eqTypeOf (v : Value) (w : World) : (Extern.ReflectliteType.typeOf #[.iface 39 v]).run Tryz.prog w = .ok (.iface 72 (.agg #[.pointer (some ⟨1, 39, none⟩)])) w := by kernel_rfl
/-- Whether its values can be compared. -/
def cmpX : Array Value → Sem Value := Extern.ReflectliteType.method fun t => do Go.Extern.Rtype.noPackHeld "Comparable" t; pure (.bool (← typeInfo t).comparable)
theorem Tryz.eqComparable (w : World) : (cmpX #[.agg #[.pointer (some ⟨1, 39, none⟩)]]).run Tryz.prog w = .ok (.bool true) w := by kernel_rfl
theorem Tryz.eqMethod (v : Value) (w : World) : (Go.method 316 72 v "Comparable").run Tryz.prog w = .ok (163, v) w := by kernel_rfl
theorem Tryz.eqComp : (Tryz.prog.info? 39).map (·.comparable) = some true := by kernel_rfl
theorem Tryz.noIsN (v : Value) (xT : TypeId) (w : World) : (Instr.typeAssert (.iface 39 v) xT 74 true).run Tryz.prog w = .ok (.tuple #[.nilIface, .bool false]) w := run_typeAssert_lacksB Tryz.underlying74 (by kernel_rfl) (by kernel_rfl) v xT w
theorem Tryz.noUnwrapN (v : Value) (xT : TypeId) (w : World) : (Instr.typeAssert (.iface 39 v) xT 77 true).run Tryz.prog w = .ok (.tuple #[.nilIface, .bool false]) w := run_typeAssert_lacksB Tryz.underlying77 (by kernel_rfl) (by kernel_rfl) v xT w
theorem Tryz.noUnwrapsN (v : Value) (xT : TypeId) (w : World) : (Instr.typeAssert (.iface 39 v) xT 79 true).run Tryz.prog w = .ok (.tuple #[.nilIface, .bool false]) w := run_typeAssert_lacksB Tryz.underlying79 (by kernel_rfl) (by kernel_rfl) v xT w

theorem run_eql_errno (n m : Int) (w : World) : (binOp .eql 35 (errV n) (errV m)).run Tryz.prog w = .ok (.bool (decide (n = m))) w := by
  obtain ⟨i, hi, hcmp⟩ := Option.map_eq_some_iff.1 Tryz.eqComp
  have hu := Tryz.underlying35
  have he := Tryz.underlying39
  unfold errV
  have h : ∀ d : Nat, (Op.equalIn (d + 2) 35 (.iface 39 (.int .i64 n)) (.iface 39 (.int .i64 m))).run Tryz.prog w = .ok (decide (n = m)) w := fun d => by
    simp [Op.equalIn, run_underlying hu, run_underlying he, typeInfo, hi, hcmp]
    rfl
  simp only [binOp]
  simp [Op.equal, Op.maxDepth, h 9998]

set_option maxRecDepth 100000 in
set_option maxHeartbeats 1000000 in
theorem is_any (n m : Int) (w : World) : Calls Tryz.prog 13 #[errV n, errV m] w (RetV w (.bool (decide (n = m)))) := by
  have h25 := @run_callFunc_extern Tryz.prog 25 _ Extern.ReflectliteType.typeOf Tryz.func25 (by kernel_rfl) (by kernel_rfl) (by kernel_rfl) (by kernel_rfl)
  have h63 := @run_callFunc_extern Tryz.prog 163 _ cmpX Tryz.func163 (by kernel_rfl) (by kernel_rfl) (by kernel_rfl) (by kernel_rfl)
  have tT := Tryz.eqTypeOf
  have cT := Tryz.eqComparable
  have mR := Tryz.eqMethod
  have nE := Tryz.noIsN
  have uE := Tryz.noUnwrapN
  have vE := Tryz.noUnwrapsN
  have heq := run_eql_errno n m w
  obtain ⟨q, hq⟩ : ∃ q, decide (n = m) = q := ⟨_, rfl⟩
  rw [hq] at heq
  rw [hq]
  clear hq
  unfold errV at heq ⊢
  cases q with
  | true =>
    go_enter Tryz.func13, Tryz.ntmps13
    go_wp2
    refine wp_loop_rounds 1 ?_
    rw [rounds_succ]
    go_wp2
    go_ret
    exact ⟨rfl, Below.refl _ _⟩
  | false =>
    go_enter Tryz.func13, Tryz.ntmps13
    go_wp2
    refine wp_loop_rounds 1 ?_
    rw [rounds_succ]
    go_wp2
    go_ret
    exact ⟨rfl, Below.refl _ _⟩
set_option maxHeartbeats 400000 in
theorem is_nil (m : Int) (w : World) : Calls Tryz.prog 13 #[.nilIface, errV m] w (RetV w (.bool false)) := by
  have hn := run_eql_iface_nil_left (P := Tryz.prog) w 39 (.int .i64 m) Tryz.underlying35
  unfold errV
  go_enter Tryz.func13, Tryz.ntmps13
  go_wp2
  go_ret
  exact ⟨rfl, Below.refl _ _⟩
end Go.Proofs.YtleejffjnknohaaGreat.J5
