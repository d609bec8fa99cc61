/- OrderNumbersSaid is proved: at every input the law returns true, and each argument reads afterwards as it read before. No condition. What OrderNumbers does: it answers true. No condition but that what is handed in are numbers of their kinds. Two last writers joined: plain mathematics. No condition. -/
import Derived.Test.YtdbohojncbeajaaGreatMo25
import Derived.Test.YtdbohojncbeajaaGreatMo27
import Derived.WalkKit
import Derived.ProofKit
import Derived.OpenShut
namespace Go.Proofs.YtdbohojncbeajaaGreat.J5
open C3 (cmpI cmpI_lt cmpI_gt cmpI_eq)
open S2 (Tr isT)
open V4 (Va isV)

theorem is_last (n m : Int) (c : UInt8) (hn : 1 ≤ n) : isV (.mk 6 []) (.mk n m [[c]] [] []) = true :=
  isV_last.2 (.inr ⟨n, m, [c], rfl, rfl, .inl (by omega)⟩)
theorem writer_lt (n m n' m' : Int) (c d : UInt8) : writerI (.mk n m [[c]] [] []) (.mk n' m' [[d]] [] []) < 0 ↔ (n < n' ∨ (n = n' ∧ (m < m' ∨ (m = m' ∧ c < d)))) := by
  have hL : cmpL [[c]] [[d]] < 0 ↔ c < d := by
    have hs : ([c] : Str) < [d] ↔ c < d := by
      rw [List.cons_lt_cons_iff]
      constructor
      · rintro (h | ⟨_, h⟩)
        · exact h
        · exact absurd h (List.lt_irrefl _)
      · exact .inl
    rw [cmpL]
    by_cases h0 : cmpS [c] [d] = 0
    · rw [if_pos h0]
      have e : [c] = [d] := cmpS_ok.eq h0
      have e2 : c = d := by simpa using e
      subst e2
      simp [cmpL]
    · rw [if_neg h0, ← hs]
      unfold cmpS
      by_cases h1 : ([c] : Str) < [d]
      · rw [if_pos h1]; simp [h1]
      · rw [if_neg h1]
        split <;> simp [h1]
  show (if cmpI n n' = 0 then (if cmpI m m' = 0 then cmpL [[c]] [[d]] else cmpI m m') else cmpI n n') < 0 ↔ _
  rcases Int.lt_trichotomy n n' with h | h | h
  · rw [cmpI_lt h, if_neg (by decide)]
    exact ⟨fun _ => .inl h, fun _ => by decide⟩
  · subst h
    rw [cmpI_eq, if_pos rfl]
    rcases Int.lt_trichotomy m m' with h2 | h2 | h2
    · rw [cmpI_lt h2, if_neg (by decide)]
      exact ⟨fun _ => .inr ⟨rfl, .inl h2⟩, fun _ => by decide⟩
    · subst h2
      rw [cmpI_eq, if_pos rfl, hL]
      exact ⟨fun h => .inr ⟨rfl, .inr ⟨rfl, h⟩⟩, fun h => by
        rcases h with h | ⟨_, h | ⟨_, h⟩⟩
        · omega
        · omega
        · exact h⟩
    · rw [cmpI_gt h2, if_neg (by decide)]
      exact ⟨fun h => by omega, fun h => by
        rcases h with h | ⟨_, h | ⟨h, _⟩⟩ <;> omega⟩
  · rw [cmpI_gt h, if_neg (by decide)]
    exact ⟨fun h => by omega, fun h => by
      rcases h with h | ⟨h, _⟩ <;> omega⟩

/-- The greater one by p, q. -/
theorem jl_two (n m n' m' : Int) (c d : UInt8) (p q : Int) (hn : 1 ≤ n) (hn' : 1 ≤ n') (h : (n < n' ∨ (n = n' ∧ (m < m' ∨ (m = m' ∧ c < d)))) ↔ p < q) :
    joinF (.mk 6 []) (.mk n m [[c]] [] []) (.mk n' m' [[d]] [] []) = .ok (if p < q then .mk n' m' [[d]] [] [] else .mk n m [[c]] [] []) := by
  refine joinF_ok isT_6 (is_last n m c hn) (is_last n' m' d hn') ?_
  rw [joinE, if_neg (by decide), if_pos rfl]
  unfold lastE
  have hw := (writer_lt n m n' m' c d).trans h
  by_cases hpq : p < q
  · rw [if_pos (hw.2 hpq), if_pos hpq]; rfl
  · rw [if_neg (fun h => hpq (hw.1 h)), if_neg hpq]; rfl
theorem jl_none (n m : Int) (c : UInt8) (hn : 1 ≤ n) : joinF (.mk 6 []) (.mk n m [[c]] [] []) .zero = .ok (.mk n m [[c]] [] []) := by
  refine joinF_ok isT_6 (is_last n m c hn) (isV_last.2 (.inl rfl)) ?_
  rw [joinE, if_neg (by decide), if_pos rfl]
  unfold lastE
  rw [if_neg]
  · rfl
  · show ¬ (if cmpI n 0 = 0 then (if cmpI m 0 = 0 then cmpL [[c]] [] else cmpI m 0) else cmpI n 0) < 0
    rw [cmpI_gt (by omega), if_neg (by decide)]
    decide
end Go.Proofs.YtdbohojncbeajaaGreat.J5

namespace Go.Proofs.YtdbohojncbeajaaGreat.J5
open Go.RowKit Go.Shelf
open C3 (Tk belAl allocB)
open S2 (Sc Tr isT)
open V4 (Va Vl Ck isV botT Bxd val_mk er_mk scLeaf scLeaf_in vlNum vlNum_in mk_inj)

/-- A last writer's value where it lies. -/
def vlLst (n m : Int) (b : Nat) : Vl := .mk n m (some ⟨b, 0, none⟩) 1 [[116]] none 0 [] none 0 []
theorem vlLst_in {W : World} {n m : Int} {b : Nat} (hn : 0 ≤ n ∧ n ≤ 18446744073709551615) (hm : 0 ≤ m ∧ m ≤ 1000) (h : Bxd W b #[.string ⟨#[116]⟩]) : (vlLst n m b).In W := by
  refine .mk _ _ _ _ _ _ _ _ _ _ _ (by omega) (by omega) (.inr ⟨b, 0, rfl, h.1, fun i u hu => ?_⟩) (by simp [maxLen]) (by simp [maxLen]) (.inl rfl) (by simp) (by simp) (.inl rfl) (by simp) (by simp)
  rw [Nat.zero_add]
  exact h.2 i u (by simpa [V4.cellsS, show S [116] = ⟨#[116]⟩ from rfl] using hu)
theorem writer_le (n m n' m' : Int) (c : UInt8) : writerI (.mk n m [[c]] [] []) (.mk n' m' [[c]] [] []) ≤ 0 ↔ n < n' ∨ (n = n' ∧ m ≤ m') := by
  have h := writer_lt n' m' n m c c
  have hf : writerI (.mk n' m' [[c]] [] []) (.mk n m [[c]] [] []) < 0 ↔ ¬ writerI (.mk n m [[c]] [] []) (.mk n' m' [[c]] [] []) ≤ 0 := by
    rw [writer_lex, writer_lex]
    exact ⟨fun h => by have := keyW_ok.flip h; omega, fun h => keyW_ok.gt (by omega)⟩
  have hc : ¬ c < c := fun h => by rw [UInt8.lt_iff_toNat_lt] at h; omega
  rw [hf] at h
  constructor
  · intro h1
    have : ¬ (n' < n ∨ n' = n ∧ (m' < m ∨ m' = m ∧ c < c)) := fun h2 => h.2 h2 h1
    simp only [hc, and_false, or_false] at this
    omega
  · intro h1
    by_cases h2 : writerI (.mk n m [[c]] [] []) (.mk n' m' [[c]] [] []) ≤ 0
    · exact h2
    · have := h.1 h2
      simp only [hc, and_false, or_false] at this
      omega

set_option maxRecDepth 100000 in
set_option maxHeartbeats 4000000 in
theorem orderNumbers_all (a b m n : Int) (ha : 0 ≤ a ∧ a ≤ 18446744073709551615) (hb : 0 ≤ b ∧ b ≤ 18446744073709551615) (hm : 0 ≤ m ∧ m ≤ 255) (hn : 0 ≤ n ∧ n ≤ 255) (w : World) : Calls Tryz.prog 4 #[.int .u64 a, .int .u64 b, .int .u8 m, .int .u8 n] w (RetV w (.bool true)) := by
  obtain ⟨N1, hN1⟩ : ∃ k, cmpN (decide (a ≤ b)) (decide (b ≤ a)) = k := ⟨_, rfl⟩
  obtain ⟨N2, hN2⟩ : ∃ k, cmpN (decide (a < b ∨ (a = b ∧ m + 1 ≤ n + 1))) (decide (b < a ∨ (b = a ∧ n + 1 ≤ m + 1))) = k := ⟨_, rfl⟩
  have HN : Hid ((a < b ∧ N1 = -1 ∧ N2 = -1) ∨ (b < a ∧ N1 = 1 ∧ N2 = 1) ∨ (a = b ∧ N1 = 0 ∧ ((m < n ∧ N2 = -1) ∨ (n < m ∧ N2 = 1) ∨ (m = n ∧ N2 = 0)))) := by
    rw [← hN1, ← hN2]
    rcases Int.lt_trichotomy a b with h | h | h
    · refine .inl ⟨h, ?_, ?_⟩
      · rw [decide_eq_true (show a ≤ b by omega), decide_eq_false (show ¬ b ≤ a by omega)]; rfl
      · rw [decide_eq_true (show a < b ∨ (a = b ∧ m + 1 ≤ n + 1) by omega), decide_eq_false (show ¬ (b < a ∨ (b = a ∧ n + 1 ≤ m + 1)) by omega)]; rfl
    · refine .inr (.inr ⟨h, ?_, ?_⟩)
      · rw [decide_eq_true (show a ≤ b by omega), decide_eq_true (show b ≤ a by omega)]; rfl
      · rcases Int.lt_trichotomy m n with h2 | h2 | h2
        · refine .inl ⟨h2, ?_⟩
          rw [decide_eq_true (show a < b ∨ (a = b ∧ m + 1 ≤ n + 1) by omega), decide_eq_false (show ¬ (b < a ∨ (b = a ∧ n + 1 ≤ m + 1)) by omega)]; rfl
        · refine .inr (.inr ⟨h2, ?_⟩)
          rw [decide_eq_true (show a < b ∨ (a = b ∧ m + 1 ≤ n + 1) by omega), decide_eq_true (show b < a ∨ (b = a ∧ n + 1 ≤ m + 1) by omega)]; rfl
        · refine .inr (.inl ⟨h2, ?_⟩)
          rw [decide_eq_false (show ¬ (a < b ∨ (a = b ∧ m + 1 ≤ n + 1)) by omega), decide_eq_true (show b < a ∨ (b = a ∧ n + 1 ≤ m + 1) by omega)]; rfl
    · refine .inr (.inl ⟨h, ?_, ?_⟩)
      · rw [decide_eq_false (show ¬ a ≤ b by omega), decide_eq_true (show b ≤ a by omega)]; rfl
      · rw [decide_eq_false (show ¬ (a < b ∨ (a = b ∧ m + 1 ≤ n + 1)) by omega), decide_eq_true (show b < a ∨ (b = a ∧ n + 1 ≤ m + 1) by omega)]; rfl
  have H1 : Hid (∀ W, Calls Tryz.prog 10 #[(scLeaf 1).val, (vlNum a).val, (vlNum b).val] W (RetV W (.tuple #[.int .i64 N1, .nilIface]))) := fun W => by
    rw [← hN1]
    exact Cmp_by False False.elim (scLeaf 1) (vlNum a) (vlNum b) W (scLeaf_in _ _ _) (vlNum_in a ha _ _) (vlNum_in b hb _ _) (fun _ => .inr (noP_leaf (by decide))) isT_1 (is_num a) (is_num b) _ _ (by rw [show (scLeaf 1).er = .mk 1 [] from rfl, leV_num (.inl rfl)]; exact decide_eq_true_iff.symm) (by rw [show (scLeaf 1).er = .mk 1 [] from rfl, leV_num (.inl rfl)]; exact decide_eq_true_iff.symm)
  have H2 : Hid (∀ (p q : Nat) W, Bxd W p #[.string ⟨#[116]⟩] → Bxd W q #[.string ⟨#[116]⟩] → Calls Tryz.prog 10 #[(scLeaf 6).val, (vlLst a (m + 1) p).val, (vlLst b (n + 1) q).val] W (RetV W (.tuple #[.int .i64 N2, .nilIface]))) := fun p q W hp hq => by
    rw [← hN2]
    exact Cmp_by False False.elim (scLeaf 6) (vlLst a (m + 1) p) (vlLst b (n + 1) q) W (scLeaf_in _ _ _) (vlLst_in ha (by omega) hp) (vlLst_in hb (by omega) hq) (fun _ => .inr (noP_leaf (by decide))) isT_6 (isV_last.2 (.inr ⟨_, _, _, rfl, rfl, .inr (.inl (by omega))⟩)) (isV_last.2 (.inr ⟨_, _, _, rfl, rfl, .inr (.inl (by omega))⟩)) _ _ (by rw [show (scLeaf 6).er = .mk 6 [] from rfl, leV_last]; exact (writer_le _ _ _ _ _).trans decide_eq_true_iff.symm) (by rw [show (scLeaf 6).er = .mk 6 [] from rfl, leV_last]; exact (writer_le _ _ _ _ _).trans decide_eq_true_iff.symm)
  clear hN1 hN2
  go_enter Tryz.func4, Tryz.ntmps4
  go_wp2_with fail
  refine (known6_any w).mono ?_
  rintro e W0 ⟨rfl, bW0⟩
  have BW0 : Below w.heap.size w W0 := bW0
  go_wp2_with fail
  refine (of6_any 1 none 0 0 W0).mono ?_
  rintro e W1 ⟨rfl, bW1⟩
  have BW1 : Below w.heap.size w W1 := BW0.trans (bW1.mono BW0.size)
  go_wp2_with fail
  refine (H1.out W1).mono ?_
  clear H1
  rintro e U1 ⟨rfl, bU1⟩
  have BU1 : Below w.heap.size w U1 := BW1.trans (bU1.mono BW1.size)
  go_wp2_with fail
  refine (of6_any 6 none 0 0 U1).mono ?_
  rintro e W2 ⟨rfl, bW2⟩
  have BW2 : Below w.heap.size w W2 := BU1.trans (bW2.mono BU1.size)
  obtain ⟨W3, hW3⟩ : ∃ W3, ((W2.alloc (.cells #[.string ⟨#[116]⟩] 9)).alloc (.cells #[.string ⟨#[116]⟩] 9)) = W3 := ⟨_, rfl⟩
  have bW3 : Below W2.heap.size W2 W3 := by rw [← hW3]; exact belAl (belAl (Below.refl _ _))
  have Xa : Bxd W3 (W2.heap.size) #[.string ⟨#[116]⟩] := by
    rw [← hW3]
    have := V4.Bxd.new (W := W2) (cs := #[.string ⟨#[116]⟩]) (t := 9)
    exact this.al _
  have Xb : Bxd W3 (W2.heap.size + 1) #[.string ⟨#[116]⟩] := by
    rw [← hW3]
    have := V4.Bxd.new (W := (W2.alloc (.cells #[.string ⟨#[116]⟩] 9))) (cs := #[.string ⟨#[116]⟩]) (t := 9)
    rw [World.size_alloc] at this
    exact this
  have BW3 : Below w.heap.size w W3 := BW2.trans (bW3.mono BW2.size)
  have HJ := Lib.hid (H2.out W2.heap.size (W2.heap.size + 1) W3 Xa Xb)
  clear H2 Xa Xb
  go_wp2_with fail
  try rw [hW3]
  refine HJ.out.mono ?_
  clear HJ hW3
  rintro e U3 ⟨rfl, bU3⟩
  have BU3 : Below w.heap.size w U3 := BW3.trans (bU3.mono BW3.size)
  rcases HN.out with ⟨h, rfl, rfl⟩ | ⟨h, rfl, rfl⟩ | ⟨h, rfl, h2⟩
  · clear HN
    have g : decide (a < b) = true := decide_eq_true h
    clear h
    go_wp2_with fail
    go_ret
    exact ⟨by simp, BU3⟩
  · clear HN
    have g : decide (a < b) = false := decide_eq_false (by omega)
    have g2 : decide (b < a) = true := decide_eq_true h
    clear h
    go_wp2_with fail
    go_ret
    exact ⟨by simp, BU3⟩
  · clear HN
    have g : decide (a < b) = false := decide_eq_false (by omega)
    have g2 : decide (b < a) = false := decide_eq_false (by omega)
    clear h
    rcases h2 with ⟨h, rfl⟩ | ⟨h, rfl⟩ | ⟨h, rfl⟩
    · have g3 : decide (m < n) = true := decide_eq_true h
      clear h
      go_wp2_with fail
      go_ret
      exact ⟨by simp, BU3⟩
    · have g3 : decide (m < n) = false := decide_eq_false (by omega)
      have g4 : decide (n < m) = true := decide_eq_true h
      clear h
      go_wp2_with fail
      go_ret
      exact ⟨by simp, BU3⟩
    · have g3 : decide (m < n) = false := decide_eq_false (by omega)
      have g4 : decide (n < m) = false := decide_eq_false (by omega)
      clear h
      go_wp2_with fail
      go_ret
      exact ⟨by simp, BU3⟩
end Go.Proofs.YtdbohojncbeajaaGreat.J5

namespace Go.Proofs.YtdbohojncbeajaaGreat
open Go.ChangeShapes Go.WideShapes Go.ChangeAt Go.RowKit

theorem u8_in {n : Int} (h : (Lit.int .u8 n).wf = true) : 0 ≤ n ∧ n ≤ 255 := by
  simp [Lit.wf] at h
  have e1 : IntKind.u8.min = 0 := by decide
  have e2 : IntKind.u8.max = 255 := by decide
  omega
theorem u64_in {n : Int} (h : (Lit.int .u64 n).wf = true) : 0 ≤ n ∧ n ≤ 18446744073709551615 := by
  simp [Lit.wf] at h
  have e1 : IntKind.u64.min = 0 := by decide
  have e2 : IntKind.u64.max = 18446744073709551615 := by decide
  omega

set_option maxRecDepth 100000 in
theorem orderNumbers_lifted (os : Os) (started : os.Started) (H : Type) (enc : TypeId × Value → H) :
    ReturnsInHanded {} Tryz.checked os 4 .any (Rows.orderNumbersSpec.pre6 enc Tryz.prog Tryz.f4 Rows.orderNumbersRow.domain false) (Rows.orderNumbersSpec.post enc Tryz.prog Tryz.f4 false true false false) := by
  refine returnsInHanded_of_change (C := Tryz.checked) (by kernel_rfl) started (by kernel_rfl) Tryz.func4
    (ChangeSpec.witness6 (enc := enc) (C := Tryz.checked) false ⟨#[], #[.int .u64 0, .int .u64 0, .int .u8 0, .int .u8 0], []⟩ 8 (by kernel_rfl) (by kernel_rfl) (by kernel_rfl) (by kernel_rfl)) ?_
  intro W base args ds gs before hval0 hW _ _
  have hval : ∀ (j : Nat) t v, Tryz.f4.params[j]? = some t → args[j]? = some v → Value.okWide Tryz.prog W .any base t v := hval0
  have hW' := hW
  obtain ⟨p, q, hA0, hV, rfl, _, _⟩ := hW
  have hA : DataW.TrodAll enc Tryz.prog W 0 (fun _ => true) true Tryz.f4.params.toList args.toList ds p := hA0
  rw [Tryz.params4] at hA hval
  obtain ⟨v0, vs0, d0, ds0, p0, q0, hargs, rfl, rfl, h0, r0⟩ := trodAll_cons hA
  obtain ⟨v1, vs1, d1, ds1, p1, q1, rfl, rfl, rfl, h1, r1⟩ := trodAll_cons r0
  obtain ⟨v2, vs2, d2, ds2, p2, q2, rfl, rfl, rfl, h2, r2⟩ := trodAll_cons r1
  obtain ⟨v3, vs3, d3, ds3, p3, q3, rfl, rfl, rfl, h3, r3⟩ := trodAll_cons r2
  obtain ⟨rfl, rfl, rfl⟩ := trodAll_nil r3
  obtain rfl : args = #[v0, v1, v2, v3] := by cases args; simp_all
  obtain ⟨rfl, rfl⟩ := trodVars_none hV
  obtain ⟨a0, rfl, rfl, rfl, w0⟩ := open_int Tryz.underlying24 (hval 0 24 v0 rfl rfl) h0
  obtain ⟨a1, rfl, rfl, rfl, w1⟩ := open_int Tryz.underlying24 (hval 1 24 v1 rfl rfl) h1
  obtain ⟨a2, rfl, rfl, rfl, w2⟩ := open_int Tryz.underlying5 (hval 2 5 v2 rfl rfl) h2
  obtain ⟨a3, rfl, rfl, rfl, w3⟩ := open_int Tryz.underlying5 (hval 3 5 v3 rfl rfl) h3
  clear hA0 hval0
  simp only [List.append_nil] at hW'
  refine (J5.orderNumbers_all a0 a1 a2 a3 (u64_in w0) (u64_in w1) (u8_in w2) (u8_in w3) W).mono fun e W' ⟨he, bel⟩ => ?_
  subst he
  exact ⟨_, rfl, _, _, _, [], _, [], hW', trodAll_mk1 (shut_bool Tryz.underlying4 _), (trodAll_cons_mk (shut_int Tryz.underlying24 w0) (trodAll_cons_mk (shut_int Tryz.underlying24 w1) (trodAll_cons_mk (shut_int Tryz.underlying5 w2) (trodAll_cons_mk (shut_int Tryz.underlying5 w3) trodAll_mk0)))), rfl, bel.frame _, fun h => by cases h⟩

theorem orderNumbers_holds : Rows.OrderNumbersSaid :=
  OpenClaim.holds_of_wide 4 Tryz.f4 rfl rfl rfl rfl rfl rfl rfl ⟨rfl, rfl, rfl, rfl, rfl⟩ rfl rfl rfl rfl rfl (by kernel_rfl) Tryz.func4 (by kernel_rfl)
    (of_decide_eq_true (by kernel_rfl)) (by unfold Func.isWrapper; first | (rw [if_pos (by decide +kernel)]; kernel_rfl) | (rw [if_neg (by decide +kernel)]; exact ⟨rfl, rfl⟩))
    (fun os started H enc _ => orderNumbers_lifted os started H enc)
end Go.Proofs.YtdbohojncbeajaaGreat
