/- JoinNumbersSaid is proved: at every input the law returns true, and each argument reads afterwards as it read before. No condition. What JoinNumbers does: it answers true. No condition but that what is handed in are numbers of their kinds. -/
import Derived.Test.YtleejffjnknohaaGreatMn24
import Derived.WalkKit
import Derived.ProofKit
import Derived.OpenShut
namespace Go.Proofs.YtleejffjnknohaaGreat.J5
open Go.RowKit Go.Shelf
open C3 (Tk belAl allocB)
open S2 (Sc Tr isT)
open V4 (Va Vl Ck isV botT Bxd val_mk er_mk scLeaf scLeaf_in vlNum vlNum_in mk_inj)

theorem jn_max (a b : Int) : joinF (.mk 1 []) (numE a) (numE b) = .ok (numE (max a b)) := joinF_ok isT_1 (is_num a) (is_num b) (joinE_num a b)
theorem jn_or (a b : Int) (ha : a ≤ 1) (hb : b ≤ 1) : joinF (.mk 2 []) (numE a) (numE b) = .ok (numE (max a b)) := by
  refine joinF_ok isT_2 ((isV_num (.inr rfl)).2 ⟨a, rfl, fun _ => ha⟩) ((isV_num (.inr rfl)).2 ⟨b, rfl, fun _ => hb⟩) ?_
  rw [joinE, if_neg (by decide), if_neg (by decide), if_neg (by decide)]; rfl
theorem jn_two (y : Va) : joinF (.mk 2 []) (numE 2) y = .error 14 := by
  refine joinF_type (.inl ?_)
  cases h : isV (.mk 2 []) (numE 2) with
  | false => rfl
  | true =>
    obtain ⟨n, e, h2⟩ := (isV_num (.inr rfl)).1 h
    cases e
    have := h2 rfl
    omega

set_option maxRecDepth 100000 in
set_option maxHeartbeats 4000000 in
theorem joinNumbers_all (a b x y : Int) (ha : 0 ≤ a ∧ a ≤ 18446744073709551615) (hb : 0 ≤ b ∧ b ≤ 18446744073709551615) (hx : 0 ≤ x ∧ x ≤ 255) (hy : 0 ≤ y ∧ y ≤ 255) (w : World) : Calls Tryz.prog 4 #[.int .u64 a, .int .u64 b, .int .u8 x, .int .u8 y] w (RetV w (.bool true)) := by
  obtain ⟨M, hM⟩ : ∃ M, max a b = M := ⟨_, rfl⟩
  obtain ⟨p, hp⟩ : ∃ p, x.tmod 2 = p := ⟨_, rfl⟩
  obtain ⟨q, hq⟩ : ∃ q, y.tmod 2 = q := ⟨_, rfl⟩
  have hp1 : 0 ≤ p ∧ p ≤ 1 := by rw [← hp, Int.tmod_eq_emod_of_nonneg hx.1]; omega
  have hq1 : 0 ≤ q ∧ q ≤ 1 := by rw [← hq, Int.tmod_eq_emod_of_nonneg hy.1]; omega
  have KM : Hid (joinF (.mk 1 []) (numE a) (numE b) = .ok (numE M)) := by show joinF _ _ _ = _; rw [← hM]; exact jn_max a b
  go_enter Tryz.func4, Tryz.ntmps4
  go_wp2_with fail
  refine (known_any w).mono ?_
  rintro e W0 ⟨rfl, bW0⟩
  have BW0 : Below w.heap.size w W0 := bW0
  go_wp2_with fail
  refine (of_any 1 none 0 0 W0).mono ?_
  rintro e W1 ⟨rfl, bW1⟩
  have BW1 : Below w.heap.size w W1 := BW0.trans (bW1.mono BW0.size)
  go_wp2_with fail
  refine (Join_any False False.elim (scLeaf 1) (vlNum a) (vlNum b) W1 (scLeaf_in _ _ _) (vlNum_in a ha _ _) (vlNum_in b hb _ _) (fun _ => .inr (noP_leaf (by decide)))).mono ?_
  rintro e U1 hr
  obtain ⟨⟨an, am, asA, asc, ass, acA, acc, acs, avA, avc, avs⟩, rfl, hae, _, bU1⟩ := retK_ok hr KM.out
  rw [er_mk, numE, mk_inj] at hae
  obtain ⟨rfl, rfl, rfl, hc, hv⟩ := hae
  obtain rfl := List.map_eq_nil_iff.1 hc
  obtain rfl := List.map_eq_nil_iff.1 hv
  simp only [val_mk, List.length_nil]
  clear hc hv hr
  have BU1 : Below w.heap.size w U1 := BW1.trans (bU1.mono BW1.size)
  obtain ⟨W2, hW2⟩ : ∃ W2, (U1.alloc (.cells #[.int .u64 an, .int .u64 0, .slice asA 0 asc, .slice acA 0 acc, .slice avA 0 avc] 32)) = W2 := ⟨_, rfl⟩
  have bW2 : Below U1.heap.size U1 W2 := by rw [← hW2]; exact belAl (Below.refl _ _)
  have X9 : Bxd W2 (U1.heap.size) #[.int .u64 an, .int .u64 0, .slice asA 0 asc, .slice acA 0 acc, .slice avA 0 avc] := by
    rw [← hW2]
    have := V4.Bxd.new (W := U1) (cs := #[.int .u64 an, .int .u64 0, .slice asA 0 asc, .slice acA 0 acc, .slice avA 0 avc]) (t := 32)
    exact this
  have BW2 : Below w.heap.size w W2 := BU1.trans (bW2.mono BU1.size)
  go_wp2_with fail
  refine (of_any 2 none 0 0 W2).mono ?_
  rintro e W3 ⟨rfl, bW3⟩
  clear hW2
  replace X9 := X9.later bW3
  have BW3 : Below w.heap.size w W3 := BW2.trans (bW3.mono BW2.size)
  go_wp2_with fail
  refine (Join_any False False.elim (scLeaf 2) (vlNum p) (vlNum q) W3 (scLeaf_in _ _ _) (vlNum_in p (by omega) _ _) (vlNum_in q (by omega) _ _) (fun _ => .inr (noP_leaf (by decide)))).mono ?_
  rintro e U3 hr
  obtain ⟨⟨dn, dm, dsA, dsc, dss, dcA, dcc, dcs, dvA, dvc, dvs⟩, rfl, hde, _, bU3⟩ := retK_ok hr (jn_or p q hp1.2 hq1.2)
  rw [er_mk, numE, mk_inj] at hde
  obtain ⟨hdn, rfl, rfl, hc, hv⟩ := hde
  obtain rfl := List.map_eq_nil_iff.1 hc
  obtain rfl := List.map_eq_nil_iff.1 hv
  simp only [val_mk, List.length_nil]
  have HDN := Lib.hid hdn
  clear hc hv hr hdn
  replace X9 := X9.later bU3
  have BU3 : Below w.heap.size w U3 := BW3.trans (bU3.mono BW3.size)
  obtain ⟨W4, hW4⟩ : ∃ W4, (U3.alloc (.cells #[.int .u64 dn, .int .u64 0, .slice dsA 0 dsc, .slice dcA 0 dcc, .slice dvA 0 dvc] 32)) = W4 := ⟨_, rfl⟩
  have bW4 : Below U3.heap.size U3 W4 := by rw [← hW4]; exact belAl (Below.refl _ _)
  have X11 : Bxd W4 (U3.heap.size) #[.int .u64 dn, .int .u64 0, .slice dsA 0 dsc, .slice dcA 0 dcc, .slice dvA 0 dvc] := by
    rw [← hW4]
    have := V4.Bxd.new (W := U3) (cs := #[.int .u64 dn, .int .u64 0, .slice dsA 0 dsc, .slice dcA 0 dcc, .slice dvA 0 dvc]) (t := 32)
    exact this
  replace X9 := X9.later bW4
  have BW4 : Below w.heap.size w W4 := BU3.trans (bW4.mono BU3.size)
  go_wp2_with fail
  refine (of_any 2 none 0 0 W4).mono ?_
  rintro e W5 ⟨rfl, bW5⟩
  clear hW4
  replace X9 := X9.later bW5
  replace X11 := X11.later bW5
  have BW5 : Below w.heap.size w W5 := BW4.trans (bW5.mono BW4.size)
  go_wp2_with fail
  refine (Join_any False False.elim (scLeaf 2) (vlNum 2) (vlNum 0) W5 (scLeaf_in _ _ _) (vlNum_in 2 (by omega) _ _) (vlNum_in 0 (by omega) _ _) (fun _ => .inr (noP_leaf (by decide)))).mono ?_
  rintro e U5 hr
  obtain ⟨rfl, bU5⟩ := retK_err hr (jn_two _)
  simp only [vlZ_val]
  unfold errV
  clear hr
  replace X9 := X9.later bU5
  replace X11 := X11.later bU5
  have BU5 : Below w.heap.size w U5 := BW5.trans (bU5.mono BW5.size)
  have HI : Hid (∀ W, Calls Tryz.prog 13 #[.iface 39 (.int .i64 14), .iface 39 (.int .i64 14)] W (RetV W (.bool true))) := fun W => by
    have := is_any 14 14 W
    rw [decide_eq_true rfl] at this
    exact this
  have h9 : (U5.alloc (.cells #[.int .u64 0, .int .u64 0, .slice none 0 0, .slice none 0 0, .slice none 0 0] 32)).cell? ⟨U1.heap.size, 0, none⟩ = some (.int .u64 an) := (X9.al _).2 0 _ rfl
  have h11 : (U5.alloc (.cells #[.int .u64 0, .int .u64 0, .slice none 0 0, .slice none 0 0, .slice none 0 0] 32)).cell? ⟨U3.heap.size, 0, none⟩ = some (.int .u64 dn) := (X11.al _).2 0 _ rfl
  have BW6 : Below w.heap.size w (U5.alloc (.cells #[.int .u64 0, .int .u64 0, .slice none 0 0, .slice none 0 0, .slice none 0 0] 32)) := belAl BU5
  have hpq : (p = 0 ∨ p = 1) ∧ (q = 0 ∨ q = 1) := by omega
  have hor : bits .or .u8 p q = dn := by
    rw [HDN.out]
    obtain ⟨hp2, hq2⟩ := hpq
    clear hp hq hp1 hq1
    rcases hp2 with rfl | rfl <;> rcases hq2 with rfl | rfl <;> decide
  have hdw : dn ≤ 1 ∧ 0 ≤ dn := by rw [HDN.out]; omega
  clear hpq
  go_wp2_with fail
  refine (HI.out _).mono ?_
  rintro e U6 ⟨rfl, bU6⟩
  go_wp2_with fail
  go_ret
  exact ⟨by simp, BW6.trans (bU6.mono BW6.size)⟩
end Go.Proofs.YtleejffjnknohaaGreat.J5

namespace Go.Proofs.YtleejffjnknohaaGreat
open Go.ChangeShapes Go.WideShapes Go.ChangeAt Go.RowKit

theorem u8_in {n : Int} (h : (Lit.int .u8 n).wf = true) : 0 ≤ n ∧ n ≤ 255 := by
  simp [Lit.wf] at h
  have e1 : IntKind.u8.min = 0 := by decide
  have e2 : IntKind.u8.max = 255 := by decide
  omega
theorem u64_in {n : Int} (h : (Lit.int .u64 n).wf = true) : 0 ≤ n ∧ n ≤ 18446744073709551615 := by
  simp [Lit.wf] at h
  have e1 : IntKind.u64.min = 0 := by decide
  have e2 : IntKind.u64.max = 18446744073709551615 := by decide
  omega

set_option maxRecDepth 100000 in
theorem joinNumbers_lifted (os : Os) (started : os.Started) (H : Type) (enc : TypeId × Value → H) :
    ReturnsInHanded {} Tryz.checked os 4 .any (Rows.joinNumbersSpec.pre6 enc Tryz.prog Tryz.f4 Rows.joinNumbersRow.domain false) (Rows.joinNumbersSpec.post enc Tryz.prog Tryz.f4 false true false false) := by
  refine returnsInHanded_of_change (C := Tryz.checked) (by kernel_rfl) started (by kernel_rfl) Tryz.func4
    (ChangeSpec.witness6 (enc := enc) (C := Tryz.checked) false ⟨#[], #[.int .u64 0, .int .u64 0, .int .u8 0, .int .u8 0], []⟩ 8 (by kernel_rfl) (by kernel_rfl) (by kernel_rfl) (by kernel_rfl)) ?_
  intro W base args ds gs before hval0 hW _ _
  have hval : ∀ (j : Nat) t v, Tryz.f4.params[j]? = some t → args[j]? = some v → Value.okWide Tryz.prog W .any base t v := hval0
  have hW' := hW
  obtain ⟨p, q, hA0, hV, rfl, _, _⟩ := hW
  have hA : DataW.TrodAll enc Tryz.prog W 0 (fun _ => true) true Tryz.f4.params.toList args.toList ds p := hA0
  rw [Tryz.params4] at hA hval
  obtain ⟨v0, vs0, d0, ds0, p0, q0, hargs, rfl, rfl, h0, r0⟩ := trodAll_cons hA
  obtain ⟨v1, vs1, d1, ds1, p1, q1, rfl, rfl, rfl, h1, r1⟩ := trodAll_cons r0
  obtain ⟨v2, vs2, d2, ds2, p2, q2, rfl, rfl, rfl, h2, r2⟩ := trodAll_cons r1
  obtain ⟨v3, vs3, d3, ds3, p3, q3, rfl, rfl, rfl, h3, r3⟩ := trodAll_cons r2
  obtain ⟨rfl, rfl, rfl⟩ := trodAll_nil r3
  obtain rfl : args = #[v0, v1, v2, v3] := by cases args; simp_all
  obtain ⟨rfl, rfl⟩ := trodVars_none hV
  obtain ⟨a0, rfl, rfl, rfl, w0⟩ := open_int Tryz.underlying28 (hval 0 28 v0 rfl rfl) h0
  obtain ⟨a1, rfl, rfl, rfl, w1⟩ := open_int Tryz.underlying28 (hval 1 28 v1 rfl rfl) h1
  obtain ⟨a2, rfl, rfl, rfl, w2⟩ := open_int Tryz.underlying5 (hval 2 5 v2 rfl rfl) h2
  obtain ⟨a3, rfl, rfl, rfl, w3⟩ := open_int Tryz.underlying5 (hval 3 5 v3 rfl rfl) h3
  clear hA0 hval0
  simp only [List.append_nil] at hW'
  refine (J5.joinNumbers_all a0 a1 a2 a3 (u64_in w0) (u64_in w1) (u8_in w2) (u8_in w3) W).mono fun e W' ⟨he, bel⟩ => ?_
  subst he
  exact ⟨_, rfl, _, _, _, [], _, [], hW', trodAll_mk1 (shut_bool Tryz.underlying4 _), (trodAll_cons_mk (shut_int Tryz.underlying28 w0) (trodAll_cons_mk (shut_int Tryz.underlying28 w1) (trodAll_cons_mk (shut_int Tryz.underlying5 w2) (trodAll_cons_mk (shut_int Tryz.underlying5 w3) trodAll_mk0)))), rfl, bel.frame _, fun h => by cases h⟩

theorem joinNumbers_holds : Rows.JoinNumbersSaid :=
  OpenClaim.holds_of_wide 4 Tryz.f4 rfl rfl rfl rfl rfl rfl rfl ⟨rfl, rfl, rfl, rfl, rfl⟩ rfl rfl rfl rfl rfl (by kernel_rfl) Tryz.func4 (by kernel_rfl)
    (of_decide_eq_true (by kernel_rfl)) (by unfold Func.isWrapper; first | (rw [if_pos (by decide +kernel)]; kernel_rfl) | (rw [if_neg (by decide +kernel)]; exact ⟨rfl, rfl⟩))
    (fun os started H enc _ => joinNumbers_lifted os started H enc)
end Go.Proofs.YtleejffjnknohaaGreat
