/- OrderPairsSaid is proved: at every input the law returns true, and each argument reads afterwards as it read before. No condition. What OrderPairs does: it answers true. No condition but that what is handed in are numbers of their kinds. -/
import Derived.Test.YtdbohojncbeajaaGreatMo27
import Derived.Test.YtdbohojncbeajaaGreatMo28
import Derived.WalkKit
import Derived.ProofKit
import Derived.OpenShut
namespace Go.Proofs.YtdbohojncbeajaaGreat.J5
open Go.RowKit Go.Shelf
open C3 (Tk belAl allocB)
open S2 (Sc Tr isT)
open V4 (Va Vl Ck isV botT Bxd val_mk er_mk scLeaf scLeaf_in scRow scRow_in vlRow vlRow_in vlNum vlNum_in mk_inj)

theorem isT_511 : isT 16 (.mk 5 [.mk 1 [], .mk 1 []]) = true := by decide
theorem is_two (a b : Int) : isV (.mk 5 [.mk 1 [], .mk 1 []]) (.mk 0 0 [] [] [numE a, numE b]) = true := isV_pair.2 ⟨_, _, rfl, is_num a, is_num b⟩
theorem le_two (a b c d : Int) : leV (.mk 5 [.mk 1 [], .mk 1 []]) (.mk 0 0 [] [] [numE a, numE b]) (.mk 0 0 [] [] [numE c, numE d]) ↔ a ≤ c ∧ b ≤ d := by
  rw [leV_pair, leV_num (.inl rfl), leV_num (.inl rfl)]; rfl

set_option maxRecDepth 100000 in
set_option maxHeartbeats 4000000 in
theorem orderPairs_all (a b c d : Int) (ha : 0 ≤ a ∧ a ≤ 255) (hb : 0 ≤ b ∧ b ≤ 255) (hc : 0 ≤ c ∧ c ≤ 255) (hd : 0 ≤ d ∧ d ≤ 255) (w : World) : Calls Tryz.prog 5 #[.int .u8 a, .int .u8 b, .int .u8 c, .int .u8 d] w (RetV w (.bool true)) := by
  obtain ⟨a4, ea⟩ : ∃ q, a.tmod 4 = q := ⟨_, rfl⟩
  have ha4 : 0 ≤ a4 ∧ a4 ≤ 3 := by rw [← ea, Int.tmod_eq_emod_of_nonneg ha.1]; omega
  obtain ⟨b4, eb⟩ : ∃ q, b.tmod 4 = q := ⟨_, rfl⟩
  have hb4 : 0 ≤ b4 ∧ b4 ≤ 3 := by rw [← eb, Int.tmod_eq_emod_of_nonneg hb.1]; omega
  obtain ⟨c4, ec⟩ : ∃ q, c.tmod 4 = q := ⟨_, rfl⟩
  have hc4 : 0 ≤ c4 ∧ c4 ≤ 3 := by rw [← ec, Int.tmod_eq_emod_of_nonneg hc.1]; omega
  obtain ⟨d4, ed⟩ : ∃ q, d.tmod 4 = q := ⟨_, rfl⟩
  have hd4 : 0 ≤ d4 ∧ d4 ≤ 3 := by rw [← ed, Int.tmod_eq_emod_of_nonneg hd.1]; omega
  obtain ⟨p, hp⟩ : ∃ p, decide (a4 ≤ c4) = p := ⟨_, rfl⟩
  obtain ⟨q, hq⟩ : ∃ p, decide (b4 ≤ d4) = p := ⟨_, rfl⟩
  have HP := Lib.hid (And.intro hp hq)
  go_enter Tryz.func5, Tryz.ntmps5
  go_wp2_with fail
  refine (known6_any w).mono ?_
  rintro e W0 ⟨rfl, bW0⟩
  have BW0 : Below w.heap.size w W0 := bW0
  go_wp2_with fail
  refine (of6_any 1 none 0 0 W0).mono ?_
  rintro e W1 ⟨rfl, bW1⟩
  have BW1 : Below w.heap.size w W1 := BW0.trans (bW1.mono BW0.size)
  go_wp2_with fail
  refine (of6_any 1 none 0 0 W1).mono ?_
  rintro e W2 ⟨rfl, bW2⟩
  have BW2 : Below w.heap.size w W2 := BW1.trans (bW2.mono BW1.size)
  obtain ⟨V2, hV2⟩ : ∃ V2, (W2.alloc (.cells #[.int .i64 1, .slice none 0 0, .int .i64 1, .slice none 0 0] 37)) = V2 := ⟨_, rfl⟩
  have bV2 : Below W2.heap.size W2 V2 := by rw [← hV2]; exact belAl (Below.refl _ _)
  have X0 : Bxd V2 (W2.heap.size) #[.int .i64 1, .slice none 0 0, .int .i64 1, .slice none 0 0] := by
    rw [← hV2]
    have := V4.Bxd.new (W := W2) (cs := #[.int .i64 1, .slice none 0 0, .int .i64 1, .slice none 0 0]) (t := 37)
    exact this
  have BV2 : Below w.heap.size w V2 := BW2.trans (bV2.mono BW2.size)
  go_wp2_with fail
  try rw [hV2]
  refine (of6_any 5 (some ⟨W2.heap.size, 0, none⟩) 2 2 V2).mono ?_
  clear hV2
  rintro e W3 ⟨rfl, bW3⟩
  replace X0 := X0.later bW3
  have BW3 : Below w.heap.size w W3 := BV2.trans (bW3.mono BV2.size)
  obtain ⟨W4, hW4⟩ : ∃ W4, (((((W3.alloc (.cells #[.int .i64 5, .slice (some ⟨W2.heap.size, 0, none⟩) 2 2] 37)).alloc (.cells #[.int .u64 a4, .int .u64 0, .slice none 0 0, .slice none 0 0, .slice none 0 0, .int .u64 b4, .int .u64 0, .slice none 0 0, .slice none 0 0, .slice none 0 0] 29)).alloc (.cells #[.int .u64 0, .int .u64 0, .slice none 0 0, .slice none 0 0, .slice (some ⟨W3.heap.size + 1, 0, none⟩) 2 2] 29)).alloc (.cells #[.int .u64 c4, .int .u64 0, .slice none 0 0, .slice none 0 0, .slice none 0 0, .int .u64 d4, .int .u64 0, .slice none 0 0, .slice none 0 0, .slice none 0 0] 29)).alloc (.cells #[.int .u64 0, .int .u64 0, .slice none 0 0, .slice none 0 0, .slice (some ⟨W3.heap.size + 1 + 1 + 1, 0, none⟩) 2 2] 29)) = W4 := ⟨_, rfl⟩
  have bW4 : Below W3.heap.size W3 W4 := by rw [← hW4]; exact belAl (belAl (belAl (belAl (belAl (Below.refl _ _)))))
  have X1 : Bxd W4 (W3.heap.size) #[.int .i64 5, .slice (some ⟨W2.heap.size, 0, none⟩) 2 2] := by
    rw [← hW4]
    have := V4.Bxd.new (W := W3) (cs := #[.int .i64 5, .slice (some ⟨W2.heap.size, 0, none⟩) 2 2]) (t := 37)
    exact (((this.al _).al _).al _).al _
  have Xa : Bxd W4 (W3.heap.size + 1) #[.int .u64 a4, .int .u64 0, .slice none 0 0, .slice none 0 0, .slice none 0 0, .int .u64 b4, .int .u64 0, .slice none 0 0, .slice none 0 0, .slice none 0 0] := by
    rw [← hW4]
    have := V4.Bxd.new (W := (W3.alloc (.cells #[.int .i64 5, .slice (some ⟨W2.heap.size, 0, none⟩) 2 2] 37))) (cs := #[.int .u64 a4, .int .u64 0, .slice none 0 0, .slice none 0 0, .slice none 0 0, .int .u64 b4, .int .u64 0, .slice none 0 0, .slice none 0 0, .slice none 0 0]) (t := 29)
    rw [World.size_alloc] at this
    exact ((this.al _).al _).al _
  have X2 : Bxd W4 (W3.heap.size + 1 + 1) #[.int .u64 0, .int .u64 0, .slice none 0 0, .slice none 0 0, .slice (some ⟨W3.heap.size + 1, 0, none⟩) 2 2] := by
    rw [← hW4]
    have := V4.Bxd.new (W := ((W3.alloc (.cells #[.int .i64 5, .slice (some ⟨W2.heap.size, 0, none⟩) 2 2] 37)).alloc (.cells #[.int .u64 a4, .int .u64 0, .slice none 0 0, .slice none 0 0, .slice none 0 0, .int .u64 b4, .int .u64 0, .slice none 0 0, .slice none 0 0, .slice none 0 0] 29))) (cs := #[.int .u64 0, .int .u64 0, .slice none 0 0, .slice none 0 0, .slice (some ⟨W3.heap.size + 1, 0, none⟩) 2 2]) (t := 29)
    rw [World.size_alloc, World.size_alloc] at this
    exact (this.al _).al _
  have Xb : Bxd W4 (W3.heap.size + 1 + 1 + 1) #[.int .u64 c4, .int .u64 0, .slice none 0 0, .slice none 0 0, .slice none 0 0, .int .u64 d4, .int .u64 0, .slice none 0 0, .slice none 0 0, .slice none 0 0] := by
    rw [← hW4]
    have := V4.Bxd.new (W := (((W3.alloc (.cells #[.int .i64 5, .slice (some ⟨W2.heap.size, 0, none⟩) 2 2] 37)).alloc (.cells #[.int .u64 a4, .int .u64 0, .slice none 0 0, .slice none 0 0, .slice none 0 0, .int .u64 b4, .int .u64 0, .slice none 0 0, .slice none 0 0, .slice none 0 0] 29)).alloc (.cells #[.int .u64 0, .int .u64 0, .slice none 0 0, .slice none 0 0, .slice (some ⟨W3.heap.size + 1, 0, none⟩) 2 2] 29))) (cs := #[.int .u64 c4, .int .u64 0, .slice none 0 0, .slice none 0 0, .slice none 0 0, .int .u64 d4, .int .u64 0, .slice none 0 0, .slice none 0 0, .slice none 0 0]) (t := 29)
    rw [World.size_alloc, World.size_alloc, World.size_alloc] at this
    exact this.al _
  have X3 : Bxd W4 (W3.heap.size + 1 + 1 + 1 + 1) #[.int .u64 0, .int .u64 0, .slice none 0 0, .slice none 0 0, .slice (some ⟨W3.heap.size + 1 + 1 + 1, 0, none⟩) 2 2] := by
    rw [← hW4]
    have := V4.Bxd.new (W := ((((W3.alloc (.cells #[.int .i64 5, .slice (some ⟨W2.heap.size, 0, none⟩) 2 2] 37)).alloc (.cells #[.int .u64 a4, .int .u64 0, .slice none 0 0, .slice none 0 0, .slice none 0 0, .int .u64 b4, .int .u64 0, .slice none 0 0, .slice none 0 0, .slice none 0 0] 29)).alloc (.cells #[.int .u64 0, .int .u64 0, .slice none 0 0, .slice none 0 0, .slice (some ⟨W3.heap.size + 1, 0, none⟩) 2 2] 29)).alloc (.cells #[.int .u64 c4, .int .u64 0, .slice none 0 0, .slice none 0 0, .slice none 0 0, .int .u64 d4, .int .u64 0, .slice none 0 0, .slice none 0 0, .slice none 0 0] 29))) (cs := #[.int .u64 0, .int .u64 0, .slice none 0 0, .slice none 0 0, .slice (some ⟨W3.heap.size + 1 + 1 + 1, 0, none⟩) 2 2]) (t := 29)
    rw [World.size_alloc, World.size_alloc, World.size_alloc, World.size_alloc] at this
    exact this
  replace X0 := X0.later bW4
  have BW4 : Below w.heap.size w W4 := BW3.trans (bW4.mono BW3.size)
  have SP : (scRow 5 W2.heap.size [scLeaf 1, scLeaf 1]).In W4.heap.size W4 := scRow_in 5 X0 rfl (by simp) (fun s hs => by
    rcases List.mem_cons.1 hs with rfl | hs
    · exact scLeaf_in _ _ _
    · rw [List.mem_singleton.1 hs]; exact scLeaf_in _ _ _)
  have IA : (vlRow (W3.heap.size + 1) [vlNum a4, vlNum b4]).In W4 := vlRow_in Xa rfl (by simp) (fun x hx => by
    rcases List.mem_cons.1 hx with rfl | hx
    · exact vlNum_in _ (by omega) _ _
    · rw [List.mem_singleton.1 hx]; exact vlNum_in _ (by omega) _ _)
  have IB : (vlRow (W3.heap.size + 1 + 1 + 1) [vlNum c4, vlNum d4]).In W4 := vlRow_in Xb rfl (by simp) (fun x hx => by
    rcases List.mem_cons.1 hx with rfl | hx
    · exact vlNum_in _ (by omega) _ _
    · rw [List.mem_singleton.1 hx]; exact vlNum_in _ (by omega) _ _)
  have HJ := Lib.hid (Leq_by True (fun _ => pairs_do) (scRow 5 W2.heap.size [scLeaf 1, scLeaf 1]) (vlRow (W3.heap.size + 1) [vlNum a4, vlNum b4]) (vlRow (W3.heap.size + 1 + 1 + 1) [vlNum c4, vlNum d4]) W4 SP IA IB (fun _ => .inl trivial) isT_511 (is_two _ _) (is_two _ _) (p && q) (by
    show leV (.mk 5 [.mk 1 [], .mk 1 []]) (.mk 0 0 [] [] [numE a4, numE b4]) (.mk 0 0 [] [] [numE c4, numE d4]) ↔ _
    rw [le_two, Bool.and_eq_true, ← hp, ← hq, decide_eq_true_iff, decide_eq_true_iff]))
  clear SP IA IB X0 Xa Xb
  clear hp hq
  have l0 : W4.cell? ⟨W3.heap.size, 0, none⟩ = some (.int .i64 5) := X1.2 0 _ rfl
  have l1 : W4.cell? ⟨W3.heap.size, 1, none⟩ = some (.slice (some ⟨W2.heap.size, 0, none⟩) 2 2) := X1.2 1 _ rfl
  have l2 : W4.cell? ⟨W3.heap.size + 1 + 1, 0, none⟩ = some (.int .u64 0) := X2.2 0 _ rfl
  have l3 : W4.cell? ⟨W3.heap.size + 1 + 1, 1, none⟩ = some (.int .u64 0) := X2.2 1 _ rfl
  have l4 : W4.cell? ⟨W3.heap.size + 1 + 1, 2, none⟩ = some (.slice none 0 0) := X2.2 2 _ rfl
  have l5 : W4.cell? ⟨W3.heap.size + 1 + 1, 3, none⟩ = some (.slice none 0 0) := X2.2 3 _ rfl
  have l6 : W4.cell? ⟨W3.heap.size + 1 + 1, 4, none⟩ = some (.slice (some ⟨W3.heap.size + 1, 0, none⟩) 2 2) := X2.2 4 _ rfl
  have l7 : W4.cell? ⟨W3.heap.size + 1 + 1 + 1 + 1, 0, none⟩ = some (.int .u64 0) := X3.2 0 _ rfl
  have l8 : W4.cell? ⟨W3.heap.size + 1 + 1 + 1 + 1, 1, none⟩ = some (.int .u64 0) := X3.2 1 _ rfl
  have l9 : W4.cell? ⟨W3.heap.size + 1 + 1 + 1 + 1, 2, none⟩ = some (.slice none 0 0) := X3.2 2 _ rfl
  have l10 : W4.cell? ⟨W3.heap.size + 1 + 1 + 1 + 1, 3, none⟩ = some (.slice none 0 0) := X3.2 3 _ rfl
  have l11 : W4.cell? ⟨W3.heap.size + 1 + 1 + 1 + 1, 4, none⟩ = some (.slice (some ⟨W3.heap.size + 1 + 1 + 1, 0, none⟩) 2 2) := X3.2 4 _ rfl
  go_wp2_with fail
  first | rw [hW4] | skip
  refine HJ.out.mono ?_
  clear HJ hW4
  rintro e U3 ⟨rfl, bU3⟩
  clear l0 l1 l2 l3 l4 l5 l6 l7 l8 l9 l10 l11
  replace X1 := X1.later bU3
  replace X2 := X2.later bU3
  replace X3 := X3.later bU3
  have BU3 : Below w.heap.size w U3 := BW4.trans (bU3.mono BW4.size)
  clear X1 X2 X3
  have hp := HP.out.1
  have hq := HP.out.2
  clear HP
  cases p with
  | true =>
    cases q with
    | true =>
      go_wp2_with fail
      go_ret
      exact ⟨by simp, BU3⟩
    | false =>
      go_wp2_with fail
      go_ret
      exact ⟨by simp, BU3⟩
  | false =>
    cases q with
    | true =>
      go_wp2_with fail
      go_ret
      exact ⟨by simp, BU3⟩
    | false =>
      go_wp2_with fail
      go_ret
      exact ⟨by simp, BU3⟩
end Go.Proofs.YtdbohojncbeajaaGreat.J5

namespace Go.Proofs.YtdbohojncbeajaaGreat
open Go.ChangeShapes Go.WideShapes Go.ChangeAt Go.RowKit

theorem u8_in {n : Int} (h : (Lit.int .u8 n).wf = true) : 0 ≤ n ∧ n ≤ 255 := by
  simp [Lit.wf] at h
  have e1 : IntKind.u8.min = 0 := by decide
  have e2 : IntKind.u8.max = 255 := by decide
  omega
theorem u64_in {n : Int} (h : (Lit.int .u64 n).wf = true) : 0 ≤ n ∧ n ≤ 18446744073709551615 := by
  simp [Lit.wf] at h
  have e1 : IntKind.u64.min = 0 := by decide
  have e2 : IntKind.u64.max = 18446744073709551615 := by decide
  omega

set_option maxRecDepth 100000 in
theorem orderPairs_lifted (os : Os) (started : os.Started) (H : Type) (enc : TypeId × Value → H) :
    ReturnsInHanded {} Tryz.checked os 5 .any (Rows.orderPairsSpec.pre6 enc Tryz.prog Tryz.f5 Rows.orderPairsRow.domain false) (Rows.orderPairsSpec.post enc Tryz.prog Tryz.f5 false true false false) := by
  refine returnsInHanded_of_change (C := Tryz.checked) (by kernel_rfl) started (by kernel_rfl) Tryz.func5
    (ChangeSpec.witness6 (enc := enc) (C := Tryz.checked) false ⟨#[], #[.int .u8 0, .int .u8 0, .int .u8 0, .int .u8 0], []⟩ 8 (by kernel_rfl) (by kernel_rfl) (by kernel_rfl) (by kernel_rfl)) ?_
  intro W base args ds gs before hval0 hW _ _
  have hval : ∀ (j : Nat) t v, Tryz.f5.params[j]? = some t → args[j]? = some v → Value.okWide Tryz.prog W .any base t v := hval0
  have hW' := hW
  obtain ⟨p, q, hA0, hV, rfl, _, _⟩ := hW
  have hA : DataW.TrodAll enc Tryz.prog W 0 (fun _ => true) true Tryz.f5.params.toList args.toList ds p := hA0
  rw [Tryz.params5] at hA hval
  obtain ⟨v0, vs0, d0, ds0, p0, q0, hargs, rfl, rfl, h0, r0⟩ := trodAll_cons hA
  obtain ⟨v1, vs1, d1, ds1, p1, q1, rfl, rfl, rfl, h1, r1⟩ := trodAll_cons r0
  obtain ⟨v2, vs2, d2, ds2, p2, q2, rfl, rfl, rfl, h2, r2⟩ := trodAll_cons r1
  obtain ⟨v3, vs3, d3, ds3, p3, q3, rfl, rfl, rfl, h3, r3⟩ := trodAll_cons r2
  obtain ⟨rfl, rfl, rfl⟩ := trodAll_nil r3
  obtain rfl : args = #[v0, v1, v2, v3] := by cases args; simp_all
  obtain ⟨rfl, rfl⟩ := trodVars_none hV
  obtain ⟨a0, rfl, rfl, rfl, w0⟩ := open_int Tryz.underlying5 (hval 0 5 v0 rfl rfl) h0
  obtain ⟨a1, rfl, rfl, rfl, w1⟩ := open_int Tryz.underlying5 (hval 1 5 v1 rfl rfl) h1
  obtain ⟨a2, rfl, rfl, rfl, w2⟩ := open_int Tryz.underlying5 (hval 2 5 v2 rfl rfl) h2
  obtain ⟨a3, rfl, rfl, rfl, w3⟩ := open_int Tryz.underlying5 (hval 3 5 v3 rfl rfl) h3
  clear hA0 hval0
  simp only [List.append_nil] at hW'
  refine (J5.orderPairs_all a0 a1 a2 a3 (u8_in w0) (u8_in w1) (u8_in w2) (u8_in w3) W).mono fun e W' ⟨he, bel⟩ => ?_
  subst he
  exact ⟨_, rfl, _, _, _, [], _, [], hW', trodAll_mk1 (shut_bool Tryz.underlying4 _), (trodAll_cons_mk (shut_int Tryz.underlying5 w0) (trodAll_cons_mk (shut_int Tryz.underlying5 w1) (trodAll_cons_mk (shut_int Tryz.underlying5 w2) (trodAll_cons_mk (shut_int Tryz.underlying5 w3) trodAll_mk0)))), rfl, bel.frame _, fun h => by cases h⟩

theorem orderPairs_holds : Rows.OrderPairsSaid :=
  OpenClaim.holds_of_wide 5 Tryz.f5 rfl rfl rfl rfl rfl rfl rfl ⟨rfl, rfl, rfl, rfl, rfl⟩ rfl rfl rfl rfl rfl (by kernel_rfl) Tryz.func5 (by kernel_rfl)
    (of_decide_eq_true (by kernel_rfl)) (by unfold Func.isWrapper; first | (rw [if_pos (by decide +kernel)]; kernel_rfl) | (rw [if_neg (by decide +kernel)]; exact ⟨rfl, rfl⟩))
    (fun os started H enc _ => orderPairs_lifted os started H enc)
end Go.Proofs.YtdbohojncbeajaaGreat
