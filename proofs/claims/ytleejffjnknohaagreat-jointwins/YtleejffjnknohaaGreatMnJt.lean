/- JoinTwinsSaid is proved: at every input the law returns true, and each argument reads afterwards as it read before. No condition. What JoinTwins does: it answers true. No condition but that what is handed in are numbers of their kinds. Some values joined: plain mathematics. No condition. Clocks and last writers as orders. Plain mathematics. No condition. Two lines of marks gone through together: what stands in it; what comes of it. Plain mathematics. No condition. -/
import Derived.Test.YtleejffjnknohaaGreatMn01
import Derived.Test.YtleejffjnknohaaGreatMn02
import Derived.Test.YtleejffjnknohaaGreatMn03
import Derived.Test.YtleejffjnknohaaGreatMn04
import Derived.Test.YtleejffjnknohaaGreatMn05
import Derived.Test.YtleejffjnknohaaGreatMn06
import Derived.Test.YtleejffjnknohaaGreatMn07
import Derived.Test.YtleejffjnknohaaGreatMn08
import Derived.Test.YtleejffjnknohaaGreatMn09
import Derived.Test.YtleejffjnknohaaGreatMn10
import Derived.Test.YtleejffjnknohaaGreatMn11
import Derived.Test.YtleejffjnknohaaGreatMn12
import Derived.Test.YtleejffjnknohaaGreatMn13
import Derived.Test.YtleejffjnknohaaGreatMn14
import Derived.Test.YtleejffjnknohaaGreatMn15
import Derived.Test.YtleejffjnknohaaGreatMn16
import Derived.Test.YtleejffjnknohaaGreatMn17
import Derived.Test.YtleejffjnknohaaGreatMn18
import Derived.Test.YtleejffjnknohaaGreatMn19
import Derived.Test.YtleejffjnknohaaGreatMn20
import Derived.Test.YtleejffjnknohaaGreatMn21
import Derived.Test.YtleejffjnknohaaGreatMn22
import Derived.Test.YtleejffjnknohaaGreatMn23
import Derived.Test.YtleejffjnknohaaGreatMn24
import Derived.WalkKit
import Derived.ProofKit
import Derived.OpenShut
namespace Go.Proofs.YtleejffjnknohaaGreat.J5
open C3 (Tk)
open V4 (aheadC aheadC_trans)

theorem aheadC_irrefl : ∀ a : List Tk, aheadC a a = false
  | [] => by simp [aheadC]
  | x :: a => by simp only [aheadC, if_true]; exact aheadC_irrefl a
theorem aheadC_tri : ∀ a b : List Tk, aheadC a b = false → aheadC b a = false → a = b
  | [], [], _, _ => rfl
  | [], _ :: _, h, _ => by simp [aheadC] at h
  | _ :: _, [], _, h => by simp [aheadC] at h
  | x :: a, y :: b, h, h' => by
    simp only [aheadC] at h h'
    by_cases h1 : x.k = y.k
    · rw [if_pos h1] at h
      rw [if_pos h1.symm] at h'
      by_cases h2 : x.n = y.n
      · rw [if_pos h2] at h
        rw [if_pos h2.symm] at h'
        have e : x = y := by cases x; cases y; simp at h1 h2; simp [h1, h2]
        rw [e, aheadC_tri a b h h']
      · rw [if_neg h2] at h
        rw [if_neg (Ne.symm h2)] at h'
        simp at h h'; omega
    · rw [if_neg h1] at h
      rw [if_neg (Ne.symm h1)] at h'
      simp at h h'; omega

theorem cmpT_lt {a b : List Tk} : cmpT a b < 0 ↔ aheadC a b = true := by
  unfold cmpT
  by_cases h1 : aheadC a b = true
  · rw [if_pos h1]; simp [h1]
  · rw [if_neg h1]
    split <;> simp_all
theorem cmpT_ok : Cmp cmpT := by
  refine ⟨fun {x y} h => ?_, fun x => ?_, fun {x y} h => ?_, fun h1 h2 => cmpT_lt.2 (aheadC_trans _ _ _ (cmpT_lt.1 h1) (cmpT_lt.1 h2))⟩
  · unfold cmpT at h
    by_cases h1 : aheadC x y = true
    · rw [if_pos h1] at h; omega
    · rw [if_neg h1] at h
      by_cases h2 : aheadC y x = true
      · rw [if_pos h2] at h; omega
      · exact aheadC_tri x y (by simpa using h1) (by simpa using h2)
  · unfold cmpT; rw [aheadC_irrefl]; simp
  · refine cmpT_lt.2 ?_
    unfold cmpT at h
    by_cases h1 : aheadC x y = true
    · rw [if_pos h1] at h; omega
    · rw [if_neg h1] at h
      by_cases h2 : aheadC y x = true
      · exact h2
      · rw [if_neg h2] at h; omega

section
variable {M V : Type} {c : M → M → Int} {z : V}

end

end Go.Proofs.YtleejffjnknohaaGreat.J5

namespace Go.Proofs.YtleejffjnknohaaGreat.J5
open C3 (Tk isC isC_out isC_mk Asc ofC ofC_none ofC_mem underC cmpB cmpC cmpI mergeC mergeC_nil_left mergeC_nil_right mergeC_lt mergeC_gt mergeC_eq laterC)
open V4 (Va)

theorem cmpC_lt {a b : List Tk} : cmpC a b = -1 ↔ underC a b = true ∧ underC b a = false := by
  unfold cmpC
  cases underC a b <;> cases underC b a <;> simp [cmpB]
theorem cmpC_irrefl (a : List Tk) : cmpC a a ≠ -1 := by
  rw [Ne, cmpC_lt]
  rintro ⟨h1, h2⟩
  rw [h1] at h2
  cases h2

end Go.Proofs.YtleejffjnknohaaGreat.J5

namespace Go.Proofs.YtleejffjnknohaaGreat.J5
open Go.RowKit Go.Shelf
open C3 (Tk isC cmpC)
open S2 (Sc Tr isT)
open V4 (Va Vl Ck isV botT ApR tick_ok)

/-- Twins. -/
theorem kn_twins (k n a b : Int) (hk : 0 ≤ k ∧ k ≤ 1000) (hn : 1 ≤ n) : joinF (.mk 8 [.mk 1 []]) (verE k n a) (verE k n b) = .ok (verE k n (max a b)) := by
  refine joinF_ok isT_81 (is_ver k n a hk hn) (is_ver k n b hk hn) ?_
  rw [joinE, if_neg (by decide)]
  unfold causeE verE
  simp only [Va.c, Va.v, List.zip_cons_cons, List.zip_nil_left]
  rw [mix_eq cmpT Va.zero (x := ([⟨k, n⟩], numE a)) (y := ([⟨k, n⟩], numE b)) [] [] (cmpT_ok.refl _), mix_nil]
  have hs : (!seenE [⟨k, n⟩] ([[⟨k, n⟩]] ++ [[⟨k, n⟩]])) = true := by
    unfold seenE
    simp only [Bool.not_eq_true', List.any_eq_false, decide_eq_true_eq]
    intro o ho
    rcases List.mem_append.1 ho with h | h <;> (rw [List.mem_singleton.1 h]; exact cmpC_irrefl _)
  have hf : ([([⟨k, n⟩], numE a, numE b)] : List (List Tk × Va × Va)).filter (fun p => !seenE p.1 ([[⟨k, n⟩]] ++ [[⟨k, n⟩]])) = [([⟨k, n⟩], numE a, numE b)] := by simp only [List.filter, hs]
  dsimp only
  rw [hf]
  unfold togE
  rw [if_neg (by simp)]
  simp only [allE]
  rw [joinE_num]
  rfl
end Go.Proofs.YtleejffjnknohaaGreat.J5

namespace Go.Proofs.YtleejffjnknohaaGreat.J5
open Go.RowKit Go.Shelf
open C3 (Tk belAl allocB)
open S2 (Sc Tr isT)
open V4 (Va Vl Ck isV botT Bxd val_mk er_mk scLeaf scLeaf_in scRow scRow_in vlNum vlNum_in ckOne ckOne_in vlCV vlCV_in mk_inj)

set_option maxRecDepth 100000 in
set_option maxHeartbeats 4000000 in
theorem joinTwins_all (a b n : Int) (ha : 0 ≤ a ∧ a ≤ 255) (hb : 0 ≤ b ∧ b ≤ 255) (hn : 0 ≤ n ∧ n ≤ 255) (w : World) : Calls Tryz.prog 10 #[.int .u8 a, .int .u8 b, .int .u8 n] w (RetV w (.bool true)) := by
  obtain ⟨M, hM⟩ : ∃ M, max a b = M := ⟨_, rfl⟩
  have hM1 : 0 ≤ M ∧ M ≤ 255 := by omega
  have KT : Hid (joinF (.mk 8 [.mk 1 []]) (verE 1 (n + 1) a) (verE 1 (n + 1) b) = .ok (verE 1 (n + 1) M)) := by show joinF _ _ _ = _; rw [← hM]; exact kn_twins 1 (n + 1) a b (by omega) (by omega)
  go_enter Tryz.func10, Tryz.ntmps10
  go_wp2_with fail
  refine (known_any w).mono ?_
  rintro e W0 ⟨rfl, bW0⟩
  have BW0 : Below w.heap.size w W0 := bW0
  go_wp2_with fail
  refine (of_any 1 none 0 0 W0).mono ?_
  rintro e W1 ⟨rfl, bW1⟩
  have BW1 : Below w.heap.size w W1 := BW0.trans (bW1.mono BW0.size)
  obtain ⟨V1, hV1⟩ : ∃ V1, (W1.alloc (.cells #[.int .i64 1, .slice none 0 0] 24)) = V1 := ⟨_, rfl⟩
  have bV1 : Below W1.heap.size W1 V1 := by rw [← hV1]; exact belAl (Below.refl _ _)
  have X5 : Bxd V1 (W1.heap.size) #[.int .i64 1, .slice none 0 0] := by
    rw [← hV1]
    have := V4.Bxd.new (W := W1) (cs := #[.int .i64 1, .slice none 0 0]) (t := 24)
    exact this
  have BV1 : Below w.heap.size w V1 := BW1.trans (bV1.mono BW1.size)
  go_wp2_with fail
  refine (of_any 8 (some ⟨W1.heap.size, 0, none⟩) 1 1 V1).mono ?_
  rintro e W2 ⟨rfl, bW2⟩
  clear hV1
  replace X5 := X5.later bW2
  have BW2 : Below w.heap.size w W2 := BV1.trans (bW2.mono BV1.size)
  obtain ⟨W3, hW3⟩ : ∃ W3, (((((W2.alloc (.cells #[.int .i64 8, .slice (some ⟨W1.heap.size, 0, none⟩) 1 1] 24)).alloc (.cells #[.int .i64 1, .int .u64 (n + 1)] 57)).alloc (.cells #[.slice (some ⟨W2.heap.size + 1, 0, none⟩) 1 1] 55)).alloc (.cells #[.int .u64 a, .int .u64 0, .slice none 0 0, .slice none 0 0, .slice none 0 0] 32)).alloc (.cells #[.int .u64 b, .int .u64 0, .slice none 0 0, .slice none 0 0, .slice none 0 0] 32)) = W3 := ⟨_, rfl⟩
  have bW3 : Below W2.heap.size W2 W3 := by rw [← hW3]; exact belAl (belAl (belAl (belAl (belAl (Below.refl _ _)))))
  have X7 : Bxd W3 (W2.heap.size) #[.int .i64 8, .slice (some ⟨W1.heap.size, 0, none⟩) 1 1] := by
    rw [← hW3]
    have := V4.Bxd.new (W := W2) (cs := #[.int .i64 8, .slice (some ⟨W1.heap.size, 0, none⟩) 1 1]) (t := 24)
    exact (((this.al _).al _).al _).al _
  have Xa : Bxd W3 (W2.heap.size + 1) #[.int .i64 1, .int .u64 (n + 1)] := by
    rw [← hW3]
    have := V4.Bxd.new (W := (W2.alloc (.cells #[.int .i64 8, .slice (some ⟨W1.heap.size, 0, none⟩) 1 1] 24))) (cs := #[.int .i64 1, .int .u64 (n + 1)]) (t := 57)
    rw [World.size_alloc] at this
    exact ((this.al _).al _).al _
  have Xb : Bxd W3 (W2.heap.size + 1 + 1) #[.slice (some ⟨W2.heap.size + 1, 0, none⟩) 1 1] := by
    rw [← hW3]
    have := V4.Bxd.new (W := ((W2.alloc (.cells #[.int .i64 8, .slice (some ⟨W1.heap.size, 0, none⟩) 1 1] 24)).alloc (.cells #[.int .i64 1, .int .u64 (n + 1)] 57))) (cs := #[.slice (some ⟨W2.heap.size + 1, 0, none⟩) 1 1]) (t := 55)
    rw [World.size_alloc, World.size_alloc] at this
    exact (this.al _).al _
  have Xc : Bxd W3 (W2.heap.size + 1 + 1 + 1) #[.int .u64 a, .int .u64 0, .slice none 0 0, .slice none 0 0, .slice none 0 0] := by
    rw [← hW3]
    have := V4.Bxd.new (W := (((W2.alloc (.cells #[.int .i64 8, .slice (some ⟨W1.heap.size, 0, none⟩) 1 1] 24)).alloc (.cells #[.int .i64 1, .int .u64 (n + 1)] 57)).alloc (.cells #[.slice (some ⟨W2.heap.size + 1, 0, none⟩) 1 1] 55))) (cs := #[.int .u64 a, .int .u64 0, .slice none 0 0, .slice none 0 0, .slice none 0 0]) (t := 32)
    rw [World.size_alloc, World.size_alloc, World.size_alloc] at this
    exact this.al _
  have Xd : Bxd W3 (W2.heap.size + 1 + 1 + 1 + 1) #[.int .u64 b, .int .u64 0, .slice none 0 0, .slice none 0 0, .slice none 0 0] := by
    rw [← hW3]
    have := V4.Bxd.new (W := ((((W2.alloc (.cells #[.int .i64 8, .slice (some ⟨W1.heap.size, 0, none⟩) 1 1] 24)).alloc (.cells #[.int .i64 1, .int .u64 (n + 1)] 57)).alloc (.cells #[.slice (some ⟨W2.heap.size + 1, 0, none⟩) 1 1] 55)).alloc (.cells #[.int .u64 a, .int .u64 0, .slice none 0 0, .slice none 0 0, .slice none 0 0] 32))) (cs := #[.int .u64 b, .int .u64 0, .slice none 0 0, .slice none 0 0, .slice none 0 0]) (t := 32)
    rw [World.size_alloc, World.size_alloc, World.size_alloc, World.size_alloc] at this
    exact this
  replace X5 := X5.later bW3
  have BW3 : Below w.heap.size w W3 := BW2.trans (bW3.mono BW2.size)
  have S8 : (scRow 8 W1.heap.size [scLeaf 1]).In W3.heap.size W3 := scRow_in 8 X5 rfl (by simp) (fun s hs => by rw [List.mem_singleton.1 hs]; exact scLeaf_in _ _ _)
  have I7 : (vlCV 0 0 none [] (W2.heap.size + 1 + 1) [ckOne (W2.heap.size + 1) 1 (n + 1)] (W2.heap.size + 1 + 1 + 1) [vlNum a]).In W3 := vlCV_in Xb rfl Xc rfl (by simp) (by simp) (fun k hk => by rw [List.mem_singleton.1 hk]; exact ckOne_in Xa (by omega)) (fun x hx => by rw [List.mem_singleton.1 hx]; exact vlNum_in _ (by omega) _ _)
  have I8 : (vlCV 0 0 none [] (W2.heap.size + 1 + 1) [ckOne (W2.heap.size + 1) 1 (n + 1)] (W2.heap.size + 1 + 1 + 1 + 1) [vlNum b]).In W3 := vlCV_in Xb rfl Xd rfl (by simp) (by simp) (fun k hk => by rw [List.mem_singleton.1 hk]; exact ckOne_in Xa (by omega)) (fun x hx => by rw [List.mem_singleton.1 hx]; exact vlNum_in _ (by omega) _ _)
  have HJ := Lib.hid (Join_any False False.elim (scRow 8 W1.heap.size [scLeaf 1]) (vlCV 0 0 none [] (W2.heap.size + 1 + 1) [ckOne (W2.heap.size + 1) 1 (n + 1)] (W2.heap.size + 1 + 1 + 1) [vlNum a]) (vlCV 0 0 none [] (W2.heap.size + 1 + 1) [ckOne (W2.heap.size + 1) 1 (n + 1)] (W2.heap.size + 1 + 1 + 1 + 1) [vlNum b]) W3 S8 I7 I8 (fun _ => .inr (noP_one (by decide) (noP_leaf (by decide)))))
  clear S8 I7 I8 X5 Xa Xb Xc Xd
  have l0 : W3.cell? ⟨W2.heap.size, 0, none⟩ = some (.int .i64 8) := X7.2 0 _ rfl
  have l1 : W3.cell? ⟨W2.heap.size, 1, none⟩ = some (.slice (some ⟨W1.heap.size, 0, none⟩) 1 1) := X7.2 1 _ rfl
  go_wp2_with fail
  refine HJ.out.mono ?_
  clear HJ hW3
  rintro e U3 hr
  obtain ⟨⟨dn, dm, dsA, dsc, dss, dcA, dcc, dcs, dvA, dvc, dvs⟩, rfl, hde, hdi, bU3⟩ := retK_ok hr KT.out
  have I9 := inn hdi
  rw [er_mk, verE, mk_inj] at hde
  obtain ⟨rfl, rfl, rfl, hc, hv⟩ := hde
  have hlc : dcs.length = 1 := by have := congrArg List.length hc; simpa using this
  obtain ⟨u, hu⟩ : ∃ u, dvs = [u] := List.length_eq_one_iff.1 (by have := congrArg List.length hv; simpa using this)
  subst hu
  have hun : u.er = numE M := by simpa using hv
  obtain ⟨un, um, usA, usc, uss, ucA, ucc, ucs, uvA, uvc, uvs⟩ := u
  rw [er_mk, numE, mk_inj] at hun
  obtain ⟨rfl, rfl, rfl, _, _⟩ := hun
  obtain ⟨vb, vo, rfl, hvb, c0, _, _, _, _⟩ := V4.value_at I9.out.vl (k := 0) rfl
  simp only [V4.Vl.n, Nat.zero_mul, Nat.add_zero] at c0
  simp only [val_mk, List.length_cons, List.length_nil, Nat.zero_add, hlc]
  clear hr hdi hc hv
  clear l0 l1
  clear X7
  have BU3 : Below w.heap.size w U3 := BW3.trans (bU3.mono BW3.size)
  obtain ⟨W4, hW4⟩ : ∃ W4, (U3.alloc (.cells #[.int .u64 0, .int .u64 0, .slice dsA 0 dsc, .slice dcA 1 dcc, .slice (some ⟨vb, vo, none⟩) 1 dvc] 32)) = W4 := ⟨_, rfl⟩
  have bW4 : Below U3.heap.size U3 W4 := by rw [← hW4]; exact belAl (Below.refl _ _)
  have X9 : Bxd W4 (U3.heap.size) #[.int .u64 0, .int .u64 0, .slice dsA 0 dsc, .slice dcA 1 dcc, .slice (some ⟨vb, vo, none⟩) 1 dvc] := by
    rw [← hW4]
    have := V4.Bxd.new (W := U3) (cs := #[.int .u64 0, .int .u64 0, .slice dsA 0 dsc, .slice dcA 1 dcc, .slice (some ⟨vb, vo, none⟩) 1 dvc]) (t := 32)
    exact this
  have BW4 : Below w.heap.size w W4 := BU3.trans (bW4.mono BU3.size)
  have c1 : W4.cell? ⟨vb, vo, none⟩ = some (.int .u64 un) := (bW4.cell (p := ⟨vb, vo, none⟩) hvb).trans c0
  have x3 : W4.cell? ⟨U3.heap.size, 3, none⟩ = some (.slice dcA 1 dcc) := X9.2 3 _ rfl
  have x4 : W4.cell? ⟨U3.heap.size, 4, none⟩ = some (.slice (some ⟨vb, vo, none⟩) 1 dvc) := X9.2 4 _ rfl
  go_wp2_with fail
  go_ret
  exact ⟨by simp, BW4⟩
end Go.Proofs.YtleejffjnknohaaGreat.J5

namespace Go.Proofs.YtleejffjnknohaaGreat
open Go.ChangeShapes Go.WideShapes Go.ChangeAt Go.RowKit

theorem u8_in {n : Int} (h : (Lit.int .u8 n).wf = true) : 0 ≤ n ∧ n ≤ 255 := by
  simp [Lit.wf] at h
  have e1 : IntKind.u8.min = 0 := by decide
  have e2 : IntKind.u8.max = 255 := by decide
  omega
theorem u64_in {n : Int} (h : (Lit.int .u64 n).wf = true) : 0 ≤ n ∧ n ≤ 18446744073709551615 := by
  simp [Lit.wf] at h
  have e1 : IntKind.u64.min = 0 := by decide
  have e2 : IntKind.u64.max = 18446744073709551615 := by decide
  omega

set_option maxRecDepth 100000 in
theorem joinTwins_lifted (os : Os) (started : os.Started) (H : Type) (enc : TypeId × Value → H) :
    ReturnsInHanded {} Tryz.checked os 10 .any (Rows.joinTwinsSpec.pre6 enc Tryz.prog Tryz.f10 Rows.joinTwinsRow.domain false) (Rows.joinTwinsSpec.post enc Tryz.prog Tryz.f10 false true false false) := by
  refine returnsInHanded_of_change (C := Tryz.checked) (by kernel_rfl) started (by kernel_rfl) Tryz.func10
    (ChangeSpec.witness6 (enc := enc) (C := Tryz.checked) false ⟨#[], #[.int .u8 0, .int .u8 0, .int .u8 0], []⟩ 8 (by kernel_rfl) (by kernel_rfl) (by kernel_rfl) (by kernel_rfl)) ?_
  intro W base args ds gs before hval0 hW _ _
  have hval : ∀ (j : Nat) t v, Tryz.f10.params[j]? = some t → args[j]? = some v → Value.okWide Tryz.prog W .any base t v := hval0
  have hW' := hW
  obtain ⟨p, q, hA0, hV, rfl, _, _⟩ := hW
  have hA : DataW.TrodAll enc Tryz.prog W 0 (fun _ => true) true Tryz.f10.params.toList args.toList ds p := hA0
  rw [Tryz.params10] at hA hval
  obtain ⟨v0, vs0, d0, ds0, p0, q0, hargs, rfl, rfl, h0, r0⟩ := trodAll_cons hA
  obtain ⟨v1, vs1, d1, ds1, p1, q1, rfl, rfl, rfl, h1, r1⟩ := trodAll_cons r0
  obtain ⟨v2, vs2, d2, ds2, p2, q2, rfl, rfl, rfl, h2, r2⟩ := trodAll_cons r1
  obtain ⟨rfl, rfl, rfl⟩ := trodAll_nil r2
  obtain rfl : args = #[v0, v1, v2] := by cases args; simp_all
  obtain ⟨rfl, rfl⟩ := trodVars_none hV
  obtain ⟨a0, rfl, rfl, rfl, w0⟩ := open_int Tryz.underlying5 (hval 0 5 v0 rfl rfl) h0
  obtain ⟨a1, rfl, rfl, rfl, w1⟩ := open_int Tryz.underlying5 (hval 1 5 v1 rfl rfl) h1
  obtain ⟨a2, rfl, rfl, rfl, w2⟩ := open_int Tryz.underlying5 (hval 2 5 v2 rfl rfl) h2
  clear hA0 hval0
  simp only [List.append_nil] at hW'
  refine (J5.joinTwins_all a0 a1 a2 (u8_in w0) (u8_in w1) (u8_in w2) W).mono fun e W' ⟨he, bel⟩ => ?_
  subst he
  exact ⟨_, rfl, _, _, _, [], _, [], hW', trodAll_mk1 (shut_bool Tryz.underlying4 _), (trodAll_cons_mk (shut_int Tryz.underlying5 w0) (trodAll_cons_mk (shut_int Tryz.underlying5 w1) (trodAll_cons_mk (shut_int Tryz.underlying5 w2) trodAll_mk0))), rfl, bel.frame _, fun h => by cases h⟩

theorem joinTwins_holds : Rows.JoinTwinsSaid :=
  OpenClaim.holds_of_wide 10 Tryz.f10 rfl rfl rfl rfl rfl rfl rfl ⟨rfl, rfl, rfl, rfl, rfl⟩ rfl rfl rfl rfl rfl (by kernel_rfl) Tryz.func10 (by kernel_rfl)
    (of_decide_eq_true (by kernel_rfl)) (by unfold Func.isWrapper; first | (rw [if_pos (by decide +kernel)]; kernel_rfl) | (rw [if_neg (by decide +kernel)]; exact ⟨rfl, rfl⟩))
    (fun os started H enc _ => joinTwins_lifted os started H enc)
end Go.Proofs.YtleejffjnknohaaGreat
