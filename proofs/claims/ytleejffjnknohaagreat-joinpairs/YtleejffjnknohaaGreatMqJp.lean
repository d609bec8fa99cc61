/- JoinPairsSaid is proved: at every input the law returns true, and each argument reads afterwards as it read before. No condition. What JoinPairs does: it answers true. No condition but that what is handed in lies in memory. Pairs in pairs, joined: plain mathematics, and where their parts lie. No condition. -/
import Derived.Test.YtleejffjnknohaaGreatMq28
import Derived.Test.YtleejffjnknohaaGreatMq27
import Derived.Test.YtleejffjnknohaaGreatMq06
import Derived.Test.YtleejffjnknohaaGreatMq29
import Derived.Test.YtleejffjnknohaaGreatMq11
import Derived.Deep.DeepCutAuto
import Derived.Test.YtleejffjnknohaaGreatMq30
import Derived.WalkKit
import Derived.ProofKit
import Derived.OpenShut
namespace Go.Proofs.YtleejffjnknohaaGreat.J5
open Go.RowKit Go.Shelf
open S2 (Tr isT)
open V4 (Va Vl isV er_mk mk_inj value_at)

def tP : Tr := .mk 5 [.mk 1 [], .mk 5 [.mk 3 [], .mk 1 []]]
def vP (a : Int) (s : List Str) (c : Int) : Va := .mk 0 0 [] [] [numE a, .mk 0 0 [] [] [.mk 0 0 s [] [], numE c]]
def sS (s : List Str) : Va := .mk 0 0 s [] []
theorem isT_tP : isT 16 tP = true := by decide
theorem jp_is (a c : Int) (s : List Str) : isV tP (vP a s c) = isV (.mk 3 []) (sS s) := by
  have key : isV tP (vP a s c) = true ↔ isV (.mk 3 []) (sS s) = true := by
    constructor
    · intro h
      obtain ⟨u, v, e, _, h2⟩ := isV_pair.1 h
      obtain ⟨-, -, -, -, e⟩ := mk_inj.1 e
      simp only [List.cons.injEq, and_true] at e
      obtain ⟨rfl, rfl⟩ := e
      obtain ⟨p, q, e, h3, _⟩ := isV_pair.1 h2
      obtain ⟨-, -, -, -, e⟩ := mk_inj.1 e
      simp only [List.cons.injEq, and_true] at e
      obtain ⟨rfl, rfl⟩ := e
      exact h3
    · intro h
      exact isV_pair.2 ⟨_, _, rfl, is_num a, isV_pair.2 ⟨_, _, rfl, h, is_num c⟩⟩
  cases h1 : isV tP (vP a s c) <;> cases h2 : isV (.mk 3 []) (sS s) <;> simp_all
theorem jp_ok {a b c d : Int} {s t : List Str} (hs : isV (.mk 3 []) (sS s) = true) (ht : isV (.mk 3 []) (sS t) = true) (hl : (R1.bothL s t).length ≤ 40) : joinF tP (vP a s c) (vP b t d) = .ok (vP (max a b) (R1.bothL s t) (max c d)) := by
  refine joinF_ok isT_tP ((jp_is a c s).trans hs) ((jp_is b d t).trans ht) ?_
  have h3 : joinE (.mk 3 []) (sS s) (sS t) = some (sS (R1.bothL s t)) := by
    rw [joinE, if_pos rfl]
    exact if_neg (show ¬ 40 < (R1.bothL s t).length by omega)
  unfold tP
  rw [joinE]
  show (joinE (.mk 1 []) (numE a) (numE b)).bind _ = _
  rw [joinE_num]
  simp only [Option.bind_some]
  rw [joinE]
  show ((joinE (.mk 3 []) (sS s) (sS t)).bind fun u => (joinE (.mk 1 []) (numE c) (numE d)).map _).map _ = _
  rw [h3, joinE_num]
  rfl
theorem jp_no {a b c d : Int} {s t : List Str} (h : isV (.mk 3 []) (sS s) = false ∨ isV (.mk 3 []) (sS t) = false) : joinF tP (vP a s c) (vP b t d) = .error 14 :=
  joinF_type (h.imp (fun h => (jp_is a c s).trans h) fun h => (jp_is b d t).trans h)

/-- Where the parts of such a value lie. -/
theorem pair_at {W : World} {z : Vl} {a c : Int} {s : List Str} (h : z.In W) (he : z.er = vP a s c) : ∃ (vb vo zc v2b v2o c2 : Nat) (tA : Option Addr) (tc : Nat),
    z.v1 = .slice (some ⟨vb, vo, none⟩) 2 zc ∧ vb < W.heap.size ∧ v2b < W.heap.size ∧ W.cell? ⟨vb, vo, none⟩ = some (.int .u64 a) ∧ W.cell? ⟨vb, vo + 5 + 4, none⟩ = some (.slice (some ⟨v2b, v2o, none⟩) 2 c2) ∧
    W.cell? ⟨v2b, v2o + 2, none⟩ = some (.slice tA s.length tc) ∧ W.cell? ⟨v2b, v2o + 5, none⟩ = some (.int .u64 c) ∧ Lies W tA s ∧ s.length ≤ 140737488351232 := by
  obtain ⟨zn, zm, zsA, zsc, zss, zcA, zcc, zcs, zvA, zvc, zvs⟩ := z
  rw [er_mk, vP, mk_inj] at he
  obtain ⟨-, -, -, -, he⟩ := he
  have hl : zvs.length = 2 := by have := congrArg List.length he; simpa using this
  obtain ⟨u1, u2, rfl⟩ : ∃ u1 u2, zvs = [u1, u2] := by
    match zvs, hl with
    | [p, q], _ => exact ⟨p, q, rfl⟩
  simp only [List.map_cons, List.map_nil, List.cons.injEq, and_true] at he
  obtain ⟨e1, e2⟩ := he
  have hp := h.out
  have h2 := hp.vk u2 (by simp)
  obtain ⟨vb, vo, rfl, hvb, a0, -, -, -, -⟩ := value_at hp.vl (k := 0) rfl
  obtain ⟨vb', vo', ee, -, -, -, -, -, a4⟩ := value_at hp.vl (k := 1) rfl
  cases ee
  obtain ⟨un, um, usA, usc, uss, ucA, ucc, ucs, uvA, uvc, uvs⟩ := u1
  rw [er_mk, numE, mk_inj] at e1
  obtain ⟨rfl, -⟩ := e1
  obtain ⟨tn, tm, tsA, tsc, tss, tcA, tcc, tcs, tvA, tvc, tvs⟩ := u2
  rw [er_mk, mk_inj] at e2
  obtain ⟨-, -, -, -, e2⟩ := e2
  have hl2 : tvs.length = 2 := by have := congrArg List.length e2; simpa using this
  obtain ⟨p1, p2, rfl⟩ : ∃ p1 p2, tvs = [p1, p2] := by
    match tvs, hl2 with
    | [p, q], _ => exact ⟨p, q, rfl⟩
  simp only [List.map_cons, List.map_nil, List.cons.injEq, and_true] at e2
  obtain ⟨e3, e4⟩ := e2
  have hp2 := h2.out
  have h3 := hp2.vk p1 (by simp)
  obtain ⟨v2b, v2o, rfl, hv2b, -, -, b2, -, -⟩ := value_at hp2.vl (k := 0) rfl
  obtain ⟨v2b', v2o', ee, -, c0, -, -, -, -⟩ := value_at hp2.vl (k := 1) rfl
  cases ee
  obtain ⟨qn, qm, qsA, qsc, qss, qcA, qcc, qcs, qvA, qvc, qvs⟩ := p1
  rw [er_mk, mk_inj] at e3
  obtain ⟨-, -, rfl, -⟩ := e3
  obtain ⟨rn, rm, rsA, rsc, rss, rcA, rcc, rcs, rvA, rvc, rvs⟩ := p2
  rw [er_mk, numE, mk_inj] at e4
  obtain ⟨rfl, -⟩ := e4
  have hp3 := h3.out
  simp only [Nat.zero_mul, Nat.one_mul, Nat.add_zero] at a0 a4 b2 c0
  exact ⟨vb, vo, zvc, v2b, v2o, tvc, qsA, qsc, rfl, hvb, hv2b, a0, a4, b2, c0, hp3.sl, by have := hp3.sb.2.2; omega⟩
end Go.Proofs.YtleejffjnknohaaGreat.J5

namespace Go.Proofs.YtleejffjnknohaaGreat.J5
open Go.RowKit Go.Shelf
open C3 (Tk belAl allocB)
open S2 (Sc Tr isT)
open V4 (Va Vl Ck isV botT Bxd val_mk er_mk scLeaf scLeaf_in scRow scRow_in mk_inj vlNum vlNum_in vlRow vlRow_in)

theorem vlT_inM {W : World} {A : Option Addr} {c : Nat} {ss : List Str} (hl : Lies W A ss) (h1 : ss.length ≤ c) (h2 : c ≤ maxLen) (h3 : ss.length ≤ 1000) (h4 : ∀ s ∈ ss, s.length ≤ maxLen) : (vlT A c ss).In W := by
  refine .mk _ _ _ _ _ _ _ _ _ _ _ (by omega) (by omega) ?_ ⟨h1, h2, by omega⟩ h4 .nil (by simp [maxLen]) (by simp) .nil (by simp [maxLen]) (by simp)
  rcases hl with rfl | ⟨b, off, rfl, hb, hc⟩
  · exact .nil
  · refine .inr ⟨b, off, rfl, hb, fun i u hu => ?_⟩
    obtain ⟨x, hx, rfl⟩ := R1.cellsOf_get hu
    exact hc i x hx
/-- Such a value where it lies. -/
def xP (q2 q1 : Nat) (a : Int) (A : Option Addr) (c' : Nat) (ss : List Str) (c : Int) : Vl := vlRow q2 [vlNum a, vlRow q1 [vlT A c' ss, vlNum c]]
def pP (b2 b1 : Nat) : Sc := scRow 5 b2 [scLeaf 1, scRow 5 b1 [scLeaf 3, scLeaf 1]]

set_option maxRecDepth 100000 in
set_option maxHeartbeats 8000000 in
theorem joinPairs_all (a b c d : Int) (A A' : Option Addr) (c1 c2 : Nat) (s t : List Str) (w : World) (ha : 0 ≤ a ∧ a ≤ 18446744073709551615) (hb : 0 ≤ b ∧ b ≤ 18446744073709551615) (hc : 0 ≤ c ∧ c ≤ 18446744073709551615) (hd : 0 ≤ d ∧ d ≤ 18446744073709551615)
    (hl : Lies w A s) (hl' : Lies w A' t) (hx : ∀ x ∈ s, x.length ≤ maxLen) (hy : ∀ x ∈ t, x.length ≤ maxLen) (hn : s.length ≤ 9223372036854775807) (hn' : t.length ≤ 9223372036854775807) :
    Calls Tryz.prog 7 #[.int .u64 a, .int .u64 b, .int .u64 c, .int .u64 d, .slice A s.length c1, .slice A' t.length c2] w (RetV w (.bool true)) := by
  by_cases h1 : 15 < s.length
  · have g1 : decide ((15 : Int) < (s.length : Int)) = true := decide_eq_true (by omega)
    clear h1
    go_enter Tryz.func7, Tryz.ntmps7
    go_wp2_with fail
    refine (known_any w).mono ?_
    rintro e W0 ⟨rfl, bW0⟩
    go_wp2_with fail
    go_ret
    exact ⟨rfl, bW0⟩
  have g1 : decide ((15 : Int) < (s.length : Int)) = false := decide_eq_false (by omega)
  by_cases h2 : 15 < t.length
  · have g2 : decide ((15 : Int) < (t.length : Int)) = true := decide_eq_true (by omega)
    clear h1 h2
    go_enter Tryz.func7, Tryz.ntmps7
    go_wp2_with fail
    refine (known_any w).mono ?_
    rintro e W0 ⟨rfl, bW0⟩
    go_wp2_with fail
    go_ret
    exact ⟨rfl, bW0⟩
  have g2 : decide ((15 : Int) < (t.length : Int)) = false := decide_eq_false (by omega)
  obtain ⟨ss, hss⟩ : ∃ ss, R1.sortL s = ss := ⟨_, rfl⟩
  obtain ⟨ts, hts⟩ : ∃ ts, R1.sortL t = ts := ⟨_, rfl⟩
  have HCS := Lib.hid (fun W (hb : Below w.heap.size w W) => R1.refSort_any A c1 s W (hl.below hb) (by omega))
  have HCT := Lib.hid (fun W (hb : Below w.heap.size w W) => R1.refSort_any A' c2 t W (hl'.below hb) (by omega))
  have ls : ss.length ≤ 15 := by rw [← hss]; have := R1.sortL_len s; omega
  have lt : ts.length ≤ 15 := by rw [← hts]; have := R1.sortL_len t; omega
  have HMS : Hid (∀ x ∈ ss, x.length ≤ maxLen) := fun x hx' => hx x (by rw [← hss] at hx'; exact R1.mem_sortL.1 hx')
  have HMT : Hid (∀ x ∈ ts, x.length ≤ maxLen) := fun x hx' => hy x (by rw [← hts] at hx'; exact R1.mem_sortL.1 hx')
  rw [hss] at HCS
  rw [hts] at HCT
  have lb := R1.bothL_len ss ts
  obtain ⟨al, hal⟩ : ∃ al, R1.bothL ss ts = al := ⟨_, rfl⟩
  rw [hal] at lb
  have HCB := Lib.hid (fun (B B' : Option Addr) (e e' : Nat) W (h1 : Lies W B ss) (h2 : Lies W B' ts) => R1.refBoth_any B B' e e' ss ts W h1 h2 (by omega) (by omega))
  rw [hal] at HCB
  obtain ⟨bs, hbs⟩ : ∃ bs, isV (.mk 3 []) (sS ss) = bs := ⟨_, rfl⟩
  obtain ⟨bt, hbt⟩ : ∃ bt, isV (.mk 3 []) (sS ts) = bt := ⟨_, rfl⟩
  have HO : Hid (joinF tP (vP a ss c) (vP b ts d) = if bs = true ∧ bt = true then .ok (vP (max a b) al (max c d)) else .error 14) := by
    show joinF _ _ _ = _
    split
    · rename_i h
      rw [← hal]
      exact jp_ok (hbs.trans h.1) (hbt.trans h.2) (by rw [hal]; omega)
    · rename_i h
      refine jp_no ?_
      cases bs with
      | false => exact .inl hbs
      | true => cases bt with
        | false => exact .inr hbt
        | true => exact absurd ⟨rfl, rfl⟩ h
  have HIX : Hid (∀ c', isV tP (vP a ss c') = bs) := fun c' => (jp_is _ _ _).trans hbs
  have HIY : Hid (∀ c', isV tP (vP b ts c') = bt) := fun c' => (jp_is _ _ _).trans hbt
  clear hss hts hal hl hl' hx hy hbs hbt h1 h2
  go_enter Tryz.func7, Tryz.ntmps7
  go_wp2_with fail
  refine (known_any w).mono ?_
  rintro e W0 ⟨rfl, bW0⟩
  have BW0 : Below w.heap.size w W0 := bW0
  go_wp2_with fail
  refine (of_any 1 none 0 0 W0).mono ?_
  rintro e W1 ⟨rfl, bW1⟩
  clear g1 g2
  have BW1 : Below w.heap.size w W1 := BW0.trans (bW1.mono BW0.size)
  go_wp2_with fail
  refine (of_any 3 none 0 0 W1).mono ?_
  rintro e W2 ⟨rfl, bW2⟩
  have BW2 : Below w.heap.size w W2 := BW1.trans (bW2.mono BW1.size)
  go_wp2_with fail
  refine (of_any 1 none 0 0 W2).mono ?_
  rintro e W3 ⟨rfl, bW3⟩
  have BW3 : Below w.heap.size w W3 := BW2.trans (bW3.mono BW2.size)
  obtain ⟨V1, hV1⟩ : ∃ V1, (W3.alloc (.cells #[.int .i64 3, .slice none 0 0, .int .i64 1, .slice none 0 0] 24)) = V1 := ⟨_, rfl⟩
  have bV1 : Below W3.heap.size W3 V1 := by rw [← hV1]; exact belAl (Below.refl _ _)
  have Xp1 : Bxd V1 (W3.heap.size) #[.int .i64 3, .slice none 0 0, .int .i64 1, .slice none 0 0] := by
    rw [← hV1]
    have := V4.Bxd.new (W := W3) (cs := #[.int .i64 3, .slice none 0 0, .int .i64 1, .slice none 0 0]) (t := 24)
    exact this
  have BV1 : Below w.heap.size w V1 := BW3.trans (bV1.mono BW3.size)
  go_wp2_with fail
  refine (of_any 5 (some ⟨W3.heap.size, 0, none⟩) 2 2 V1).mono ?_
  rintro e W4 ⟨rfl, bW4⟩
  clear hV1
  replace Xp1 := Xp1.later bW4
  have BW4 : Below w.heap.size w W4 := BV1.trans (bW4.mono BV1.size)
  obtain ⟨V2, hV2⟩ : ∃ V2, (W4.alloc (.cells #[.int .i64 1, .slice none 0 0, .int .i64 5, .slice (some ⟨W3.heap.size, 0, none⟩) 2 2] 24)) = V2 := ⟨_, rfl⟩
  have bV2 : Below W4.heap.size W4 V2 := by rw [← hV2]; exact belAl (Below.refl _ _)
  have Xp2 : Bxd V2 (W4.heap.size) #[.int .i64 1, .slice none 0 0, .int .i64 5, .slice (some ⟨W3.heap.size, 0, none⟩) 2 2] := by
    rw [← hV2]
    have := V4.Bxd.new (W := W4) (cs := #[.int .i64 1, .slice none 0 0, .int .i64 5, .slice (some ⟨W3.heap.size, 0, none⟩) 2 2]) (t := 24)
    exact this
  replace Xp1 := Xp1.later bV2
  have BV2 : Below w.heap.size w V2 := BW4.trans (bV2.mono BW4.size)
  have SP : (pP W4.heap.size W3.heap.size).In V2.heap.size V2 := scRow_in 5 Xp2 rfl (by simp) (fun s hs => by
    rcases List.mem_cons.1 hs with rfl | hs
    · exact scLeaf_in _ _ _
    · rw [List.mem_singleton.1 hs]
      exact scRow_in 5 Xp1 rfl (by simp) (fun s hs => by
        rcases List.mem_cons.1 hs with rfl | hs
        · exact scLeaf_in _ _ _
        · rw [List.mem_singleton.1 hs]; exact scLeaf_in _ _ _))
  clear Xp1 Xp2
  go_wp2_with fail
  refine (of_any 5 (some ⟨W4.heap.size, 0, none⟩) 2 2 V2).mono ?_
  rintro e W5 ⟨rfl, bW5⟩
  clear hV2
  replace SP := SP.later bW5
  have BW5 : Below w.heap.size w W5 := BV2.trans (bW5.mono BV2.size)
  obtain ⟨W6, hW6⟩ : ∃ W6, (W5.alloc (.cells #[.int .i64 5, .slice (some ⟨W4.heap.size, 0, none⟩) 2 2] 24)) = W6 := ⟨_, rfl⟩
  have bW6 : Below W5.heap.size W5 W6 := by rw [← hW6]; exact belAl (Below.refl _ _)
  have X13 : Bxd W6 (W5.heap.size) #[.int .i64 5, .slice (some ⟨W4.heap.size, 0, none⟩) 2 2] := by
    rw [← hW6]
    have := V4.Bxd.new (W := W5) (cs := #[.int .i64 5, .slice (some ⟨W4.heap.size, 0, none⟩) 2 2]) (t := 24)
    exact this
  replace SP := SP.later bW6
  have BW6 : Below w.heap.size w W6 := BW5.trans (bW6.mono BW5.size)
  go_wp2_with fail
  refine (HCS.out W6 BW6).mono ?_
  rintro e W7 ⟨A3, c3, rfl, h1, h2, hl3, bW7⟩
  clear hW6
  replace X13 := X13.later bW7
  replace SP := SP.later bW7
  have BW7 : Below w.heap.size w W7 := BW6.trans (bW7.mono BW6.size)
  obtain ⟨V8, hV8⟩ : ∃ V8, (((W7.alloc (.cells #[.int .u64 0, .int .u64 0, .slice A3 ss.length c3, .slice none 0 0, .slice none 0 0, .int .u64 c, .int .u64 0, .slice none 0 0, .slice none 0 0, .slice none 0 0] 32)).alloc (.cells #[.int .u64 a, .int .u64 0, .slice none 0 0, .slice none 0 0, .slice none 0 0, .int .u64 0, .int .u64 0, .slice none 0 0, .slice none 0 0, .slice (some ⟨W7.heap.size, 0, none⟩) 2 2] 32)).alloc (.cells #[.int .u64 0, .int .u64 0, .slice none 0 0, .slice none 0 0, .slice (some ⟨W7.heap.size + 1, 0, none⟩) 2 2] 32)) = V8 := ⟨_, rfl⟩
  have bV8 : Below W7.heap.size W7 V8 := by rw [← hV8]; exact belAl (belAl (belAl (Below.refl _ _)))
  have Xq1 : Bxd V8 (W7.heap.size) #[.int .u64 0, .int .u64 0, .slice A3 ss.length c3, .slice none 0 0, .slice none 0 0, .int .u64 c, .int .u64 0, .slice none 0 0, .slice none 0 0, .slice none 0 0] := by
    rw [← hV8]
    have := V4.Bxd.new (W := W7) (cs := #[.int .u64 0, .int .u64 0, .slice A3 ss.length c3, .slice none 0 0, .slice none 0 0, .int .u64 c, .int .u64 0, .slice none 0 0, .slice none 0 0, .slice none 0 0]) (t := 32)
    exact (this.al _).al _
  have Xq2 : Bxd V8 (W7.heap.size + 1) #[.int .u64 a, .int .u64 0, .slice none 0 0, .slice none 0 0, .slice none 0 0, .int .u64 0, .int .u64 0, .slice none 0 0, .slice none 0 0, .slice (some ⟨W7.heap.size, 0, none⟩) 2 2] := by
    rw [← hV8]
    have := V4.Bxd.new (W := (W7.alloc (.cells #[.int .u64 0, .int .u64 0, .slice A3 ss.length c3, .slice none 0 0, .slice none 0 0, .int .u64 c, .int .u64 0, .slice none 0 0, .slice none 0 0, .slice none 0 0] 32))) (cs := #[.int .u64 a, .int .u64 0, .slice none 0 0, .slice none 0 0, .slice none 0 0, .int .u64 0, .int .u64 0, .slice none 0 0, .slice none 0 0, .slice (some ⟨W7.heap.size, 0, none⟩) 2 2]) (t := 32)
    rw [World.size_alloc] at this
    exact this.al _
  have X14 : Bxd V8 (W7.heap.size + 1 + 1) #[.int .u64 0, .int .u64 0, .slice none 0 0, .slice none 0 0, .slice (some ⟨W7.heap.size + 1, 0, none⟩) 2 2] := by
    rw [← hV8]
    have := V4.Bxd.new (W := ((W7.alloc (.cells #[.int .u64 0, .int .u64 0, .slice A3 ss.length c3, .slice none 0 0, .slice none 0 0, .int .u64 c, .int .u64 0, .slice none 0 0, .slice none 0 0, .slice none 0 0] 32)).alloc (.cells #[.int .u64 a, .int .u64 0, .slice none 0 0, .slice none 0 0, .slice none 0 0, .int .u64 0, .int .u64 0, .slice none 0 0, .slice none 0 0, .slice (some ⟨W7.heap.size, 0, none⟩) 2 2] 32))) (cs := #[.int .u64 0, .int .u64 0, .slice none 0 0, .slice none 0 0, .slice (some ⟨W7.heap.size + 1, 0, none⟩) 2 2]) (t := 32)
    rw [World.size_alloc, World.size_alloc] at this
    exact this
  replace X13 := X13.later bV8
  replace SP := SP.later bV8
  have BV8 : Below w.heap.size w V8 := BW7.trans (bV8.mono BW7.size)
  have IX : (xP (W7.heap.size + 1) (W7.heap.size) a A3 c3 ss c).In V8 := vlRow_in Xq2 rfl (by simp) (fun x hx => by
    rcases List.mem_cons.1 hx with rfl | hx
    · exact vlNum_in _ ha _ _
    · rw [List.mem_singleton.1 hx]
      exact vlRow_in Xq1 rfl (by simp) (fun x hx => by
        rcases List.mem_cons.1 hx with rfl | hx
        · exact vlT_inM (hl3.below bV8) h1 h2 (by omega) HMS.out
        · rw [List.mem_singleton.1 hx]; exact vlNum_in _ hc _ _))
  clear Xq1 Xq2 hl3 h1 h2
  go_wp2_with fail
  refine (HCT.out V8 BV8).mono ?_
  rintro e W9 ⟨A4, c4, rfl, h1, h2, hl3, bW9⟩
  clear hV8
  replace X13 := X13.later bW9
  replace X14 := X14.later bW9
  replace SP := SP.later bW9
  replace IX := IX.later bW9
  have BW9 : Below w.heap.size w W9 := BV8.trans (bW9.mono BV8.size)
  obtain ⟨VA, hVA⟩ : ∃ VA, (((W9.alloc (.cells #[.int .u64 0, .int .u64 0, .slice A4 ts.length c4, .slice none 0 0, .slice none 0 0, .int .u64 d, .int .u64 0, .slice none 0 0, .slice none 0 0, .slice none 0 0] 32)).alloc (.cells #[.int .u64 b, .int .u64 0, .slice none 0 0, .slice none 0 0, .slice none 0 0, .int .u64 0, .int .u64 0, .slice none 0 0, .slice none 0 0, .slice (some ⟨W9.heap.size, 0, none⟩) 2 2] 32)).alloc (.cells #[.int .u64 0, .int .u64 0, .slice none 0 0, .slice none 0 0, .slice (some ⟨W9.heap.size + 1, 0, none⟩) 2 2] 32)) = VA := ⟨_, rfl⟩
  have bVA : Below W9.heap.size W9 VA := by rw [← hVA]; exact belAl (belAl (belAl (Below.refl _ _)))
  have Xq1 : Bxd VA (W9.heap.size) #[.int .u64 0, .int .u64 0, .slice A4 ts.length c4, .slice none 0 0, .slice none 0 0, .int .u64 d, .int .u64 0, .slice none 0 0, .slice none 0 0, .slice none 0 0] := by
    rw [← hVA]
    have := V4.Bxd.new (W := W9) (cs := #[.int .u64 0, .int .u64 0, .slice A4 ts.length c4, .slice none 0 0, .slice none 0 0, .int .u64 d, .int .u64 0, .slice none 0 0, .slice none 0 0, .slice none 0 0]) (t := 32)
    exact (this.al _).al _
  have Xq2 : Bxd VA (W9.heap.size + 1) #[.int .u64 b, .int .u64 0, .slice none 0 0, .slice none 0 0, .slice none 0 0, .int .u64 0, .int .u64 0, .slice none 0 0, .slice none 0 0, .slice (some ⟨W9.heap.size, 0, none⟩) 2 2] := by
    rw [← hVA]
    have := V4.Bxd.new (W := (W9.alloc (.cells #[.int .u64 0, .int .u64 0, .slice A4 ts.length c4, .slice none 0 0, .slice none 0 0, .int .u64 d, .int .u64 0, .slice none 0 0, .slice none 0 0, .slice none 0 0] 32))) (cs := #[.int .u64 b, .int .u64 0, .slice none 0 0, .slice none 0 0, .slice none 0 0, .int .u64 0, .int .u64 0, .slice none 0 0, .slice none 0 0, .slice (some ⟨W9.heap.size, 0, none⟩) 2 2]) (t := 32)
    rw [World.size_alloc] at this
    exact this.al _
  have X15 : Bxd VA (W9.heap.size + 1 + 1) #[.int .u64 0, .int .u64 0, .slice none 0 0, .slice none 0 0, .slice (some ⟨W9.heap.size + 1, 0, none⟩) 2 2] := by
    rw [← hVA]
    have := V4.Bxd.new (W := ((W9.alloc (.cells #[.int .u64 0, .int .u64 0, .slice A4 ts.length c4, .slice none 0 0, .slice none 0 0, .int .u64 d, .int .u64 0, .slice none 0 0, .slice none 0 0, .slice none 0 0] 32)).alloc (.cells #[.int .u64 b, .int .u64 0, .slice none 0 0, .slice none 0 0, .slice none 0 0, .int .u64 0, .int .u64 0, .slice none 0 0, .slice none 0 0, .slice (some ⟨W9.heap.size, 0, none⟩) 2 2] 32))) (cs := #[.int .u64 0, .int .u64 0, .slice none 0 0, .slice none 0 0, .slice (some ⟨W9.heap.size + 1, 0, none⟩) 2 2]) (t := 32)
    rw [World.size_alloc, World.size_alloc] at this
    exact this
  replace X13 := X13.later bVA
  replace X14 := X14.later bVA
  replace SP := SP.later bVA
  replace IX := IX.later bVA
  have BVA : Below w.heap.size w VA := BW9.trans (bVA.mono BW9.size)
  have IY : (xP (W9.heap.size + 1) (W9.heap.size) b A4 c4 ts d).In VA := vlRow_in Xq2 rfl (by simp) (fun x hx => by
    rcases List.mem_cons.1 hx with rfl | hx
    · exact vlNum_in _ hb _ _
    · rw [List.mem_singleton.1 hx]
      exact vlRow_in Xq1 rfl (by simp) (fun x hx => by
        rcases List.mem_cons.1 hx with rfl | hx
        · exact vlT_inM (hl3.below bVA) h1 h2 (by omega) HMT.out
        · rw [List.mem_singleton.1 hx]; exact vlNum_in _ hd _ _))
  clear Xq1 Xq2 hl3 h1 h2
  have HJ := Lib.hid (Join_any True (fun _ => pairs_do) (pP W4.heap.size W3.heap.size) (xP (W7.heap.size + 1) (W7.heap.size) a A3 c3 ss c) (xP (W9.heap.size + 1) (W9.heap.size) b A4 c4 ts d) VA SP IX IY (fun _ => .inl trivial))
  have HO2 : Hid (joinF (pP W4.heap.size W3.heap.size).er (xP (W7.heap.size + 1) (W7.heap.size) a A3 c3 ss c).er (xP (W9.heap.size + 1) (W9.heap.size) b A4 c4 ts d).er = if bs = true ∧ bt = true then .ok (vP (max a b) al (max c d)) else .error 14) := HO.out
  have HI1 := Lib.hid (fun W (hb : Below VA.heap.size VA W) => V4.refIsW_any (pP W4.heap.size W3.heap.size) (xP (W7.heap.size + 1) (W7.heap.size) a A3 c3 ss c) W (SP.later hb) (IX.later hb))
  have HI2 := Lib.hid (fun W (hb : Below VA.heap.size VA W) => V4.refIsW_any (pP W4.heap.size W3.heap.size) (xP (W9.heap.size + 1) (W9.heap.size) b A4 c4 ts d) W (SP.later hb) (IY.later hb))
  have e1 : (isT 16 (pP W4.heap.size W3.heap.size).er && isV (pP W4.heap.size W3.heap.size).er (xP (W7.heap.size + 1) (W7.heap.size) a A3 c3 ss c).er) = bs := by show (isT 16 tP && isV tP (vP a ss c)) = bs; rw [isT_tP, HIX.out, Bool.true_and]
  have e2 : (isT 16 (pP W4.heap.size W3.heap.size).er && isV (pP W4.heap.size W3.heap.size).er (xP (W9.heap.size + 1) (W9.heap.size) b A4 c4 ts d).er) = bt := by show (isT 16 tP && isV tP (vP b ts d)) = bt; rw [isT_tP, HIY.out, Bool.true_and]
  rw [e1] at HI1
  rw [e2] at HI2
  clear e1 e2 HO HIX HIY SP IX IY
  have l0 : VA.cell? ⟨W5.heap.size, 0, none⟩ = some (.int .i64 5) := X13.2 0 _ rfl
  have l1 : VA.cell? ⟨W5.heap.size, 1, none⟩ = some (.slice (some ⟨W4.heap.size, 0, none⟩) 2 2) := X13.2 1 _ rfl
  have l2 : VA.cell? ⟨W7.heap.size + 1 + 1, 0, none⟩ = some (.int .u64 0) := X14.2 0 _ rfl
  have l3 : VA.cell? ⟨W7.heap.size + 1 + 1, 1, none⟩ = some (.int .u64 0) := X14.2 1 _ rfl
  have l4 : VA.cell? ⟨W7.heap.size + 1 + 1, 2, none⟩ = some (.slice none 0 0) := X14.2 2 _ rfl
  have l5 : VA.cell? ⟨W7.heap.size + 1 + 1, 3, none⟩ = some (.slice none 0 0) := X14.2 3 _ rfl
  have l6 : VA.cell? ⟨W7.heap.size + 1 + 1, 4, none⟩ = some (.slice (some ⟨W7.heap.size + 1, 0, none⟩) 2 2) := X14.2 4 _ rfl
  have l7 : VA.cell? ⟨W9.heap.size + 1 + 1, 0, none⟩ = some (.int .u64 0) := X15.2 0 _ rfl
  have l8 : VA.cell? ⟨W9.heap.size + 1 + 1, 1, none⟩ = some (.int .u64 0) := X15.2 1 _ rfl
  have l9 : VA.cell? ⟨W9.heap.size + 1 + 1, 2, none⟩ = some (.slice none 0 0) := X15.2 2 _ rfl
  have l10 : VA.cell? ⟨W9.heap.size + 1 + 1, 3, none⟩ = some (.slice none 0 0) := X15.2 3 _ rfl
  have l11 : VA.cell? ⟨W9.heap.size + 1 + 1, 4, none⟩ = some (.slice (some ⟨W9.heap.size + 1, 0, none⟩) 2 2) := X15.2 4 _ rfl
  go_wp2_with fail
  refine HJ.out.mono ?_
  rintro e U1 hr
  clear hVA
  clear l0 l1 l2 l3 l4 l5 l6 l7 l8 l9 l10 l11
  cases bs with
  | false =>
    obtain ⟨rfl, bU1⟩ := retK_err hr (HO2.out.trans (if_neg (by simp)))
    simp only [vlZ_val]
    unfold errV
    clear hr HJ
    replace X13 := X13.later bU1
    replace X14 := X14.later bU1
    replace X15 := X15.later bU1
    have BU1 : Below w.heap.size w U1 := BVA.trans (bU1.mono BVA.size)
    have X13_0 : (U1.alloc (.cells #[.int .u64 0, .int .u64 0, .slice none 0 0, .slice none 0 0, .slice none 0 0] 32)).cell? ⟨W5.heap.size, 0, none⟩ = some (.int .i64 5) := (X13.al _).2 0 _ rfl
    have X13_1 : (U1.alloc (.cells #[.int .u64 0, .int .u64 0, .slice none 0 0, .slice none 0 0, .slice none 0 0] 32)).cell? ⟨W5.heap.size, 1, none⟩ = some (.slice (some ⟨W4.heap.size, 0, none⟩) 2 2) := (X13.al _).2 1 _ rfl
    have X14_0 : (U1.alloc (.cells #[.int .u64 0, .int .u64 0, .slice none 0 0, .slice none 0 0, .slice none 0 0] 32)).cell? ⟨W7.heap.size + 1 + 1, 0, none⟩ = some (.int .u64 0) := (X14.al _).2 0 _ rfl
    have X14_1 : (U1.alloc (.cells #[.int .u64 0, .int .u64 0, .slice none 0 0, .slice none 0 0, .slice none 0 0] 32)).cell? ⟨W7.heap.size + 1 + 1, 1, none⟩ = some (.int .u64 0) := (X14.al _).2 1 _ rfl
    have X14_2 : (U1.alloc (.cells #[.int .u64 0, .int .u64 0, .slice none 0 0, .slice none 0 0, .slice none 0 0] 32)).cell? ⟨W7.heap.size + 1 + 1, 2, none⟩ = some (.slice none 0 0) := (X14.al _).2 2 _ rfl
    have X14_3 : (U1.alloc (.cells #[.int .u64 0, .int .u64 0, .slice none 0 0, .slice none 0 0, .slice none 0 0] 32)).cell? ⟨W7.heap.size + 1 + 1, 3, none⟩ = some (.slice none 0 0) := (X14.al _).2 3 _ rfl
    have X14_4 : (U1.alloc (.cells #[.int .u64 0, .int .u64 0, .slice none 0 0, .slice none 0 0, .slice none 0 0] 32)).cell? ⟨W7.heap.size + 1 + 1, 4, none⟩ = some (.slice (some ⟨W7.heap.size + 1, 0, none⟩) 2 2) := (X14.al _).2 4 _ rfl
    have X15_0 : (U1.alloc (.cells #[.int .u64 0, .int .u64 0, .slice none 0 0, .slice none 0 0, .slice none 0 0] 32)).cell? ⟨W9.heap.size + 1 + 1, 0, none⟩ = some (.int .u64 0) := (X15.al _).2 0 _ rfl
    have X15_1 : (U1.alloc (.cells #[.int .u64 0, .int .u64 0, .slice none 0 0, .slice none 0 0, .slice none 0 0] 32)).cell? ⟨W9.heap.size + 1 + 1, 1, none⟩ = some (.int .u64 0) := (X15.al _).2 1 _ rfl
    have X15_2 : (U1.alloc (.cells #[.int .u64 0, .int .u64 0, .slice none 0 0, .slice none 0 0, .slice none 0 0] 32)).cell? ⟨W9.heap.size + 1 + 1, 2, none⟩ = some (.slice none 0 0) := (X15.al _).2 2 _ rfl
    have X15_3 : (U1.alloc (.cells #[.int .u64 0, .int .u64 0, .slice none 0 0, .slice none 0 0, .slice none 0 0] 32)).cell? ⟨W9.heap.size + 1 + 1, 3, none⟩ = some (.slice none 0 0) := (X15.al _).2 3 _ rfl
    have X15_4 : (U1.alloc (.cells #[.int .u64 0, .int .u64 0, .slice none 0 0, .slice none 0 0, .slice none 0 0] 32)).cell? ⟨W9.heap.size + 1 + 1, 4, none⟩ = some (.slice (some ⟨W9.heap.size + 1, 0, none⟩) 2 2) := (X15.al _).2 4 _ rfl
    have HE4 := Lib.hid (fun W => is_any 14 14 W)
    rw [decide_eq_true rfl] at HE4
    unfold errV at HE4
    have BZ : Below w.heap.size w (U1.alloc (.cells #[.int .u64 0, .int .u64 0, .slice none 0 0, .slice none 0 0, .slice none 0 0] 32)) := belAl BU1
    have bZ : Below VA.heap.size VA (U1.alloc (.cells #[.int .u64 0, .int .u64 0, .slice none 0 0, .slice none 0 0, .slice none 0 0] 32)) := belAl bU1
    go_wp2_with fail
    refine (HI1.out _ bZ).mono ?_
    rintro e U2 ⟨rfl, bU2⟩
    have BU2 : Below w.heap.size w U2 := BZ.trans (bU2.mono BZ.size)
    clear X13_0 X13_1 X14_0 X14_1 X14_2 X14_3 X14_4 X15_0 X15_1 X15_2 X15_3 X15_4
    go_wp2_with fail
    refine (HE4.out _).mono ?_
    rintro e U4 ⟨rfl, bU4⟩
    go_wp2_with fail
    go_ret
    exact ⟨rfl, BU2.trans (bU4.mono BU2.size)⟩
  | true =>
    cases bt with
    | false =>
      obtain ⟨rfl, bU1⟩ := retK_err hr (HO2.out.trans (if_neg (by simp)))
      simp only [vlZ_val]
      unfold errV
      clear hr HJ
      replace X13 := X13.later bU1
      replace X14 := X14.later bU1
      replace X15 := X15.later bU1
      have BU1 : Below w.heap.size w U1 := BVA.trans (bU1.mono BVA.size)
      have X13_0 : (U1.alloc (.cells #[.int .u64 0, .int .u64 0, .slice none 0 0, .slice none 0 0, .slice none 0 0] 32)).cell? ⟨W5.heap.size, 0, none⟩ = some (.int .i64 5) := (X13.al _).2 0 _ rfl
      have X13_1 : (U1.alloc (.cells #[.int .u64 0, .int .u64 0, .slice none 0 0, .slice none 0 0, .slice none 0 0] 32)).cell? ⟨W5.heap.size, 1, none⟩ = some (.slice (some ⟨W4.heap.size, 0, none⟩) 2 2) := (X13.al _).2 1 _ rfl
      have X14_0 : (U1.alloc (.cells #[.int .u64 0, .int .u64 0, .slice none 0 0, .slice none 0 0, .slice none 0 0] 32)).cell? ⟨W7.heap.size + 1 + 1, 0, none⟩ = some (.int .u64 0) := (X14.al _).2 0 _ rfl
      have X14_1 : (U1.alloc (.cells #[.int .u64 0, .int .u64 0, .slice none 0 0, .slice none 0 0, .slice none 0 0] 32)).cell? ⟨W7.heap.size + 1 + 1, 1, none⟩ = some (.int .u64 0) := (X14.al _).2 1 _ rfl
      have X14_2 : (U1.alloc (.cells #[.int .u64 0, .int .u64 0, .slice none 0 0, .slice none 0 0, .slice none 0 0] 32)).cell? ⟨W7.heap.size + 1 + 1, 2, none⟩ = some (.slice none 0 0) := (X14.al _).2 2 _ rfl
      have X14_3 : (U1.alloc (.cells #[.int .u64 0, .int .u64 0, .slice none 0 0, .slice none 0 0, .slice none 0 0] 32)).cell? ⟨W7.heap.size + 1 + 1, 3, none⟩ = some (.slice none 0 0) := (X14.al _).2 3 _ rfl
      have X14_4 : (U1.alloc (.cells #[.int .u64 0, .int .u64 0, .slice none 0 0, .slice none 0 0, .slice none 0 0] 32)).cell? ⟨W7.heap.size + 1 + 1, 4, none⟩ = some (.slice (some ⟨W7.heap.size + 1, 0, none⟩) 2 2) := (X14.al _).2 4 _ rfl
      have X15_0 : (U1.alloc (.cells #[.int .u64 0, .int .u64 0, .slice none 0 0, .slice none 0 0, .slice none 0 0] 32)).cell? ⟨W9.heap.size + 1 + 1, 0, none⟩ = some (.int .u64 0) := (X15.al _).2 0 _ rfl
      have X15_1 : (U1.alloc (.cells #[.int .u64 0, .int .u64 0, .slice none 0 0, .slice none 0 0, .slice none 0 0] 32)).cell? ⟨W9.heap.size + 1 + 1, 1, none⟩ = some (.int .u64 0) := (X15.al _).2 1 _ rfl
      have X15_2 : (U1.alloc (.cells #[.int .u64 0, .int .u64 0, .slice none 0 0, .slice none 0 0, .slice none 0 0] 32)).cell? ⟨W9.heap.size + 1 + 1, 2, none⟩ = some (.slice none 0 0) := (X15.al _).2 2 _ rfl
      have X15_3 : (U1.alloc (.cells #[.int .u64 0, .int .u64 0, .slice none 0 0, .slice none 0 0, .slice none 0 0] 32)).cell? ⟨W9.heap.size + 1 + 1, 3, none⟩ = some (.slice none 0 0) := (X15.al _).2 3 _ rfl
      have X15_4 : (U1.alloc (.cells #[.int .u64 0, .int .u64 0, .slice none 0 0, .slice none 0 0, .slice none 0 0] 32)).cell? ⟨W9.heap.size + 1 + 1, 4, none⟩ = some (.slice (some ⟨W9.heap.size + 1, 0, none⟩) 2 2) := (X15.al _).2 4 _ rfl
      have HE4 := Lib.hid (fun W => is_any 14 14 W)
      rw [decide_eq_true rfl] at HE4
      unfold errV at HE4
      have BZ : Below w.heap.size w (U1.alloc (.cells #[.int .u64 0, .int .u64 0, .slice none 0 0, .slice none 0 0, .slice none 0 0] 32)) := belAl BU1
      have bZ : Below VA.heap.size VA (U1.alloc (.cells #[.int .u64 0, .int .u64 0, .slice none 0 0, .slice none 0 0, .slice none 0 0] 32)) := belAl bU1
      go_wp2_with fail
      refine (HI1.out _ bZ).mono ?_
      rintro e U2 ⟨rfl, bU2⟩
      replace X13_0 : U2.cell? ⟨W5.heap.size, 0, none⟩ = some (.int .i64 5) := ((X13.al _).later bU2).2 0 _ rfl
      replace X13_1 : U2.cell? ⟨W5.heap.size, 1, none⟩ = some (.slice (some ⟨W4.heap.size, 0, none⟩) 2 2) := ((X13.al _).later bU2).2 1 _ rfl
      replace X14_0 : U2.cell? ⟨W7.heap.size + 1 + 1, 0, none⟩ = some (.int .u64 0) := ((X14.al _).later bU2).2 0 _ rfl
      replace X14_1 : U2.cell? ⟨W7.heap.size + 1 + 1, 1, none⟩ = some (.int .u64 0) := ((X14.al _).later bU2).2 1 _ rfl
      replace X14_2 : U2.cell? ⟨W7.heap.size + 1 + 1, 2, none⟩ = some (.slice none 0 0) := ((X14.al _).later bU2).2 2 _ rfl
      replace X14_3 : U2.cell? ⟨W7.heap.size + 1 + 1, 3, none⟩ = some (.slice none 0 0) := ((X14.al _).later bU2).2 3 _ rfl
      replace X14_4 : U2.cell? ⟨W7.heap.size + 1 + 1, 4, none⟩ = some (.slice (some ⟨W7.heap.size + 1, 0, none⟩) 2 2) := ((X14.al _).later bU2).2 4 _ rfl
      replace X15_0 : U2.cell? ⟨W9.heap.size + 1 + 1, 0, none⟩ = some (.int .u64 0) := ((X15.al _).later bU2).2 0 _ rfl
      replace X15_1 : U2.cell? ⟨W9.heap.size + 1 + 1, 1, none⟩ = some (.int .u64 0) := ((X15.al _).later bU2).2 1 _ rfl
      replace X15_2 : U2.cell? ⟨W9.heap.size + 1 + 1, 2, none⟩ = some (.slice none 0 0) := ((X15.al _).later bU2).2 2 _ rfl
      replace X15_3 : U2.cell? ⟨W9.heap.size + 1 + 1, 3, none⟩ = some (.slice none 0 0) := ((X15.al _).later bU2).2 3 _ rfl
      replace X15_4 : U2.cell? ⟨W9.heap.size + 1 + 1, 4, none⟩ = some (.slice (some ⟨W9.heap.size + 1, 0, none⟩) 2 2) := ((X15.al _).later bU2).2 4 _ rfl
      have BU2 : Below w.heap.size w U2 := BZ.trans (bU2.mono BZ.size)
      have bU2' : Below VA.heap.size VA U2 := bZ.trans (bU2.mono bZ.size)
      go_wp2_with fail
      refine (HI2.out _ bU2').mono ?_
      rintro e U3 ⟨rfl, bU3⟩
      clear X13_0 X13_1 X14_0 X14_1 X14_2 X14_3 X14_4 X15_0 X15_1 X15_2 X15_3 X15_4
      go_wp2_with fail
      refine (HE4.out _).mono ?_
      rintro e U4 ⟨rfl, bU4⟩
      go_wp2_with fail
      go_ret
      exact ⟨rfl, (BU2.trans (bU3.mono BU2.size)).trans (bU4.mono (BU2.trans (bU3.mono BU2.size)).size)⟩
    | true =>
      obtain ⟨⟨zn, zm, zsA, zsc, zss, zcA, zcc, zcs, zvA, zvc, zvs⟩, rfl, hze, hzi, bU1⟩ := retK_ok hr (HO2.out.trans (if_pos ⟨rfl, rfl⟩))
      obtain ⟨vb, vo, zc, v2b, v2o, k2, tA, tc, hv1, hvb, hv2b, k0, k1, k2', k3, hlt, hln⟩ := pair_at (inn hzi) hze
      simp only [V4.Vl.v1] at hv1
      simp only [val_mk]
      rw [hv1]
      clear hr HJ hze hzi hv1
      have HK := Lib.hid (And.intro (And.intro hvb hv2b) (And.intro (And.intro k0 k1) (And.intro k2' k3)))
      have HLT := Lib.hid hlt
      clear hvb hv2b k0 k1 k2' k3 hlt
      replace X13 := X13.later bU1
      replace X14 := X14.later bU1
      replace X15 := X15.later bU1
      have BU1 : Below w.heap.size w U1 := BVA.trans (bU1.mono BVA.size)
      obtain ⟨U2, hU2⟩ : ∃ U2, (U1.alloc (.cells #[.int .u64 zn, .int .u64 zm, .slice zsA zss.length zsc, .slice zcA zcs.length zcc, .slice (some ⟨vb, vo, none⟩) 2 zc] 32)) = U2 := ⟨_, rfl⟩
      have bU2 : Below U1.heap.size U1 U2 := by rw [← hU2]; exact belAl (Below.refl _ _)
      have X16 : Bxd U2 (U1.heap.size) #[.int .u64 zn, .int .u64 zm, .slice zsA zss.length zsc, .slice zcA zcs.length zcc, .slice (some ⟨vb, vo, none⟩) 2 zc] := by
        rw [← hU2]
        have := V4.Bxd.new (W := U1) (cs := #[.int .u64 zn, .int .u64 zm, .slice zsA zss.length zsc, .slice zcA zcs.length zcc, .slice (some ⟨vb, vo, none⟩) 2 zc]) (t := 32)
        exact this
      replace X13 := X13.later bU2
      replace X14 := X14.later bU2
      replace X15 := X15.later bU2
      have BU2 : Below w.heap.size w U2 := BU1.trans (bU2.mono BU1.size)
      have l12 : U2.cell? ⟨W5.heap.size, 0, none⟩ = some (.int .i64 5) := X13.2 0 _ rfl
      have l13 : U2.cell? ⟨W5.heap.size, 1, none⟩ = some (.slice (some ⟨W4.heap.size, 0, none⟩) 2 2) := X13.2 1 _ rfl
      have l14 : U2.cell? ⟨W7.heap.size + 1 + 1, 0, none⟩ = some (.int .u64 0) := X14.2 0 _ rfl
      have l15 : U2.cell? ⟨W7.heap.size + 1 + 1, 1, none⟩ = some (.int .u64 0) := X14.2 1 _ rfl
      have l16 : U2.cell? ⟨W7.heap.size + 1 + 1, 2, none⟩ = some (.slice none 0 0) := X14.2 2 _ rfl
      have l17 : U2.cell? ⟨W7.heap.size + 1 + 1, 3, none⟩ = some (.slice none 0 0) := X14.2 3 _ rfl
      have l18 : U2.cell? ⟨W7.heap.size + 1 + 1, 4, none⟩ = some (.slice (some ⟨W7.heap.size + 1, 0, none⟩) 2 2) := X14.2 4 _ rfl
      have l19 : U2.cell? ⟨W9.heap.size + 1 + 1, 0, none⟩ = some (.int .u64 0) := X15.2 0 _ rfl
      have l20 : U2.cell? ⟨W9.heap.size + 1 + 1, 1, none⟩ = some (.int .u64 0) := X15.2 1 _ rfl
      have l21 : U2.cell? ⟨W9.heap.size + 1 + 1, 2, none⟩ = some (.slice none 0 0) := X15.2 2 _ rfl
      have l22 : U2.cell? ⟨W9.heap.size + 1 + 1, 3, none⟩ = some (.slice none 0 0) := X15.2 3 _ rfl
      have l23 : U2.cell? ⟨W9.heap.size + 1 + 1, 4, none⟩ = some (.slice (some ⟨W9.heap.size + 1, 0, none⟩) 2 2) := X15.2 4 _ rfl
      have bVU : Below VA.heap.size VA U2 := bU1.trans (bU2.mono bU1.size)
      go_wp2_with fail
      refine (HI1.out _ bVU).mono ?_
      rintro e U3 ⟨rfl, bU3⟩
      clear hU2
      clear l12 l13 l14 l15 l16 l17 l18 l19 l20 l21 l22 l23
      replace X13 := X13.later bU3
      replace X14 := X14.later bU3
      replace X15 := X15.later bU3
      replace X16 := X16.later bU3
      have BU3 : Below w.heap.size w U3 := BU2.trans (bU3.mono BU2.size)
      have l24 : U3.cell? ⟨W5.heap.size, 0, none⟩ = some (.int .i64 5) := X13.2 0 _ rfl
      have l25 : U3.cell? ⟨W5.heap.size, 1, none⟩ = some (.slice (some ⟨W4.heap.size, 0, none⟩) 2 2) := X13.2 1 _ rfl
      have l26 : U3.cell? ⟨W9.heap.size + 1 + 1, 0, none⟩ = some (.int .u64 0) := X15.2 0 _ rfl
      have l27 : U3.cell? ⟨W9.heap.size + 1 + 1, 1, none⟩ = some (.int .u64 0) := X15.2 1 _ rfl
      have l28 : U3.cell? ⟨W9.heap.size + 1 + 1, 2, none⟩ = some (.slice none 0 0) := X15.2 2 _ rfl
      have l29 : U3.cell? ⟨W9.heap.size + 1 + 1, 3, none⟩ = some (.slice none 0 0) := X15.2 3 _ rfl
      have l30 : U3.cell? ⟨W9.heap.size + 1 + 1, 4, none⟩ = some (.slice (some ⟨W9.heap.size + 1, 0, none⟩) 2 2) := X15.2 4 _ rfl
      have bVU3 : Below VA.heap.size VA U3 := bVU.trans (bU3.mono bVU.size)
      go_wp2_with fail
      refine (HI2.out _ bVU3).mono ?_
      rintro e U4 ⟨rfl, bU4⟩
      clear l24 l25 l26 l27 l28 l29 l30
      replace X13 := X13.later bU4
      replace X14 := X14.later bU4
      replace X15 := X15.later bU4
      replace X16 := X16.later bU4
      have BU4 : Below w.heap.size w U4 := BU3.trans (bU4.mono BU3.size)
      have B14 : Below U1.heap.size U1 U4 := bU2.trans ((bU3.trans (bU4.mono bU3.size)).mono bU2.size)
      go_upto_region 11 with fail
      have HSS : Hid (∀ W, Below U4.heap.size U4 W → (fun w' => w'.cell? ⟨U1.heap.size, 4, none⟩ = some (.slice (some ⟨vb, vo, none⟩) 2 zc) ∧ w'.cell? ⟨vb, vo, none⟩ = some (.int .u64 (max a b)) ∧ w'.cell? ⟨vb, vo + 5 + 4, none⟩ = some (.slice (some ⟨v2b, v2o, none⟩) 2 k2) ∧ w'.cell? ⟨v2b, v2o + 2, none⟩ = some (.slice tA al.length tc) ∧ w'.cell? ⟨v2b, v2o + 5, none⟩ = some (.int .u64 (max c d))) W) := fun W hW => by
        have hb := B14.trans (hW.mono B14.size)
        exact ⟨(X16.later hW).2 4 _ rfl, (hb.cell (p := ⟨vb, vo, none⟩) HK.out.1.1).trans HK.out.2.1.1, (hb.cell (p := ⟨vb, vo + 5 + 4, none⟩) HK.out.1.1).trans HK.out.2.1.2, (hb.cell (p := ⟨v2b, v2o + 2, none⟩) HK.out.1.2).trans HK.out.2.2.1, (hb.cell (p := ⟨v2b, v2o + 5, none⟩) HK.out.1.2).trans HK.out.2.2.2⟩
      have HT : Hid (∀ (B B' : Option Addr) (e e' : Nat) W, Below U4.heap.size U4 W → Lies W B' al → Calls Tryz.prog 18 #[.slice tA al.length tc, .slice B' al.length e'] W (RetV W (.bool true))) := fun B B' e e' W hW h2 => V4.sameTexts_V tA B' tc e' al al true W (HLT.out.below (B14.trans (hW.mono B14.size))) h2 (by unfold maxLen; omega) (decide_eq_true rfl)
      have HBW : Hid (Below U4.heap.size U4 U4.drew) := (Below.refl _ _).drew
      refine wp_region_noPanic ?_
      refine wp_region_held_drew (S := (fun w' => w'.cell? ⟨U1.heap.size, 4, none⟩ = some (.slice (some ⟨vb, vo, none⟩) 2 zc) ∧ w'.cell? ⟨vb, vo, none⟩ = some (.int .u64 (max a b)) ∧ w'.cell? ⟨vb, vo + 5 + 4, none⟩ = some (.slice (some ⟨v2b, v2o, none⟩) 2 k2) ∧ w'.cell? ⟨v2b, v2o + 2, none⟩ = some (.slice tA al.length tc) ∧ w'.cell? ⟨v2b, v2o + 5, none⟩ = some (.int .u64 (max c d)))) (by kernel_rfl) ?_ (fun hHeld => ?_)
      · exact HSS.out _ HBW.out
      refine V4.takeH 0 77 (v := ?q1_v0) rfl rfl (by kernel_rfl) (by kernel_rfl) (by kernel_rfl) (fun _ _ _ h => h) (Or.inl ⟨by rfl, ?q1_h0⟩) (by assumption) ?q1_r0
      case q1_h0 => (intro w hSw; (try dsimp only at hSw); go_simp; try (with_reducible rfl))
      simp only [List.set_cons_zero, List.set_cons_succ]
      refine V4.takeH 1 78 (v := ?q1_v1) rfl rfl (by kernel_rfl) (by kernel_rfl) (by kernel_rfl) (fun _ _ _ h => h) (Or.inl ⟨by rfl, ?q1_h1⟩) (by assumption) ?q1_r1
      case q1_h1 => (intro w hSw; (try dsimp only at hSw); go_simp; try (with_reducible rfl))
      simp only [List.set_cons_zero, List.set_cons_succ]
      refine V4.takeH 2 79 (v := ?q1_v2) rfl rfl (by kernel_rfl) (by kernel_rfl) (by kernel_rfl) (fun _ _ _ h => h) (Or.inl ⟨by rfl, ?q1_h2⟩) (by assumption) ?q1_r2
      case q1_h2 => (intro w hSw; (try dsimp only at hSw); go_simp; try (with_reducible rfl))
      simp only [List.set_cons_zero, List.set_cons_succ]
      refine V4.takeH 3 80 (v := ?q1_v3) rfl rfl (by kernel_rfl) (by kernel_rfl) (by kernel_rfl) (fun _ _ _ h => h) (Or.inl ⟨by rfl, ?q1_h3⟩) (by assumption) ?q1_r3
      case q1_h3 => (intro w hSw; (try dsimp only at hSw); go_simp; try (with_reducible rfl))
      simp only [List.set_cons_zero, List.set_cons_succ]
      refine V4.takeH 4 81 (v := ?q1_v4) rfl rfl (by kernel_rfl) (by kernel_rfl) (by kernel_rfl) (fun _ _ _ h => h) (Or.inl ⟨by rfl, ?q1_h4⟩) (by assumption) ?q1_r4
      case q1_h4 => (intro w hSw; (try dsimp only at hSw); go_simp; try (with_reducible rfl))
      simp only [List.set_cons_zero, List.set_cons_succ]
      refine V4.takeH 5 82 (v := ?q1_v5) rfl rfl (by kernel_rfl) (by kernel_rfl) (by kernel_rfl) (fun _ _ _ h => h) (Or.inl ⟨by rfl, ?q1_h5⟩) (by assumption) ?q1_r5
      case q1_h5 => (intro w hSw; (try dsimp only at hSw); go_simp; try (with_reducible rfl))
      simp only [List.set_cons_zero, List.set_cons_succ]
      refine V4.takeH 6 83 (v := ?q1_v6) rfl rfl (by kernel_rfl) (by kernel_rfl) (by kernel_rfl) (fun _ _ _ h => h) (Or.inl ⟨by rfl, ?q1_h6⟩) (by assumption) ?q1_r6
      case q1_h6 => (intro w hSw; (try dsimp only at hSw); go_simp; try (with_reducible rfl))
      simp only [List.set_cons_zero, List.set_cons_succ]
      refine V4.takeH 7 84 (v := ?q1_v7) rfl rfl (by kernel_rfl) (by kernel_rfl) (by kernel_rfl) (fun _ _ _ h => h) (Or.inl ⟨by rfl, ?q1_h7⟩) (by assumption) ?q1_r7
      case q1_h7 => (intro w hSw; (try dsimp only at hSw); go_simp; try (with_reducible rfl))
      simp only [List.set_cons_zero, List.set_cons_succ]
      refine V4.takeH 8 85 (v := ?q1_v8) rfl rfl (by kernel_rfl) (by kernel_rfl) (by kernel_rfl) (fun _ _ _ h => h) (Or.inl ⟨by rfl, ?q1_h8⟩) (by assumption) ?q1_r8
      case q1_h8 => (intro w hSw; (try dsimp only at hSw); go_simp; try (with_reducible rfl))
      simp only [List.set_cons_zero, List.set_cons_succ]
      refine V4.takeH 9 86 (v := ?q1_v9) rfl rfl (by kernel_rfl) (by kernel_rfl) (by kernel_rfl) (fun _ _ _ h => h) (Or.inl ⟨by rfl, ?q1_h9⟩) (by assumption) ?q1_r9
      case q1_h9 => (intro w hSw; (try dsimp only at hSw); go_simp; try (with_reducible rfl))
      simp only [List.set_cons_zero, List.set_cons_succ]
      refine V4.takeH 10 87 (v := ?q1_v10) rfl rfl (by kernel_rfl) (by kernel_rfl) (by kernel_rfl) (fun _ _ _ h => h) (Or.inl ⟨by rfl, ?q1_h10⟩) (by assumption) ?q1_r10
      case q1_h10 => (intro w hSw; (try dsimp only at hSw); go_simp; try (with_reducible rfl))
      simp only [List.set_cons_zero, List.set_cons_succ]
      refine V4.takeH 11 88 (v := ?q1_v11) rfl rfl (by kernel_rfl) (by kernel_rfl) (by kernel_rfl) (fun _ _ _ h => h) (Or.inl ⟨by rfl, ?q1_h11⟩) (by assumption) ?q1_r11
      case q1_h11 => (intro w hSw; (try dsimp only at hSw); go_simp; try (with_reducible rfl))
      simp only [List.set_cons_zero, List.set_cons_succ]
      refine V4.takeH 12 89 (v := ?q1_v12) rfl rfl (by kernel_rfl) (by kernel_rfl) (by kernel_rfl) (fun _ _ _ h => h) (Or.inl ⟨by rfl, ?q1_h12⟩) (by assumption) ?q1_r12
      case q1_h12 => (intro w hSw; (try dsimp only at hSw); go_simp; try (with_reducible rfl))
      simp only [List.set_cons_zero, List.set_cons_succ]
      refine V4.takeH 13 90 (v := ?q1_v13) rfl rfl (by kernel_rfl) (by kernel_rfl) (by kernel_rfl) (fun _ _ _ h => h) (Or.inl ⟨by rfl, ?q1_h13⟩) (by assumption) ?q1_r13
      case q1_h13 => (intro w hSw; (try dsimp only at hSw); go_simp; try (with_reducible rfl))
      simp only [List.set_cons_zero, List.set_cons_succ]
      refine V4.takeH 14 91 (v := ?q1_v14) rfl rfl (by kernel_rfl) (by kernel_rfl) (by kernel_rfl) (fun _ _ _ h => h) (Or.inl ⟨by rfl, ?q1_h14⟩) (by assumption) ?q1_r14
      case q1_h14 => (intro w hSw; (try dsimp only at hSw); go_simp; try (with_reducible rfl))
      simp only [List.set_cons_zero, List.set_cons_succ]
      refine V4.takeH 15 92 (v := ?q1_v15) rfl rfl (by kernel_rfl) (by kernel_rfl) (by kernel_rfl) (fun _ _ _ h => h) (Or.inl ⟨by rfl, ?q1_h15⟩) (by assumption) ?q1_r15
      case q1_h15 => (intro w hSw; (try dsimp only at hSw); go_simp; try (with_reducible rfl))
      simp only [List.set_cons_zero, List.set_cons_succ]
      refine V4.takeH 16 93 (v := ?q1_v16) rfl rfl (by kernel_rfl) (by kernel_rfl) (by kernel_rfl) (fun _ _ _ h => h) (Or.inl ⟨by rfl, ?q1_h16⟩) (by assumption) ?q1_r16
      case q1_h16 => (intro w hSw; (try dsimp only at hSw); go_simp; try (with_reducible rfl))
      simp only [List.set_cons_zero, List.set_cons_succ]
      refine V4.takeH 17 94 (v := ?q1_v17) rfl rfl (by kernel_rfl) (by kernel_rfl) (by kernel_rfl) (fun _ _ _ h => h) (Or.inl ⟨by rfl, ?q1_h17⟩) (by assumption) ?q1_r17
      case q1_h17 => (intro w hSw; (try dsimp only at hSw); go_simp; try (with_reducible rfl))
      simp only [List.set_cons_zero, List.set_cons_succ]
      refine V4.takeH 18 95 (v := ?q1_v18) rfl rfl (by kernel_rfl) (by kernel_rfl) (by kernel_rfl) (fun _ _ _ h => h) (Or.inl ⟨by rfl, ?q1_h18⟩) (by assumption) ?q1_r18
      case q1_h18 => (intro w hSw; (try dsimp only at hSw); go_simp; try (with_reducible rfl))
      simp only [List.set_cons_zero, List.set_cons_succ]
      refine V4.takeH 19 96 (v := ?q1_v19) rfl rfl (by kernel_rfl) (by kernel_rfl) (by kernel_rfl) (fun _ _ _ h => h) (Or.inl ⟨by rfl, ?q1_h19⟩) (by assumption) ?q1_r19
      case q1_h19 => (intro w hSw; (try dsimp only at hSw); go_simp; try (with_reducible rfl))
      simp only [List.set_cons_zero, List.set_cons_succ]
      refine V4.takeH 20 97 (v := ?q1_v20) rfl rfl (by kernel_rfl) (by kernel_rfl) (by kernel_rfl) (fun _ _ _ h => h) (Or.inl ⟨by rfl, ?q1_h20⟩) (by assumption) ?q1_r20
      case q1_h20 => (intro w hSw; (try dsimp only at hSw); go_simp; try (with_reducible rfl))
      simp only [List.set_cons_zero, List.set_cons_succ]
      refine V4.takeH 21 98 (v := ?q1_v21) rfl rfl (by kernel_rfl) (by kernel_rfl) (by kernel_rfl) (fun _ _ _ h => h) (Or.inl ⟨by rfl, ?q1_h21⟩) (by assumption) ?q1_r21
      case q1_h21 => (intro w hSw; (try dsimp only at hSw); go_simp; try (with_reducible rfl))
      simp only [List.set_cons_zero, List.set_cons_succ]
      refine V4.takeH 22 99 (v := ?q1_v22) rfl rfl (by kernel_rfl) (by kernel_rfl) (by kernel_rfl) (fun _ _ _ h => h) (Or.inl ⟨by rfl, ?q1_h22⟩) (by assumption) ?q1_r22
      case q1_h22 => (intro w hSw; (try dsimp only at hSw); go_simp; try (with_reducible rfl))
      simp only [List.set_cons_zero, List.set_cons_succ]
      refine V4.takeH 23 100 (v := ?q1_v23) rfl rfl (by kernel_rfl) (by kernel_rfl) (by kernel_rfl) (fun _ _ _ h => h) (Or.inl ⟨by rfl, ?q1_h23⟩) (by assumption) ?q1_r23
      case q1_h23 => (intro w hSw; (try dsimp only at hSw); go_simp; try (with_reducible rfl))
      simp only [List.set_cons_zero, List.set_cons_succ]
      refine V4.takeH 24 101 (v := ?q1_v24) rfl rfl (by kernel_rfl) (by kernel_rfl) (by kernel_rfl) (fun _ _ _ h => h) (Or.inl ⟨by rfl, ?q1_h24⟩) (by assumption) ?q1_r24
      case q1_h24 => (intro w hSw; (try dsimp only at hSw); go_simp; try (with_reducible rfl))
      simp only [List.set_cons_zero, List.set_cons_succ]
      refine V4.takeH 25 102 (v := ?q1_v25) rfl rfl (by kernel_rfl) (by kernel_rfl) (by kernel_rfl) (fun _ _ _ h => h) (Or.inl ⟨by rfl, ?q1_h25⟩) (by assumption) ?q1_r25
      case q1_h25 => (intro w hSw; (try dsimp only at hSw); go_simp; try (with_reducible rfl))
      simp only [List.set_cons_zero, List.set_cons_succ]
      refine V4.takeH 26 103 (v := ?q1_v26) rfl rfl (by kernel_rfl) (by kernel_rfl) (by kernel_rfl) (fun _ _ _ h => h) (Or.inl ⟨by rfl, ?q1_h26⟩) (by assumption) ?q1_r26
      case q1_h26 => (intro w hSw; (try dsimp only at hSw); go_simp; try (with_reducible rfl))
      simp only [List.set_cons_zero, List.set_cons_succ]
      refine V4.takeH 27 104 (v := ?q1_v27) rfl rfl (by kernel_rfl) (by kernel_rfl) (by kernel_rfl) (fun _ _ _ h => h) (Or.inl ⟨by rfl, ?q1_h27⟩) (by assumption) ?q1_r27
      case q1_h27 => (intro w hSw; (try dsimp only at hSw); go_simp; try (with_reducible rfl))
      simp only [List.set_cons_zero, List.set_cons_succ]
      refine V4.takeH 28 105 (v := ?q1_v28) rfl rfl (by kernel_rfl) (by kernel_rfl) (by kernel_rfl) (fun _ _ _ h => h) (Or.inl ⟨by rfl, ?q1_h28⟩) (by assumption) ?q1_r28
      case q1_h28 => (intro w hSw; (try dsimp only at hSw); go_simp; try (with_reducible rfl))
      simp only [List.set_cons_zero, List.set_cons_succ]
      refine V4.takeH 29 106 (v := ?q1_v29) rfl rfl (by kernel_rfl) (by kernel_rfl) (by kernel_rfl) (fun _ _ _ h => h) (Or.inl ⟨by rfl, ?q1_h29⟩) (by assumption) ?q1_r29
      case q1_h29 => (intro w hSw; (try dsimp only at hSw); go_simp; try (with_reducible rfl))
      simp only [List.set_cons_zero, List.set_cons_succ]
      refine V4.takeH 30 107 (v := ?q1_v30) rfl rfl (by kernel_rfl) (by kernel_rfl) (by kernel_rfl) (fun _ _ _ h => h) (Or.inl ⟨by rfl, ?q1_h30⟩) (by assumption) ?q1_r30
      case q1_h30 => (intro w hSw; (try dsimp only at hSw); go_simp; try (with_reducible rfl))
      simp only [List.set_cons_zero, List.set_cons_succ]
      refine V4.takeH 31 108 (v := ?q1_v31) rfl rfl (by kernel_rfl) (by kernel_rfl) (by kernel_rfl) (fun _ _ _ h => h) (Or.inl ⟨by rfl, ?q1_h31⟩) (by assumption) ?q1_r31
      case q1_h31 => (intro w hSw; (try dsimp only at hSw); go_simp; try (with_reducible rfl))
      simp only [List.set_cons_zero, List.set_cons_succ]
      refine V4.takeH 32 109 (v := ?q1_v32) rfl rfl (by kernel_rfl) (by kernel_rfl) (by kernel_rfl) (fun _ _ _ h => h) (Or.inl ⟨by rfl, ?q1_h32⟩) (by assumption) ?q1_r32
      case q1_h32 => (intro w hSw; (try dsimp only at hSw); go_simp; try (with_reducible rfl))
      simp only [List.set_cons_zero, List.set_cons_succ]
      refine V4.takeH 33 110 (v := ?q1_v33) rfl rfl (by kernel_rfl) (by kernel_rfl) (by kernel_rfl) (fun _ _ _ h => h) (Or.inl ⟨by rfl, ?q1_h33⟩) (by assumption) ?q1_r33
      case q1_h33 => (intro w hSw; (try dsimp only at hSw); go_simp; try (with_reducible rfl))
      simp only [List.set_cons_zero, List.set_cons_succ]
      refine V4.takeH 34 111 (v := ?q1_v34) rfl rfl (by kernel_rfl) (by kernel_rfl) (by kernel_rfl) (fun _ _ _ h => h) (Or.inl ⟨by rfl, ?q1_h34⟩) (by assumption) ?q1_r34
      case q1_h34 => (intro w hSw; (try dsimp only at hSw); go_simp; try (with_reducible rfl))
      simp only [List.set_cons_zero, List.set_cons_succ]
      refine V4.takeH 35 112 (v := ?q1_v35) rfl rfl (by kernel_rfl) (by kernel_rfl) (by kernel_rfl) (fun _ _ _ h => h) (Or.inl ⟨by rfl, ?q1_h35⟩) (by assumption) ?q1_r35
      case q1_h35 => (intro w hSw; (try dsimp only at hSw); go_simp; try (with_reducible rfl))
      simp only [List.set_cons_zero, List.set_cons_succ]
      refine V4.takeH 36 113 (v := ?q1_v36) rfl rfl (by kernel_rfl) (by kernel_rfl) (by kernel_rfl) (fun _ _ _ h => h) (Or.inl ⟨by rfl, ?q1_h36⟩) (by assumption) ?q1_r36
      case q1_h36 => (intro w hSw; (try dsimp only at hSw); go_simp; try (with_reducible rfl))
      simp only [List.set_cons_zero, List.set_cons_succ]
      refine V4.takeH 37 114 (v := ?q1_v37) rfl rfl (by kernel_rfl) (by kernel_rfl) (by kernel_rfl) (fun _ _ _ h => h) (Or.inl ⟨by rfl, ?q1_h37⟩) (by assumption) ?q1_r37
      case q1_h37 => (intro w hSw; (try dsimp only at hSw); go_simp; try (with_reducible rfl))
      simp only [List.set_cons_zero, List.set_cons_succ]
      refine V4.takeH 38 115 (v := ?q1_v38) rfl rfl (by kernel_rfl) (by kernel_rfl) (by kernel_rfl) (fun _ _ _ h => h) (Or.inl ⟨by rfl, ?q1_h38⟩) (by assumption) ?q1_r38
      case q1_h38 => (intro w hSw; (try dsimp only at hSw); go_simp; try (with_reducible rfl))
      simp only [List.set_cons_zero, List.set_cons_succ]
      refine V4.takeH 39 116 (v := ?q1_v39) rfl rfl (by kernel_rfl) (by kernel_rfl) (by kernel_rfl) (fun _ _ _ h => h) (Or.inl ⟨by rfl, ?q1_h39⟩) (by assumption) ?q1_r39
      case q1_h39 => (intro w hSw; (try dsimp only at hSw); go_simp; try (with_reducible rfl))
      simp only [List.set_cons_zero, List.set_cons_succ]
      refine V4.takeH 40 117 (v := ?q1_v40) rfl rfl (by kernel_rfl) (by kernel_rfl) (by kernel_rfl) (fun _ _ _ h => h) (Or.inl ⟨by rfl, ?q1_h40⟩) (by assumption) ?q1_r40
      case q1_h40 => (intro w hSw; (try dsimp only at hSw); go_simp; try (with_reducible rfl))
      simp only [List.set_cons_zero, List.set_cons_succ]
      refine V4.takeH 41 118 (v := ?q1_v41) rfl rfl (by kernel_rfl) (by kernel_rfl) (by kernel_rfl) (fun _ _ _ h => h) (Or.inl ⟨by rfl, ?q1_h41⟩) (by assumption) ?q1_r41
      case q1_h41 => (intro w hSw; (try dsimp only at hSw); go_simp; try (with_reducible rfl))
      simp only [List.set_cons_zero, List.set_cons_succ]
      refine V4.takeH 42 119 (v := ?q1_v42) rfl rfl (by kernel_rfl) (by kernel_rfl) (by kernel_rfl) (fun _ _ _ h => h) (Or.inl ⟨by rfl, ?q1_h42⟩) (by assumption) ?q1_r42
      case q1_h42 => (intro w hSw; (try dsimp only at hSw); go_simp; try (with_reducible rfl))
      simp only [List.set_cons_zero, List.set_cons_succ]
      refine V4.takeH 43 120 (v := ?q1_v43) rfl rfl (by kernel_rfl) (by kernel_rfl) (by kernel_rfl) (fun _ _ _ h => h) (Or.inl ⟨by rfl, ?q1_h43⟩) (by assumption) ?q1_r43
      case q1_h43 => (intro w hSw; (try dsimp only at hSw); go_simp; try (with_reducible rfl))
      simp only [List.set_cons_zero, List.set_cons_succ]
      refine V4.takeH 44 121 (v := ?q1_v44) rfl rfl (by kernel_rfl) (by kernel_rfl) (by kernel_rfl) (fun _ _ _ h => h) (Or.inl ⟨by rfl, ?q1_h44⟩) (by assumption) ?q1_r44
      case q1_h44 => (intro w hSw; (try dsimp only at hSw); go_simp; try (with_reducible rfl))
      simp only [List.set_cons_zero, List.set_cons_succ]
      refine V4.takeH 45 122 (v := ?q1_v45) rfl rfl (by kernel_rfl) (by kernel_rfl) (by kernel_rfl) (fun _ _ _ h => h) (Or.inl ⟨by rfl, ?q1_h45⟩) (by assumption) ?q1_r45
      case q1_h45 => (intro w hSw; (try dsimp only at hSw); go_simp; try (with_reducible rfl))
      simp only [List.set_cons_zero, List.set_cons_succ]
      refine V4.takeH 46 123 (v := ?q1_v46) rfl rfl (by kernel_rfl) (by kernel_rfl) (by kernel_rfl) (fun _ _ _ h => h) (Or.inl ⟨by rfl, ?q1_h46⟩) (by assumption) ?q1_r46
      case q1_h46 => (intro w hSw; (try dsimp only at hSw); go_simp; try (with_reducible rfl))
      simp only [List.set_cons_zero, List.set_cons_succ]
      refine V4.takeH 47 124 (v := ?q1_v47) rfl rfl (by kernel_rfl) (by kernel_rfl) (by kernel_rfl) (fun _ _ _ h => h) (Or.inl ⟨by rfl, ?q1_h47⟩) (by assumption) ?q1_r47
      case q1_h47 => (intro w hSw; (try dsimp only at hSw); go_simp; try (with_reducible rfl))
      simp only [List.set_cons_zero, List.set_cons_succ]
      refine V4.takeH 48 125 (v := ?q1_v48) rfl rfl (by kernel_rfl) (by kernel_rfl) (by kernel_rfl) (fun _ _ _ h => h) (Or.inl ⟨by rfl, ?q1_h48⟩) (by assumption) ?q1_r48
      case q1_h48 => (intro w hSw; (try dsimp only at hSw); go_simp; try (with_reducible rfl))
      simp only [List.set_cons_zero, List.set_cons_succ]
      refine V4.takeH 49 126 (v := ?q1_v49) rfl rfl (by kernel_rfl) (by kernel_rfl) (by kernel_rfl) (fun _ _ _ h => h) (Or.inl ⟨by rfl, ?q1_h49⟩) (by assumption) ?q1_r49
      case q1_h49 => (intro w hSw; (try dsimp only at hSw); go_simp; try (with_reducible rfl))
      simp only [List.set_cons_zero, List.set_cons_succ]
      refine V4.takeH 50 127 (v := ?q1_v50) rfl rfl (by kernel_rfl) (by kernel_rfl) (by kernel_rfl) (fun _ _ _ h => h) (Or.inl ⟨by rfl, ?q1_h50⟩) (by assumption) ?q1_r50
      case q1_h50 => (intro w hSw; (try dsimp only at hSw); go_simp; try (with_reducible rfl))
      simp only [List.set_cons_zero, List.set_cons_succ]
      refine V4.takeH 51 128 (v := ?q1_v51) rfl rfl (by kernel_rfl) (by kernel_rfl) (by kernel_rfl) (fun _ _ _ h => h) (Or.inl ⟨by rfl, ?q1_h51⟩) (by assumption) ?q1_r51
      case q1_h51 => (intro w hSw; (try dsimp only at hSw); go_simp; try (with_reducible rfl))
      simp only [List.set_cons_zero, List.set_cons_succ]
      refine V4.takeH 53 130 (v := ?q1_v53) rfl rfl (by kernel_rfl) (by kernel_rfl) (by kernel_rfl) (fun _ _ _ h => h) (Or.inl ⟨by rfl, ?q1_h53⟩) (by assumption) ?q1_r53
      case q1_h53 => (intro w hSw; (try dsimp only at hSw); go_simp; try (with_reducible rfl))
      simp only [List.set_cons_zero, List.set_cons_succ]
      refine wpAnyH_ready (rs := [52]) (by kernel_rfl) (by simp) ?_
      refine AllReadyH.cons rfl (fun K hK => ?_) AllReadyH.nil
      go_simp
      go_wp2_with ((go_at_call 20; refine (HCS.out _ ((BU4.trans (HBW.out.mono BU4.size)))).mono ?_; rintro e Y1 ⟨B1, e1, rfl, -, -, hq1, hbq⟩; (replace HBW := Lib.hid (HBW.out.trans (hbq.mono HBW.out.size)); have HQ1 := Lib.hid hq1; clear hbq hq1)))
      refine hK.out _ _ ?_ (fun hHeld => ?_)
      · exact HSS.out _ HBW.out
      clear hK K
      refine wpAnyH_ready (rs := [54]) (by kernel_rfl) (by simp) ?_
      refine AllReadyH.cons rfl (fun K hK => ?_) AllReadyH.nil
      go_simp
      go_wp2_with ((go_at_call 20; refine (HCT.out _ ((BU4.trans (HBW.out.mono BU4.size)))).mono ?_; rintro e Y2 ⟨B2, e2, rfl, -, -, hq2, hbq⟩; (replace HBW := Lib.hid (HBW.out.trans (hbq.mono HBW.out.size)); replace HQ1 := Lib.hid (HQ1.out.below hbq); have HQ2 := Lib.hid hq2; clear hbq hq2)))
      refine hK.out _ _ ?_ (fun hHeld => ?_)
      · exact HSS.out _ HBW.out
      clear hK K
      refine wpAnyH_ready (rs := [55]) (by kernel_rfl) (by simp) ?_
      refine AllReadyH.cons rfl (fun K hK => ?_) AllReadyH.nil
      go_simp
      go_wp2_with ((go_at_call 17; refine (HCB.out B1 B2 e1 e2 _ HQ1.out HQ2.out).mono ?_; rintro e Y3 ⟨B3, e3, rfl, -, -, hq3, hbq⟩; (replace HBW := Lib.hid (HBW.out.trans (hbq.mono HBW.out.size)); have HQ3 := Lib.hid hq3; clear hbq hq3)))
      refine hK.out _ _ ?_ (fun hHeld => ?_)
      · exact HSS.out _ HBW.out
      clear hK K
      refine wpAnyH_ready (rs := [56]) (by kernel_rfl) (by simp) ?_
      refine AllReadyH.cons rfl (fun K hK => ?_) AllReadyH.nil
      go_simp
      go_wp2_with ((go_at_call 18; refine (HT.out none B3 0 e3 _ HBW.out HQ3.out).mono ?_; rintro e Y4 ⟨rfl, hbq⟩; (replace HBW := Lib.hid (HBW.out.trans (hbq.mono HBW.out.size)); clear hbq)))
      refine hK.out _ _ ?_ (fun hHeld => ?_)
      · exact HSS.out _ HBW.out
      clear hK K
      refine V4.takeH 57 134 (v := ?q1_v57) rfl rfl (by kernel_rfl) (by kernel_rfl) (by kernel_rfl) (fun _ _ _ h => h) (Or.inl ⟨by rfl, ?q1_h57⟩) (by assumption) ?q1_r57
      case q1_h57 => (intro w hSw; (try dsimp only at hSw); go_simp; try (with_reducible rfl))
      simp only [List.set_cons_zero, List.set_cons_succ]
      refine V4.takeH 58 12 (v := ?q1_v58) rfl rfl (by kernel_rfl) (by kernel_rfl) (by kernel_rfl) (fun _ _ _ h => h) (Or.inl ⟨by rfl, ?q1_h58⟩) (by assumption) ?q1_r58
      case q1_h58 => (intro w hSw; (try dsimp only at hSw); go_simp; try (with_reducible rfl))
      simp only [List.set_cons_zero, List.set_cons_succ]
      refine wpAnyH_done (by kernel_rfl) ?_ _
      refine NoPanic.normal ?_
      go_wp2_with fail
      go_ret
      exact ⟨rfl, BU4.trans (HBW.out.mono BU4.size)⟩
end Go.Proofs.YtleejffjnknohaaGreat.J5

namespace Go.Proofs.YtleejffjnknohaaGreat
open Go.ChangeShapes Go.WideShapes Go.ChangeAt Go.RowKit
open V4 (open_texts lies_of_cells)

theorem u64_in {n : Int} (h : (Lit.int .u64 n).wf = true) : 0 ≤ n ∧ n ≤ 18446744073709551615 := by
  simp [Lit.wf] at h
  have e1 : IntKind.u64.min = 0 := by decide
  have e2 : IntKind.u64.max = 18446744073709551615 := by decide
  omega

set_option maxRecDepth 100000 in
theorem joinPairs_lifted (os : Os) (started : os.Started) (H : Type) (enc : TypeId × Value → H) :
    ReturnsInHanded {} Tryz.checked os 7 .any (Rows.joinPairsSpec.pre6 enc Tryz.prog Tryz.f7 Rows.joinPairsRow.domain false) (Rows.joinPairsSpec.post enc Tryz.prog Tryz.f7 false true false false) := by
  refine returnsInHanded_of_change_sized (C := Tryz.checked) (by kernel_rfl) started (by kernel_rfl) Tryz.func7
    (ChangeSpec.witness6 (enc := enc) (C := Tryz.checked) false ⟨#[], #[.int .u64 0, .int .u64 0, .int .u64 0, .int .u64 0, .slice none 0 0, .slice none 0 0], []⟩ 8 (by kernel_rfl) (by kernel_rfl) (by kernel_rfl) (by kernel_rfl)) ?_
  intro W base args ds gs before hval0 hW _ hsz0 _
  have hval : ∀ (j : Nat) t v, Tryz.f7.params[j]? = some t → args[j]? = some v → Value.okWide Tryz.prog W .any base t v := hval0
  have hsz : (DataW.weightsEach Tryz.prog (Tryz.f7.params.toList ++ Rows.joinPairsSpec.plain.varTypes Tryz.prog) (ds ++ gs)).all (· ≤ reachBytes) = true := hsz0
  have hW' := hW
  obtain ⟨p, q, hA0, hV, rfl, _, _⟩ := hW
  have hA : DataW.TrodAll enc Tryz.prog W 0 (fun _ => true) true Tryz.f7.params.toList args.toList ds p := hA0
  rw [Tryz.params7] at hA hval hsz
  obtain ⟨v0, vs0, d0, ds0, p0, q0, hargs, rfl, rfl, h0, r0⟩ := trodAll_cons hA
  obtain ⟨v1, vs1, d1, ds1, p1, q1, rfl, rfl, rfl, h1, r1⟩ := trodAll_cons r0
  obtain ⟨v2, vs2, d2, ds2, p2, q2, rfl, rfl, rfl, h2, r2⟩ := trodAll_cons r1
  obtain ⟨v3, vs3, d3, ds3, p3, q3, rfl, rfl, rfl, h3, r3⟩ := trodAll_cons r2
  obtain ⟨v4, vs4, d4, ds4, p4, q4, rfl, rfl, rfl, h4, r4⟩ := trodAll_cons r3
  obtain ⟨v5, vs5, d5, ds5, p5, q5, rfl, rfl, rfl, h5, r5⟩ := trodAll_cons r4
  obtain ⟨rfl, rfl, rfl⟩ := trodAll_nil r5
  obtain rfl : args = #[v0, v1, v2, v3, v4, v5] := by cases args; simp_all
  obtain ⟨rfl, rfl⟩ := trodVars_none hV
  have lt4 : ∀ x ∈ p4, x.block < W.heap.size := by obtain ⟨m, hm⟩ := h4; exact DataW.trod_lt m _ _ _ hm
  have lt5 : ∀ x ∈ p5, x.block < W.heap.size := by obtain ⟨m, hm⟩ := h5; exact DataW.trod_lt m _ _ _ hm
  obtain ⟨a0, rfl, rfl, rfl, w0⟩ := open_int Tryz.underlying28 (hval 0 28 v0 rfl rfl) h0
  obtain ⟨a1, rfl, rfl, rfl, w1⟩ := open_int Tryz.underlying28 (hval 1 28 v1 rfl rfl) h1
  obtain ⟨a2, rfl, rfl, rfl, w2⟩ := open_int Tryz.underlying28 (hval 2 28 v2 rfl rfl) h2
  obtain ⟨a3, rfl, rfl, rfl, w3⟩ := open_int Tryz.underlying28 (hval 3 28 v3 rfl rfl) h3
  have hw4 : ∀ n ∈ d4.weights Tryz.prog 29, n ≤ reachBytes := fun n hn => by simpa using List.all_eq_true.1 hsz n (DataW.weights_mem_each (j := 4) (t := 29) rfl rfl n hn)
  obtain ⟨A4, c4, x4, rfl, l4, b4, t4⟩ : ∃ (A : Option Addr) (c : Nat) (l : List Str), v4 = .slice A l.length c ∧ V4.LiesC (fun b => b < W.heap.size) W A (V4.cellsS l) ∧ (l.length ≤ c ∧ c ≤ maxLen ∧ l.length * 16 ≤ 140737488351232) ∧ ∀ s ∈ l, s.length ≤ maxLen := by
    obtain ⟨fuel, hf⟩ := h4
    obtain ⟨A, n, c, rfl⟩ := okWide_slice Tryz.underlying29 (hval 4 29 v4 rfl rfl)
    exact open_texts (enc := enc) (by simpa [Value.cells] using hf) hw4
  have hw5 : ∀ n ∈ d5.weights Tryz.prog 29, n ≤ reachBytes := fun n hn => by simpa using List.all_eq_true.1 hsz n (DataW.weights_mem_each (j := 5) (t := 29) rfl rfl n hn)
  obtain ⟨A5, c5, x5, rfl, l5, b5, t5⟩ : ∃ (A : Option Addr) (c : Nat) (l : List Str), v5 = .slice A l.length c ∧ V4.LiesC (fun b => b < W.heap.size) W A (V4.cellsS l) ∧ (l.length ≤ c ∧ c ≤ maxLen ∧ l.length * 16 ≤ 140737488351232) ∧ ∀ s ∈ l, s.length ≤ maxLen := by
    obtain ⟨fuel, hf⟩ := h5
    obtain ⟨A, n, c, rfl⟩ := okWide_slice Tryz.underlying29 (hval 5 29 v5 rfl rfl)
    exact open_texts (enc := enc) (by simpa [Value.cells] using hf) hw5
  clear hA0 hval0 hsz0
  simp only [List.append_nil] at hW'
  refine (J5.joinPairs_all a0 a1 a2 a3 A4 A5 c4 c5 x4 x5 W (u64_in w0) (u64_in w1) (u64_in w2) (u64_in w3) (lies_of_cells l4) (lies_of_cells l5) t4 t5 (by have := b4.2.2; omega) (by have := b5.2.2; omega)).mono fun e W' ⟨he, bel⟩ => ?_
  subst he
  exact ⟨_, rfl, _, _, _, [], _, [], hW', trodAll_mk1 (shut_bool Tryz.underlying4 _), (trodAll_cons_mk (shut_int Tryz.underlying28 w0) (trodAll_cons_mk (shut_int Tryz.underlying28 w1) (trodAll_cons_mk (shut_int Tryz.underlying28 w2) (trodAll_cons_mk (shut_int Tryz.underlying28 w3) (trodAll_cons_mk (Below.trod (by kernel_rfl) (by kernel_rfl) (of_decide_eq_true (by kernel_rfl)) h4 bel lt4) (trodAll_cons_mk (Below.trod (by kernel_rfl) (by kernel_rfl) (of_decide_eq_true (by kernel_rfl)) h5 bel lt5) trodAll_mk0)))))), rfl, bel.frame _, fun h => by cases h⟩

theorem joinPairs_holds : Rows.JoinPairsSaid :=
  OpenClaim.holds_of_wide 7 Tryz.f7 rfl rfl rfl rfl rfl rfl rfl ⟨rfl, rfl, rfl, rfl, rfl⟩ rfl rfl rfl rfl rfl (by kernel_rfl) Tryz.func7 (by kernel_rfl)
    (of_decide_eq_true (by kernel_rfl)) (by unfold Func.isWrapper; first | (rw [if_pos (by decide +kernel)]; kernel_rfl) | (rw [if_neg (by decide +kernel)]; exact ⟨rfl, rfl⟩))
    (fun os started H enc _ => joinPairs_lifted os started H enc)
end Go.Proofs.YtleejffjnknohaaGreat
