/- What order tells of values of a schema; what the laws' own helpers, known and of, do. No condition. -/
import Derived.Test.YtdbohojncbeajaaGreatMo25
import Derived.Test.YtdbohojncbeajaaGreatMo26
namespace Go.Proofs.YtdbohojncbeajaaGreat.J5
open Go.RowKit Go.Shelf
open C3 (Tk belAl allocB)
open S2 (Sc Tr isT)
open V4 (Va Vl Ck isV botT Bxd val_mk er_mk scLeaf scLeaf_in scRow scRow_in vlNum vlNum_in vlTexts vlTexts_in mk_inj)

theorem wghA_by {o : Option Va} {y : Va} {p : Bool} {t : Tr} {x : Va} {L : Prop} (ht : isT 16 t = true) (h1 : isV t x = true) (h2 : isV t y = true) {y' : Va} (ho : joinE t x y = o) (hr : o = some y' ↔ L) (hp : L ↔ p = true) : wghA (joinF t x y) y' = p ∧ wghE (joinF t x y) = .nilIface := by
  unfold joinF stepE
  rw [if_pos ht, if_pos ⟨h1, h2⟩, ho]
  cases o with
  | none =>
    refine ⟨?_, rfl⟩
    cases p with
    | false => rfl
    | true => have := hr.2 (hp.2 rfl); cases this
  | some z =>
    refine ⟨?_, rfl⟩
    rw [Option.some.injEq] at hr
    show decide (z = y') = p
    rw [Bool.eq_iff_iff, decide_eq_true_iff, hr, hp]
theorem Leq_by (Q : Prop) (HP : Q → PairsDo) (s : Sc) (x y : Vl) (w : World) (hs : s.In w.heap.size w) (hx : x.In w) (hy : y.In w) (hq : isT 16 s.er = true → Q ∨ NoP s.er) (ht : isT 16 s.er = true) (vx : isV s.er x.er = true) (vy : isV s.er y.er = true) (p : Bool) (hp : leV s.er x.er y.er ↔ p = true) : Calls Tryz.prog 12 #[s.val, x.val, y.val] w (RetV w (.tuple #[.bool p, .nilIface])) := by
  have h := Leq_any Q HP s x y w hs hx hy hq
  have e := wghA_by ht vx vy rfl (join_right ht vx vy (Nn.of_inp hx) (Nn.of_inp hy)) hp
  rw [e.1, e.2] at h
  exact h
theorem Cmp_by (Q : Prop) (HP : Q → PairsDo) (s : Sc) (x y : Vl) (w : World) (hs : s.In w.heap.size w) (hx : x.In w) (hy : y.In w) (hq : isT 16 s.er = true → Q ∨ NoP s.er) (ht : isT 16 s.er = true) (vx : isV s.er x.er = true) (vy : isV s.er y.er = true) (p q : Bool) (hp : leV s.er x.er y.er ↔ p = true) (hp2 : leV s.er y.er x.er ↔ q = true) : Calls Tryz.prog 10 #[s.val, x.val, y.val] w (RetV w (.tuple #[.int .i64 (cmpN p q), .nilIface])) := by
  have h := Cmp_any Q HP s x y w hs hx hy hq
  have e1 := wghA_by ht vx vy rfl (join_right ht vx vy (Nn.of_inp hx) (Nn.of_inp hy)) hp
  have e2 := wghA_by ht vx vy rfl (join_left ht vx vy (Nn.of_inp hx) (Nn.of_inp hy)) hp2
  have e3 : wghC (joinF s.er x.er y.er) x.er y.er = cmpN p q := by
    rw [← e1.1, ← e2.1]
    have := e1.2
    cases hj : joinF s.er x.er y.er with
    | ok z => rfl
    | error n =>
      rw [hj] at this
      have h13 : n = 13 := by
        rcases joinF_cases s.er x.er y.er with ⟨z, e⟩ | e | e
        · rw [e] at hj; cases hj
        · rw [e] at hj; cases hj; rfl
        · rw [e] at hj; cases hj; cases this
      subst h13; rfl
  rw [e3, e1.2] at h
  exact h
theorem Cmp_no (Q : Prop) (HP : Q → PairsDo) (s : Sc) (x y : Vl) (w : World) (hs : s.In w.heap.size w) (hx : x.In w) (hy : y.In w) (hq : isT 16 s.er = true → Q ∨ NoP s.er) (h : joinF s.er x.er y.er = .error 14) : Calls Tryz.prog 10 #[s.val, x.val, y.val] w (RetV w (.tuple #[.int .i64 0, .iface 51 (.int .i64 14)])) := by
  have := Cmp_any Q HP s x y w hs hx hy hq
  rw [h] at this
  exact this

set_option maxHeartbeats 400000 in
theorem of6_any (k : Int) (A : Option Addr) (n c : Nat) (w : World) : Calls Tryz.prog 11 #[.int .i64 k, .slice A n c] w (RetV w (.agg #[.int .i64 k, .slice A n c])) := by
  go_enter Tryz.func11, Tryz.ntmps11
  go_wp2_with fail
  refine bodyPost_ret (S2.results_cellS rfl _ _ w.heap.size (.int .i64 k) (.slice A n c) rfl (by go_simp) (by go_simp)) rfl ?_
  exact ⟨rfl, belAl (Below.refl _ _)⟩

set_option maxRecDepth 100000 in
set_option maxHeartbeats 4000000 in
theorem known6_any (w : World) : Calls Tryz.prog 8 #[] w (RetV w (.bool true)) := by
  go_enter Tryz.func8, Tryz.ntmps8
  go_upto_region 3 with fail
  obtain ⟨W1, hW1⟩ : ∃ W1, (((((w.alloc (.cells #[.int .i64 3, .slice none 0 0] 37)).alloc (.cells #[.string ⟨#[97]⟩] 9)).alloc (.cells #[.string ⟨#[97]⟩, .string ⟨#[98]⟩] 9)).alloc (.cells #[.int .u64 0, .int .u64 0, .slice (some ⟨w.heap.size + 1, 0, none⟩) 1 1, .slice none 0 0, .slice none 0 0] 29)).alloc (.cells #[.int .u64 0, .int .u64 0, .slice (some ⟨w.heap.size + 1 + 1, 0, none⟩) 2 2, .slice none 0 0, .slice none 0 0] 29)) = W1 := ⟨_, rfl⟩
  have bW1 : Below w.heap.size w W1 := by rw [← hW1]; exact belAl (belAl (belAl (belAl (belAl (Below.refl _ _)))))
  have X0 : Bxd W1 (w.heap.size) #[.int .i64 3, .slice none 0 0] := by
    rw [← hW1]
    have := V4.Bxd.new (W := w) (cs := #[.int .i64 3, .slice none 0 0]) (t := 37)
    exact (((this.al _).al _).al _).al _
  have Xa : Bxd W1 (w.heap.size + 1) #[.string ⟨#[97]⟩] := by
    rw [← hW1]
    have := V4.Bxd.new (W := (w.alloc (.cells #[.int .i64 3, .slice none 0 0] 37))) (cs := #[.string ⟨#[97]⟩]) (t := 9)
    rw [World.size_alloc] at this
    exact ((this.al _).al _).al _
  have Xb : Bxd W1 (w.heap.size + 1 + 1) #[.string ⟨#[97]⟩, .string ⟨#[98]⟩] := by
    rw [← hW1]
    have := V4.Bxd.new (W := ((w.alloc (.cells #[.int .i64 3, .slice none 0 0] 37)).alloc (.cells #[.string ⟨#[97]⟩] 9))) (cs := #[.string ⟨#[97]⟩, .string ⟨#[98]⟩]) (t := 9)
    rw [World.size_alloc, World.size_alloc] at this
    exact (this.al _).al _
  have X1 : Bxd W1 (w.heap.size + 1 + 1 + 1) #[.int .u64 0, .int .u64 0, .slice (some ⟨w.heap.size + 1, 0, none⟩) 1 1, .slice none 0 0, .slice none 0 0] := by
    rw [← hW1]
    have := V4.Bxd.new (W := (((w.alloc (.cells #[.int .i64 3, .slice none 0 0] 37)).alloc (.cells #[.string ⟨#[97]⟩] 9)).alloc (.cells #[.string ⟨#[97]⟩, .string ⟨#[98]⟩] 9))) (cs := #[.int .u64 0, .int .u64 0, .slice (some ⟨w.heap.size + 1, 0, none⟩) 1 1, .slice none 0 0, .slice none 0 0]) (t := 29)
    rw [World.size_alloc, World.size_alloc, World.size_alloc] at this
    exact this.al _
  have X2 : Bxd W1 (w.heap.size + 1 + 1 + 1 + 1) #[.int .u64 0, .int .u64 0, .slice (some ⟨w.heap.size + 1 + 1, 0, none⟩) 2 2, .slice none 0 0, .slice none 0 0] := by
    rw [← hW1]
    have := V4.Bxd.new (W := ((((w.alloc (.cells #[.int .i64 3, .slice none 0 0] 37)).alloc (.cells #[.string ⟨#[97]⟩] 9)).alloc (.cells #[.string ⟨#[97]⟩, .string ⟨#[98]⟩] 9)).alloc (.cells #[.int .u64 0, .int .u64 0, .slice (some ⟨w.heap.size + 1, 0, none⟩) 1 1, .slice none 0 0, .slice none 0 0] 29))) (cs := #[.int .u64 0, .int .u64 0, .slice (some ⟨w.heap.size + 1 + 1, 0, none⟩) 2 2, .slice none 0 0, .slice none 0 0]) (t := 29)
    rw [World.size_alloc, World.size_alloc, World.size_alloc, World.size_alloc] at this
    exact this
  have BW1 : Below w.heap.size w W1 := bW1
  have I1 : (vlTexts 0 (w.heap.size + 1) [[97]]).In W1 := vlTexts_in 0 (by omega) Xa rfl (by simp) (by simp)
  have I2 : (vlTexts 0 (w.heap.size + 1 + 1) [[97], [98]]).In W1 := vlTexts_in 0 (by omega) Xb rfl (by simp) (by simp)
  have VA : isV (.mk 3 []) (.mk 0 0 [[97]] [] []) = true := isV_set.2 ⟨_, rfl, by simp, by simp, rfl⟩
  have VB : isV (.mk 3 []) (.mk 0 0 [[97], [98]] [] []) = true := isV_set.2 ⟨_, rfl, by decide, by simp, rfl⟩
  have VC : isV (.mk 3 []) (.mk 0 0 [[99]] [] []) = true := isV_set.2 ⟨_, rfl, by simp, by simp, rfl⟩
  clear Xa Xb
  have HJ := Lib.hid (Leq_by False False.elim (scLeaf 3) (vlTexts 0 (w.heap.size + 1) [[97]]) (vlTexts 0 (w.heap.size + 1 + 1) [[97], [98]]) W1 (scLeaf_in _ _ _) I1 I2 (fun _ => .inr (noP_leaf (by decide))) isT_3 VA VB true (by rw [show (scLeaf 3).er = .mk 3 [] from rfl, leV_set]; exact ⟨fun _ => rfl, fun _ => by simp [vlTexts, er_mk, Va.s]⟩))
  rw [hW1]
  have l0 : W1.cell? ⟨w.heap.size, 0, none⟩ = some (.int .i64 3) := X0.2 0 _ rfl
  have l1 : W1.cell? ⟨w.heap.size, 1, none⟩ = some (.slice none 0 0) := X0.2 1 _ rfl
  have l2 : W1.cell? ⟨w.heap.size + 1 + 1 + 1, 0, none⟩ = some (.int .u64 0) := X1.2 0 _ rfl
  have l3 : W1.cell? ⟨w.heap.size + 1 + 1 + 1, 1, none⟩ = some (.int .u64 0) := X1.2 1 _ rfl
  have l4 : W1.cell? ⟨w.heap.size + 1 + 1 + 1, 2, none⟩ = some (.slice (some ⟨w.heap.size + 1, 0, none⟩) 1 1) := X1.2 2 _ rfl
  have l5 : W1.cell? ⟨w.heap.size + 1 + 1 + 1, 3, none⟩ = some (.slice none 0 0) := X1.2 3 _ rfl
  have l6 : W1.cell? ⟨w.heap.size + 1 + 1 + 1, 4, none⟩ = some (.slice none 0 0) := X1.2 4 _ rfl
  have l7 : W1.cell? ⟨w.heap.size + 1 + 1 + 1 + 1, 0, none⟩ = some (.int .u64 0) := X2.2 0 _ rfl
  have l8 : W1.cell? ⟨w.heap.size + 1 + 1 + 1 + 1, 1, none⟩ = some (.int .u64 0) := X2.2 1 _ rfl
  have l9 : W1.cell? ⟨w.heap.size + 1 + 1 + 1 + 1, 2, none⟩ = some (.slice (some ⟨w.heap.size + 1 + 1, 0, none⟩) 2 2) := X2.2 2 _ rfl
  have l10 : W1.cell? ⟨w.heap.size + 1 + 1 + 1 + 1, 3, none⟩ = some (.slice none 0 0) := X2.2 3 _ rfl
  have l11 : W1.cell? ⟨w.heap.size + 1 + 1 + 1 + 1, 4, none⟩ = some (.slice none 0 0) := X2.2 4 _ rfl
  go_wp2_with fail
  refine HJ.out.mono ?_
  clear HJ hW1
  rintro e U1 ⟨rfl, bU1⟩
  clear l0 l1 l2 l3 l4 l5 l6 l7 l8 l9 l10 l11
  replace X0 := X0.later bU1
  replace X1 := X1.later bU1
  replace X2 := X2.later bU1
  replace I1 := I1.later bU1
  replace I2 := I2.later bU1
  have BU1 : Below w.heap.size w U1 := BW1.trans (bU1.mono BW1.size)
  have HJ := Lib.hid (Leq_by False False.elim (scLeaf 3) (vlTexts 0 (w.heap.size + 1 + 1) [[97], [98]]) (vlTexts 0 (w.heap.size + 1) [[97]]) U1 (scLeaf_in _ _ _) I2 I1 (fun _ => .inr (noP_leaf (by decide))) isT_3 VB VA false (by rw [show (scLeaf 3).er = .mk 3 [] from rfl, leV_set]; simp [vlTexts, er_mk, Va.s]))
  have l12 : U1.cell? ⟨w.heap.size, 0, none⟩ = some (.int .i64 3) := X0.2 0 _ rfl
  have l13 : U1.cell? ⟨w.heap.size, 1, none⟩ = some (.slice none 0 0) := X0.2 1 _ rfl
  have l14 : U1.cell? ⟨w.heap.size + 1 + 1 + 1, 0, none⟩ = some (.int .u64 0) := X1.2 0 _ rfl
  have l15 : U1.cell? ⟨w.heap.size + 1 + 1 + 1, 1, none⟩ = some (.int .u64 0) := X1.2 1 _ rfl
  have l16 : U1.cell? ⟨w.heap.size + 1 + 1 + 1, 2, none⟩ = some (.slice (some ⟨w.heap.size + 1, 0, none⟩) 1 1) := X1.2 2 _ rfl
  have l17 : U1.cell? ⟨w.heap.size + 1 + 1 + 1, 3, none⟩ = some (.slice none 0 0) := X1.2 3 _ rfl
  have l18 : U1.cell? ⟨w.heap.size + 1 + 1 + 1, 4, none⟩ = some (.slice none 0 0) := X1.2 4 _ rfl
  have l19 : U1.cell? ⟨w.heap.size + 1 + 1 + 1 + 1, 0, none⟩ = some (.int .u64 0) := X2.2 0 _ rfl
  have l20 : U1.cell? ⟨w.heap.size + 1 + 1 + 1 + 1, 1, none⟩ = some (.int .u64 0) := X2.2 1 _ rfl
  have l21 : U1.cell? ⟨w.heap.size + 1 + 1 + 1 + 1, 2, none⟩ = some (.slice (some ⟨w.heap.size + 1 + 1, 0, none⟩) 2 2) := X2.2 2 _ rfl
  have l22 : U1.cell? ⟨w.heap.size + 1 + 1 + 1 + 1, 3, none⟩ = some (.slice none 0 0) := X2.2 3 _ rfl
  have l23 : U1.cell? ⟨w.heap.size + 1 + 1 + 1 + 1, 4, none⟩ = some (.slice none 0 0) := X2.2 4 _ rfl
  go_wp2_with fail
  refine HJ.out.mono ?_
  clear HJ
  rintro e U2 ⟨rfl, bU2⟩
  clear l12 l13 l14 l15 l16 l17 l18 l19 l20 l21 l22 l23
  replace X0 := X0.later bU2
  replace X1 := X1.later bU2
  replace X2 := X2.later bU2
  replace I1 := I1.later bU2
  replace I2 := I2.later bU2
  have BU2 : Below w.heap.size w U2 := BU1.trans (bU2.mono BU1.size)
  have l24 : U2.cell? ⟨w.heap.size, 0, none⟩ = some (.int .i64 3) := X0.2 0 _ rfl
  have l25 : U2.cell? ⟨w.heap.size, 1, none⟩ = some (.slice none 0 0) := X0.2 1 _ rfl
  have l26 : U2.cell? ⟨w.heap.size + 1 + 1 + 1, 0, none⟩ = some (.int .u64 0) := X1.2 0 _ rfl
  have l27 : U2.cell? ⟨w.heap.size + 1 + 1 + 1, 1, none⟩ = some (.int .u64 0) := X1.2 1 _ rfl
  have l28 : U2.cell? ⟨w.heap.size + 1 + 1 + 1, 2, none⟩ = some (.slice (some ⟨w.heap.size + 1, 0, none⟩) 1 1) := X1.2 2 _ rfl
  have l29 : U2.cell? ⟨w.heap.size + 1 + 1 + 1, 3, none⟩ = some (.slice none 0 0) := X1.2 3 _ rfl
  have l30 : U2.cell? ⟨w.heap.size + 1 + 1 + 1, 4, none⟩ = some (.slice none 0 0) := X1.2 4 _ rfl
  clear l24 l25 l26 l27 l28 l29 l30
  have X0U : w.heap.size < U2.heap.size := X0.1
  have X1U : w.heap.size + 1 + 1 + 1 < U2.heap.size := X1.1
  obtain ⟨W2, hW2⟩ : ∃ W2, (U2.alloc (.cells #[.string ⟨#[99]⟩] 9)) = W2 := ⟨_, rfl⟩
  have bW2 : Below U2.heap.size U2 W2 := by rw [← hW2]; exact belAl (Below.refl _ _)
  have Xc : Bxd W2 (U2.heap.size) #[.string ⟨#[99]⟩] := by
    rw [← hW2]
    have := V4.Bxd.new (W := U2) (cs := #[.string ⟨#[99]⟩]) (t := 9)
    exact this
  replace X0 := X0.later bW2
  replace X1 := X1.later bW2
  replace X2 := X2.later bW2
  replace I1 := I1.later bW2
  replace I2 := I2.later bW2
  have BW2 : Below w.heap.size w W2 := BU2.trans (bW2.mono BU2.size)
  have I3 : (vlTexts 0 U2.heap.size [[99]]).In W2 := vlTexts_in 0 (by omega) Xc rfl (by simp) (by simp)
  have HJ := Lib.hid (Cmp_by False False.elim (scLeaf 3) (vlTexts 0 (w.heap.size + 1) [[97]]) (vlTexts 0 U2.heap.size [[99]]) W2 (scLeaf_in _ _ _) I1 I3 (fun _ => .inr (noP_leaf (by decide))) isT_3 VA VC false false (by rw [show (scLeaf 3).er = .mk 3 [] from rfl, leV_set]; simp [vlTexts, er_mk, Va.s]) (by rw [show (scLeaf 3).er = .mk 3 [] from rfl, leV_set]; simp [vlTexts, er_mk, Va.s]))
  clear Xc I3
  have l31 : U2.cell? ⟨w.heap.size, 0, none⟩ = some (.int .i64 3) := (bW2.cell (p := ⟨w.heap.size, 0, none⟩) X0U).symm.trans (X0.2 0 _ rfl)
  have l32 : U2.cell? ⟨w.heap.size, 1, none⟩ = some (.slice none 0 0) := (bW2.cell (p := ⟨w.heap.size, 1, none⟩) X0U).symm.trans (X0.2 1 _ rfl)
  have l33 : U2.cell? ⟨w.heap.size + 1 + 1 + 1, 0, none⟩ = some (.int .u64 0) := (bW2.cell (p := ⟨w.heap.size + 1 + 1 + 1, 0, none⟩) X1U).symm.trans (X1.2 0 _ rfl)
  have l34 : U2.cell? ⟨w.heap.size + 1 + 1 + 1, 1, none⟩ = some (.int .u64 0) := (bW2.cell (p := ⟨w.heap.size + 1 + 1 + 1, 1, none⟩) X1U).symm.trans (X1.2 1 _ rfl)
  have l35 : U2.cell? ⟨w.heap.size + 1 + 1 + 1, 2, none⟩ = some (.slice (some ⟨w.heap.size + 1, 0, none⟩) 1 1) := (bW2.cell (p := ⟨w.heap.size + 1 + 1 + 1, 2, none⟩) X1U).symm.trans (X1.2 2 _ rfl)
  have l36 : U2.cell? ⟨w.heap.size + 1 + 1 + 1, 3, none⟩ = some (.slice none 0 0) := (bW2.cell (p := ⟨w.heap.size + 1 + 1 + 1, 3, none⟩) X1U).symm.trans (X1.2 3 _ rfl)
  have l37 : U2.cell? ⟨w.heap.size + 1 + 1 + 1, 4, none⟩ = some (.slice none 0 0) := (bW2.cell (p := ⟨w.heap.size + 1 + 1 + 1, 4, none⟩) X1U).symm.trans (X1.2 4 _ rfl)
  go_wp2_with fail
  try rw [hW2]
  refine HJ.out.mono ?_
  clear HJ hW2
  rintro e U3 ⟨rfl, bU3⟩
  clear l31 l32 l33 l34 l35 l36 l37
  replace X0 := X0.later bU3
  replace X1 := X1.later bU3
  replace X2 := X2.later bU3
  replace I1 := I1.later bU3
  replace I2 := I2.later bU3
  have BU3 : Below w.heap.size w U3 := BW2.trans (bU3.mono BW2.size)
  have HJ := Lib.hid (Cmp_no False False.elim (scLeaf 3) (vlTexts 0 (w.heap.size + 1) [[97]]) (vlNum 1) U3 (scLeaf_in _ _ _) I1 (vlNum_in 1 (by omega) _ _) (fun _ => .inr (noP_leaf (by decide))) (kn_j2 _))
  have l38 : U3.cell? ⟨w.heap.size, 0, none⟩ = some (.int .i64 3) := X0.2 0 _ rfl
  have l39 : U3.cell? ⟨w.heap.size, 1, none⟩ = some (.slice none 0 0) := X0.2 1 _ rfl
  have l40 : U3.cell? ⟨w.heap.size + 1 + 1 + 1, 0, none⟩ = some (.int .u64 0) := X1.2 0 _ rfl
  have l41 : U3.cell? ⟨w.heap.size + 1 + 1 + 1, 1, none⟩ = some (.int .u64 0) := X1.2 1 _ rfl
  have l42 : U3.cell? ⟨w.heap.size + 1 + 1 + 1, 2, none⟩ = some (.slice (some ⟨w.heap.size + 1, 0, none⟩) 1 1) := X1.2 2 _ rfl
  have l43 : U3.cell? ⟨w.heap.size + 1 + 1 + 1, 3, none⟩ = some (.slice none 0 0) := X1.2 3 _ rfl
  have l44 : U3.cell? ⟨w.heap.size + 1 + 1 + 1, 4, none⟩ = some (.slice none 0 0) := X1.2 4 _ rfl
  go_wp2_with fail
  refine HJ.out.mono ?_
  clear HJ
  rintro e U4 ⟨rfl, bU4⟩
  clear l38 l39 l40 l41 l42 l43 l44
  replace X0 := X0.later bU4
  replace X1 := X1.later bU4
  replace X2 := X2.later bU4
  replace I1 := I1.later bU4
  replace I2 := I2.later bU4
  have BU4 : Below w.heap.size w U4 := BU3.trans (bU4.mono BU3.size)
  have HI : Hid (∀ W, Calls Tryz.prog 16 #[.iface 51 (.int .i64 14), .iface 51 (.int .i64 14)] W (RetV W (.bool true))) := fun W => by
    have := is_any 14 14 W
    rw [decide_eq_true rfl] at this
    exact this
  clear X0 X1 X2 I1 I2
  go_wp2_with fail
  refine (HI.out _).mono ?_
  rintro e U5 ⟨rfl, bU5⟩
  go_wp2_with fail
  go_ret
  exact ⟨by simp, BU4.trans (bU5.mono BU4.size)⟩
end Go.Proofs.YtdbohojncbeajaaGreat.J5
