/- OrderVersionsSaid is proved: at every input the law returns true, and each argument reads afterwards as it read before. No condition. What OrderVersions does: it answers true. No condition but that what is handed in lies in memory, numbers of their kinds. -/
import Derived.Test.YtdbohojncbeajaaGreatMo29
import Derived.WalkKit
import Derived.ProofKit
import Derived.OpenShut
namespace Go.Proofs.YtdbohojncbeajaaGreat.J5
open Go.RowKit Go.Shelf
open C3 (Tk In belAl allocB isC isC_out Nok cmpC underC)
open S2 (Sc Tr isT)
open V4 (Va Vl Ck isV botT Bxd val_mk er_mk scLeaf scLeaf_in scRow scRow_in vlNum vlNum_in vlCV vlCV_in mk_inj)

theorem cmpC_zero {x y : List Tk} (hx : isC x = true) (hy : isC y = true) (nx : NnC x) (ny : NnC y) (h : cmpC x y = 0) : x = y := by
  have h2 : underC x y = true ∧ underC y x = true := by
    unfold cmpC at h
    cases h1 : underC x y <;> cases h2 : underC y x <;> rw [h1, h2] at h <;> first | exact ⟨rfl, rfl⟩ | cases h
  exact clock_ext hx hy fun q => Int.le_antisymm (under_of h2.1 ny q) (under_of h2.2 nx q)
theorem cmpC_turn (x y : List Tk) : (cmpC x y = 0 → cmpC y x = 0) ∧ (cmpC x y = -1 → cmpC y x = 1) ∧ (cmpC x y = 1 → cmpC y x = -1) ∧ (cmpC x y = 2 → cmpC y x = 2) ∧ (cmpC x y = 0 ∨ cmpC x y = -1 ∨ cmpC x y = 1 ∨ cmpC x y = 2) := by
  unfold cmpC
  cases underC x y <;> cases underC y x <;> decide
/-- How two versions stand. -/
theorem versions_stand {x y : List Tk} {a b : Int} (hx : isC x = true) (hy : isC y = true) (nx : NnC x) (ny : NnC y) :
    cmpN (decide (cmpC x y = -1 ∨ (y = x ∧ a ≤ b))) (decide (cmpC y x = -1 ∨ (x = y ∧ b ≤ a))) = if cmpC x y = 0 then cmpN (decide (a ≤ b)) (decide (b ≤ a)) else cmpC x y := by
  obtain ⟨t0, t1, t2, t3, h⟩ := cmpC_turn x y
  have irr : x = y → cmpC x y = 0 := fun e => by
    subst e
    unfold cmpC
    rw [under_refl (isC_out hx).2.1]; rfl
  rcases h with h | h | h | h
  · have e := cmpC_zero hx hy nx ny h
    subst e
    rw [if_pos h, h]
    simp
  · have ne : ¬ x = y := fun e => by have := irr e; omega
    rw [if_neg (by omega), h, t1 h, decide_eq_true (.inl rfl), decide_eq_false (by rintro (h2 | ⟨h2, _⟩); (revert h2; decide); exact ne h2)]; rfl
  · have ne : ¬ x = y := fun e => by have := irr e; omega
    rw [if_neg (by omega), h, t2 h, decide_eq_false (show ¬ ((1 : Int) = -1 ∨ (y = x ∧ a ≤ b)) by rintro (h2 | ⟨h2, _⟩); (revert h2; decide); exact ne h2.symm), decide_eq_true (.inl rfl)]; rfl
  · have ne : ¬ x = y := fun e => by have := irr e; omega
    rw [if_neg (by omega), h, t3 h, decide_eq_false (by rintro (h2 | ⟨h2, _⟩); (revert h2; decide); exact ne h2.symm), decide_eq_false (by rintro (h2 | ⟨h2, _⟩); (revert h2; decide); exact ne h2)]; rfl
theorem le_version (x y : List Tk) (a b : Int) : leV (.mk 8 [.mk 1 []]) (.mk 0 0 [] [x] [numE a]) (.mk 0 0 [] [y] [numE b]) ↔ (cmpC x y = -1 ∨ (y = x ∧ a ≤ b)) := by
  rw [leV_cause]
  unfold causeLe
  simp only [Va.c, Va.v, List.zip_cons_cons, List.zip_nil_left, List.mem_singleton, forall_eq, exists_eq_left]
  rw [leV_num (.inl rfl)]; rfl
theorem is_version {x : List Tk} (h : isC x = true) (a : Int) : isV (.mk 8 [.mk 1 []]) (.mk 0 0 [] [x] [numE a]) = true :=
  isV_cause.2 ⟨_, _, rfl, rfl, by simp, by simp, fun k hk => by rw [List.mem_singleton.1 hk]; exact h, fun y hy => by rw [List.mem_singleton.1 hy]; exact is_num a⟩

set_option maxRecDepth 100000 in
set_option maxHeartbeats 4000000 in
theorem orderVersions_all (A1 : Option Addr) (c1 : Nat) (x : List Tk) (A2 : Option Addr) (c2 : Nat) (y : List Tk) (a b : Int) (w : World) (hx : In w A1 c1 x) (hy : In w A2 c2 y) (ha : 0 ≤ a ∧ a ≤ 255) (hb : 0 ≤ b ∧ b ≤ 255) : Calls Tryz.prog 7 #[.slice A1 x.length c1, .slice A2 y.length c2, .int .u8 a, .int .u8 b] w (RetV w (.bool true)) := by
  obtain ⟨a4, ea⟩ : ∃ q, a.tmod 4 = q := ⟨_, rfl⟩
  have ha4 : 0 ≤ a4 ∧ a4 ≤ 3 := by rw [← ea, Int.tmod_eq_emod_of_nonneg ha.1]; omega
  obtain ⟨b4, eb⟩ : ∃ q, b.tmod 4 = q := ⟨_, rfl⟩
  have hb4 : 0 ≤ b4 ∧ b4 ≤ 3 := by rw [← eb, Int.tmod_eq_emod_of_nonneg hb.1]; omega
  obtain ⟨p1, hp1⟩ : ∃ p, isC x = p := ⟨_, rfl⟩
  obtain ⟨p2, hp2⟩ : ∃ p, isC y = p := ⟨_, rfl⟩
  have HI1 := Lib.hid (fun W (hb : Below w.heap.size w W) => C3.refIs_any A1 c1 x W (hx.later hb))
  have HI2 := Lib.hid (fun W (hb : Below w.heap.size w W) => C3.refIs_any A2 c2 y W (hy.later hb))
  rw [hp1] at HI1
  rw [hp2] at HI2
  have HP := Lib.hid (And.intro hp1 hp2)
  have HXY := Lib.hid (And.intro hx hy)
  clear hp1 hp2 hx hy
  go_enter Tryz.func7, Tryz.ntmps7
  go_wp2_with fail
  refine (known6_any w).mono ?_
  rintro e W0 ⟨rfl, bW0⟩
  have BW0 : Below w.heap.size w W0 := bW0
  go_wp2_with fail
  refine (HI1.out W0 BW0).mono ?_
  clear HI1
  rintro e W1 ⟨rfl, bW1⟩
  have BW1 : Below w.heap.size w W1 := BW0.trans (bW1.mono BW0.size)
  cases p1 with
  | false =>
    go_wp2_with fail
    go_ret
    exact ⟨by simp, BW1⟩
  | true =>
    go_wp2_with fail
    refine (HI2.out W1 BW1).mono ?_
    clear HI2
    rintro e W2 ⟨rfl, bW2⟩
    have BW2 : Below w.heap.size w W2 := BW1.trans (bW2.mono BW1.size)
    cases p2 with
    | false =>
      go_wp2_with fail
      go_ret
      exact ⟨by simp, BW2⟩
    | true =>
      by_cases h1 : (15 : Int) < ((x.length : Nat) : Int)
      · have g1 : decide ((15 : Int) < ((x.length : Nat) : Int)) = true := decide_eq_true h1
        clear h1
        go_wp2_with fail
        go_ret
        exact ⟨by simp, BW2⟩
      have g1 : decide ((15 : Int) < ((x.length : Nat) : Int)) = false := decide_eq_false h1
      have L1 : Hid (x.length ≤ 15) := by show _ ≤ _; omega
      clear h1
      by_cases h2 : (15 : Int) < ((y.length : Nat) : Int)
      · have g2 : decide ((15 : Int) < ((y.length : Nat) : Int)) = true := decide_eq_true h2
        clear h2
        go_wp2_with fail
        go_ret
        exact ⟨by simp, BW2⟩
      have g2 : decide ((15 : Int) < ((y.length : Nat) : Int)) = false := decide_eq_false h2
      have L2 : Hid (y.length ≤ 15) := by show _ ≤ _; omega
      clear h2
      have IX : Hid (In W2 A1 c1 x) := HXY.out.1.later BW2
      have IY : Hid (In W2 A2 c2 y) := HXY.out.2.later BW2
      go_wp2_with fail
      refine (of6_any 1 none 0 0 W2).mono ?_
      rintro e W3 ⟨rfl, bW3⟩
      have BW3 : Below w.heap.size w W3 := BW2.trans (bW3.mono BW2.size)
      obtain ⟨V3, hV3⟩ : ∃ V3, (W3.alloc (.cells #[.int .i64 1, .slice none 0 0] 37)) = V3 := ⟨_, rfl⟩
      have bV3 : Below W3.heap.size W3 V3 := by rw [← hV3]; exact belAl (Below.refl _ _)
      have X0 : Bxd V3 (W3.heap.size) #[.int .i64 1, .slice none 0 0] := by
        rw [← hV3]
        have := V4.Bxd.new (W := W3) (cs := #[.int .i64 1, .slice none 0 0]) (t := 37)
        exact this
      have BV3 : Below w.heap.size w V3 := BW3.trans (bV3.mono BW3.size)
      go_wp2_with fail
      try rw [hV3]
      refine (of6_any 8 (some ⟨W3.heap.size, 0, none⟩) 1 1 V3).mono ?_
      clear hV3
      rintro e W4 ⟨rfl, bW4⟩
      replace X0 := X0.later bW4
      have BW4 : Below w.heap.size w W4 := BV3.trans (bW4.mono BV3.size)
      go_upto_region 7 with fail
      obtain ⟨W5, hW5⟩ : ∃ W5, (((((((W4.alloc (.cells #[.int .i64 8, .slice (some ⟨W3.heap.size, 0, none⟩) 1 1] 37)).alloc (.cells #[.slice A1 x.length c1] 44)).alloc (.cells #[.int .u64 a4, .int .u64 0, .slice none 0 0, .slice none 0 0, .slice none 0 0] 29)).alloc (.cells #[.slice A2 y.length c2] 44)).alloc (.cells #[.int .u64 b4, .int .u64 0, .slice none 0 0, .slice none 0 0, .slice none 0 0] 29)).alloc (.cells #[.int .u64 0, .int .u64 0, .slice none 0 0, .slice (some ⟨W4.heap.size + 1, 0, none⟩) 1 1, .slice (some ⟨W4.heap.size + 1 + 1, 0, none⟩) 1 1] 29)).alloc (.cells #[.int .u64 0, .int .u64 0, .slice none 0 0, .slice (some ⟨W4.heap.size + 1 + 1 + 1, 0, none⟩) 1 1, .slice (some ⟨W4.heap.size + 1 + 1 + 1 + 1, 0, none⟩) 1 1] 29)) = W5 := ⟨_, rfl⟩
      have bW5 : Below W4.heap.size W4 W5 := by rw [← hW5]; exact belAl (belAl (belAl (belAl (belAl (belAl (belAl (Below.refl _ _)))))))
      have X1 : Bxd W5 (W4.heap.size) #[.int .i64 8, .slice (some ⟨W3.heap.size, 0, none⟩) 1 1] := by
        rw [← hW5]
        have := V4.Bxd.new (W := W4) (cs := #[.int .i64 8, .slice (some ⟨W3.heap.size, 0, none⟩) 1 1]) (t := 37)
        exact (((((this.al _).al _).al _).al _).al _).al _
      have Xa : Bxd W5 (W4.heap.size + 1) #[.slice A1 x.length c1] := by
        rw [← hW5]
        have := V4.Bxd.new (W := (W4.alloc (.cells #[.int .i64 8, .slice (some ⟨W3.heap.size, 0, none⟩) 1 1] 37))) (cs := #[.slice A1 x.length c1]) (t := 44)
        rw [World.size_alloc] at this
        exact ((((this.al _).al _).al _).al _).al _
      have Xb : Bxd W5 (W4.heap.size + 1 + 1) #[.int .u64 a4, .int .u64 0, .slice none 0 0, .slice none 0 0, .slice none 0 0] := by
        rw [← hW5]
        have := V4.Bxd.new (W := ((W4.alloc (.cells #[.int .i64 8, .slice (some ⟨W3.heap.size, 0, none⟩) 1 1] 37)).alloc (.cells #[.slice A1 x.length c1] 44))) (cs := #[.int .u64 a4, .int .u64 0, .slice none 0 0, .slice none 0 0, .slice none 0 0]) (t := 29)
        rw [World.size_alloc, World.size_alloc] at this
        exact (((this.al _).al _).al _).al _
      have Xc : Bxd W5 (W4.heap.size + 1 + 1 + 1) #[.slice A2 y.length c2] := by
        rw [← hW5]
        have := V4.Bxd.new (W := (((W4.alloc (.cells #[.int .i64 8, .slice (some ⟨W3.heap.size, 0, none⟩) 1 1] 37)).alloc (.cells #[.slice A1 x.length c1] 44)).alloc (.cells #[.int .u64 a4, .int .u64 0, .slice none 0 0, .slice none 0 0, .slice none 0 0] 29))) (cs := #[.slice A2 y.length c2]) (t := 44)
        rw [World.size_alloc, World.size_alloc, World.size_alloc] at this
        exact ((this.al _).al _).al _
      have Xd : Bxd W5 (W4.heap.size + 1 + 1 + 1 + 1) #[.int .u64 b4, .int .u64 0, .slice none 0 0, .slice none 0 0, .slice none 0 0] := by
        rw [← hW5]
        have := V4.Bxd.new (W := ((((W4.alloc (.cells #[.int .i64 8, .slice (some ⟨W3.heap.size, 0, none⟩) 1 1] 37)).alloc (.cells #[.slice A1 x.length c1] 44)).alloc (.cells #[.int .u64 a4, .int .u64 0, .slice none 0 0, .slice none 0 0, .slice none 0 0] 29)).alloc (.cells #[.slice A2 y.length c2] 44))) (cs := #[.int .u64 b4, .int .u64 0, .slice none 0 0, .slice none 0 0, .slice none 0 0]) (t := 29)
        rw [World.size_alloc, World.size_alloc, World.size_alloc, World.size_alloc] at this
        exact (this.al _).al _
      have X2 : Bxd W5 (W4.heap.size + 1 + 1 + 1 + 1 + 1) #[.int .u64 0, .int .u64 0, .slice none 0 0, .slice (some ⟨W4.heap.size + 1, 0, none⟩) 1 1, .slice (some ⟨W4.heap.size + 1 + 1, 0, none⟩) 1 1] := by
        rw [← hW5]
        have := V4.Bxd.new (W := (((((W4.alloc (.cells #[.int .i64 8, .slice (some ⟨W3.heap.size, 0, none⟩) 1 1] 37)).alloc (.cells #[.slice A1 x.length c1] 44)).alloc (.cells #[.int .u64 a4, .int .u64 0, .slice none 0 0, .slice none 0 0, .slice none 0 0] 29)).alloc (.cells #[.slice A2 y.length c2] 44)).alloc (.cells #[.int .u64 b4, .int .u64 0, .slice none 0 0, .slice none 0 0, .slice none 0 0] 29))) (cs := #[.int .u64 0, .int .u64 0, .slice none 0 0, .slice (some ⟨W4.heap.size + 1, 0, none⟩) 1 1, .slice (some ⟨W4.heap.size + 1 + 1, 0, none⟩) 1 1]) (t := 29)
        rw [World.size_alloc, World.size_alloc, World.size_alloc, World.size_alloc, World.size_alloc] at this
        exact this.al _
      have X3 : Bxd W5 (W4.heap.size + 1 + 1 + 1 + 1 + 1 + 1) #[.int .u64 0, .int .u64 0, .slice none 0 0, .slice (some ⟨W4.heap.size + 1 + 1 + 1, 0, none⟩) 1 1, .slice (some ⟨W4.heap.size + 1 + 1 + 1 + 1, 0, none⟩) 1 1] := by
        rw [← hW5]
        have := V4.Bxd.new (W := ((((((W4.alloc (.cells #[.int .i64 8, .slice (some ⟨W3.heap.size, 0, none⟩) 1 1] 37)).alloc (.cells #[.slice A1 x.length c1] 44)).alloc (.cells #[.int .u64 a4, .int .u64 0, .slice none 0 0, .slice none 0 0, .slice none 0 0] 29)).alloc (.cells #[.slice A2 y.length c2] 44)).alloc (.cells #[.int .u64 b4, .int .u64 0, .slice none 0 0, .slice none 0 0, .slice none 0 0] 29)).alloc (.cells #[.int .u64 0, .int .u64 0, .slice none 0 0, .slice (some ⟨W4.heap.size + 1, 0, none⟩) 1 1, .slice (some ⟨W4.heap.size + 1 + 1, 0, none⟩) 1 1] 29))) (cs := #[.int .u64 0, .int .u64 0, .slice none 0 0, .slice (some ⟨W4.heap.size + 1 + 1 + 1, 0, none⟩) 1 1, .slice (some ⟨W4.heap.size + 1 + 1 + 1 + 1, 0, none⟩) 1 1]) (t := 29)
        rw [World.size_alloc, World.size_alloc, World.size_alloc, World.size_alloc, World.size_alloc, World.size_alloc] at this
        exact this
      replace X0 := X0.later bW5
      have BW5 : Below w.heap.size w W5 := BW4.trans (bW5.mono BW4.size)
      have hb25 : Below W2.heap.size W2 W5 := bW3.trans ((bV3.trans ((bW4.trans (bW5.mono bW4.size)).mono bV3.size)).mono bW3.size)
      have SP : (scRow 8 W3.heap.size [scLeaf 1]).In W5.heap.size W5 := scRow_in 8 X0 rfl (by simp) (fun s hs => by rw [List.mem_singleton.1 hs]; exact scLeaf_in _ _ _)
      have IA : (vlCV 0 0 none [] (W4.heap.size + 1) [⟨A1, c1, x⟩] (W4.heap.size + 1 + 1) [vlNum a4]).In W5 := vlCV_in Xa rfl Xb rfl (by simp) (by simp) (fun k hk => by rw [List.mem_singleton.1 hk]; exact ckIn_of (IX.out.later hb25) (by have := L1.out; omega)) (fun x hx => by rw [List.mem_singleton.1 hx]; exact vlNum_in _ (by omega) _ _)
      have IB : (vlCV 0 0 none [] (W4.heap.size + 1 + 1 + 1) [⟨A2, c2, y⟩] (W4.heap.size + 1 + 1 + 1 + 1) [vlNum b4]).In W5 := vlCV_in Xc rfl Xd rfl (by simp) (by simp) (fun k hk => by rw [List.mem_singleton.1 hk]; exact ckIn_of (IY.out.later hb25) (by have := L2.out; omega)) (fun x hx => by rw [List.mem_singleton.1 hx]; exact vlNum_in _ (by omega) _ _)
      have HC := Lib.hid (Cmp_by False False.elim (scRow 8 W3.heap.size [scLeaf 1]) (vlCV 0 0 none [] (W4.heap.size + 1) [⟨A1, c1, x⟩] (W4.heap.size + 1 + 1) [vlNum a4]) (vlCV 0 0 none [] (W4.heap.size + 1 + 1 + 1) [⟨A2, c2, y⟩] (W4.heap.size + 1 + 1 + 1 + 1) [vlNum b4]) W5 SP IA IB (fun _ => .inr (noP_one (by decide) (noP_leaf (by decide)))) isT_81 (is_version HP.out.1 a4) (is_version HP.out.2 b4) _ _ ((le_version x y a4 b4).trans decide_eq_true_iff.symm) ((le_version y x b4 a4).trans decide_eq_true_iff.symm))
      rw [versions_stand HP.out.1 HP.out.2 (fun t ht => (IX.out.nok t ht).1) (fun t ht => (IY.out.nok t ht).1)] at HC
      obtain ⟨N, hN⟩ : ∃ N, cmpC x y = N := ⟨_, rfl⟩
      have HCM := Lib.hid (fun W (hb : Below W2.heap.size W2 W) => C3.refCmp_any A1 A2 c1 c2 x y W (IX.out.later hb) (IY.out.later hb))
      rw [hN] at HC HCM
      obtain ⟨R, hR⟩ : ∃ R, (if N = 0 then cmpN (decide (a4 ≤ b4)) (decide (b4 ≤ a4)) else N) = R := ⟨_, rfl⟩
      rw [hR] at HC
      have HR := Lib.hid hR
      clear SP IA IB X0 Xa Xb Xc Xd hN hR HP HXY
      have l0 : W5.cell? ⟨W4.heap.size, 0, none⟩ = some (.int .i64 8) := X1.2 0 _ rfl
      have l1 : W5.cell? ⟨W4.heap.size, 1, none⟩ = some (.slice (some ⟨W3.heap.size, 0, none⟩) 1 1) := X1.2 1 _ rfl
      have l2 : W5.cell? ⟨W4.heap.size + 1 + 1 + 1 + 1 + 1, 0, none⟩ = some (.int .u64 0) := X2.2 0 _ rfl
      have l3 : W5.cell? ⟨W4.heap.size + 1 + 1 + 1 + 1 + 1, 1, none⟩ = some (.int .u64 0) := X2.2 1 _ rfl
      have l4 : W5.cell? ⟨W4.heap.size + 1 + 1 + 1 + 1 + 1, 2, none⟩ = some (.slice none 0 0) := X2.2 2 _ rfl
      have l5 : W5.cell? ⟨W4.heap.size + 1 + 1 + 1 + 1 + 1, 3, none⟩ = some (.slice (some ⟨W4.heap.size + 1, 0, none⟩) 1 1) := X2.2 3 _ rfl
      have l6 : W5.cell? ⟨W4.heap.size + 1 + 1 + 1 + 1 + 1, 4, none⟩ = some (.slice (some ⟨W4.heap.size + 1 + 1, 0, none⟩) 1 1) := X2.2 4 _ rfl
      have l7 : W5.cell? ⟨W4.heap.size + 1 + 1 + 1 + 1 + 1 + 1, 0, none⟩ = some (.int .u64 0) := X3.2 0 _ rfl
      have l8 : W5.cell? ⟨W4.heap.size + 1 + 1 + 1 + 1 + 1 + 1, 1, none⟩ = some (.int .u64 0) := X3.2 1 _ rfl
      have l9 : W5.cell? ⟨W4.heap.size + 1 + 1 + 1 + 1 + 1 + 1, 2, none⟩ = some (.slice none 0 0) := X3.2 2 _ rfl
      have l10 : W5.cell? ⟨W4.heap.size + 1 + 1 + 1 + 1 + 1 + 1, 3, none⟩ = some (.slice (some ⟨W4.heap.size + 1 + 1 + 1, 0, none⟩) 1 1) := X3.2 3 _ rfl
      have l11 : W5.cell? ⟨W4.heap.size + 1 + 1 + 1 + 1 + 1 + 1, 4, none⟩ = some (.slice (some ⟨W4.heap.size + 1 + 1 + 1 + 1, 0, none⟩) 1 1) := X3.2 4 _ rfl
      rw [hW5]
      go_wp2_with fail
      refine HC.out.mono ?_
      clear HC hW5
      rintro e W6 ⟨rfl, bW6⟩
      clear l0 l1 l2 l3 l4 l5 l6 l7 l8 l9 l10 l11
      replace X1 := X1.later bW6
      replace X2 := X2.later bW6
      replace X3 := X3.later bW6
      have BW6 : Below w.heap.size w W6 := BW5.trans (bW6.mono BW5.size)
      clear X1 X2 X3
      have hb26 : Below W2.heap.size W2 W6 := hb25.trans (bW6.mono hb25.size)
      go_wp2_with fail
      refine (HCM.out W6 hb26).mono ?_
      clear HCM
      rintro e W7 ⟨rfl, bW7⟩
      have BW7 := BW6.trans (bW7.mono BW6.size)
      have hR := HR.out
      clear HR
      by_cases h0 : N = 0
      · subst h0
        rw [if_pos rfl] at hR
        rcases Int.lt_trichotomy a4 b4 with h | h | h
        · rw [decide_eq_true (show a4 ≤ b4 by omega), decide_eq_false (show ¬ b4 ≤ a4 by omega)] at hR
          have g : decide (a4 < b4) = true := decide_eq_true h
          obtain rfl : -1 = R := hR
          clear h
          go_wp2_with fail
          go_ret
          exact ⟨by simp, BW7⟩
        · rw [decide_eq_true (show a4 ≤ b4 by omega), decide_eq_true (show b4 ≤ a4 by omega)] at hR
          have g : decide (a4 < b4) = false := decide_eq_false (by omega)
          have g3 : decide (b4 < a4) = false := decide_eq_false (by omega)
          obtain rfl : 0 = R := hR
          clear h
          go_wp2_with fail
          go_ret
          exact ⟨by simp, BW7⟩
        · rw [decide_eq_false (show ¬ a4 ≤ b4 by omega), decide_eq_true (show b4 ≤ a4 by omega)] at hR
          have g : decide (a4 < b4) = false := decide_eq_false (by omega)
          have g3 : decide (b4 < a4) = true := decide_eq_true h
          obtain rfl : 1 = R := hR
          clear h
          go_wp2_with fail
          go_ret
          exact ⟨by simp, BW7⟩
      · rw [if_neg h0] at hR
        subst hR
        have g : (N == 0) = false := beq_eq_false_iff_ne.2 h0
        clear h0
        go_wp2_with fail
        go_ret
        exact ⟨by simp, BW7⟩
end Go.Proofs.YtdbohojncbeajaaGreat.J5

namespace Go.Proofs.YtdbohojncbeajaaGreat
open Go.ChangeShapes Go.WideShapes Go.ChangeAt Go.RowKit

theorem u8_in {n : Int} (h : (Lit.int .u8 n).wf = true) : 0 ≤ n ∧ n ≤ 255 := by
  simp [Lit.wf] at h
  have e1 : IntKind.u8.min = 0 := by decide
  have e2 : IntKind.u8.max = 255 := by decide
  omega

set_option maxRecDepth 100000 in
theorem orderVersions_lifted (os : Os) (started : os.Started) (H : Type) (enc : TypeId × Value → H) :
    ReturnsInHanded {} Tryz.checked os 7 .any (Rows.orderVersionsSpec.pre6 enc Tryz.prog Tryz.f7 Rows.orderVersionsRow.domain false) (Rows.orderVersionsSpec.post enc Tryz.prog Tryz.f7 false true false false) := by
  refine returnsInHanded_of_change (C := Tryz.checked) (by kernel_rfl) started (by kernel_rfl) Tryz.func7
    (ChangeSpec.witness6 (enc := enc) (C := Tryz.checked) false ⟨#[], #[.slice none 0 0, .slice none 0 0, .int .u8 0, .int .u8 0], []⟩ 8 (by kernel_rfl) (by kernel_rfl) (by kernel_rfl) (by kernel_rfl)) ?_
  intro W base args ds gs before hval0 hW _ _
  have hval : ∀ (j : Nat) t v, Tryz.f7.params[j]? = some t → args[j]? = some v → Value.okWide Tryz.prog W .any base t v := hval0
  have hW' := hW
  obtain ⟨p, q, hA0, hV, rfl, _, _⟩ := hW
  have hA : DataW.TrodAll enc Tryz.prog W 0 (fun _ => true) true Tryz.f7.params.toList args.toList ds p := hA0
  rw [Tryz.params7] at hA hval
  obtain ⟨v0, vs0, d0, ds0, p0, q0, hargs, rfl, rfl, h0, r0⟩ := trodAll_cons hA
  obtain ⟨v1, vs1, d1, ds1, p1, q1, rfl, rfl, rfl, h1, r1⟩ := trodAll_cons r0
  obtain ⟨v2, vs2, d2, ds2, p2, q2, rfl, rfl, rfl, h2, r2⟩ := trodAll_cons r1
  obtain ⟨v3, vs3, d3, ds3, p3, q3, rfl, rfl, rfl, h3, r3⟩ := trodAll_cons r2
  obtain ⟨rfl, rfl, rfl⟩ := trodAll_nil r3
  obtain rfl : args = #[v0, v1, v2, v3] := by cases args; simp_all
  obtain ⟨rfl, rfl⟩ := trodVars_none hV
  have lt0 : ∀ x ∈ p0, x.block < W.heap.size := by obtain ⟨m, hm⟩ := h0; exact DataW.trod_lt m _ _ _ hm
  have lt1 : ∀ x ∈ p1, x.block < W.heap.size := by obtain ⟨m, hm⟩ := h1; exact DataW.trod_lt m _ _ _ hm
  obtain ⟨a0, len0, cap0, rfl⟩ := okWide_slice Tryz.underlying44 (hval 0 44 v0 rfl rfl)
  obtain ⟨x0, rfl, l0⟩ := C3.open_ticks h0
  obtain ⟨a1, len1, cap1, rfl⟩ := okWide_slice Tryz.underlying44 (hval 1 44 v1 rfl rfl)
  obtain ⟨x1, rfl, l1⟩ := C3.open_ticks h1
  obtain ⟨a2, rfl, rfl, rfl, w2⟩ := open_int Tryz.underlying5 (hval 2 5 v2 rfl rfl) h2
  obtain ⟨a3, rfl, rfl, rfl, w3⟩ := open_int Tryz.underlying5 (hval 3 5 v3 rfl rfl) h3
  clear hA0 hval0
  simp only [List.append_nil] at hW'
  refine (J5.orderVersions_all a0 cap0 x0 a1 cap1 x1 a2 a3 W l0 l1 (u8_in w2) (u8_in w3)).mono fun e W' ⟨he, bel⟩ => ?_
  subst he
  exact ⟨_, rfl, _, _, _, [], _, [], hW', trodAll_mk1 (shut_bool Tryz.underlying4 _), (trodAll_cons_mk (Below.trod (by kernel_rfl) (by kernel_rfl) (of_decide_eq_true (by kernel_rfl)) h0 bel lt0) (trodAll_cons_mk (Below.trod (by kernel_rfl) (by kernel_rfl) (of_decide_eq_true (by kernel_rfl)) h1 bel lt1) (trodAll_cons_mk (shut_int Tryz.underlying5 w2) (trodAll_cons_mk (shut_int Tryz.underlying5 w3) trodAll_mk0)))), rfl, bel.frame _, fun h => by cases h⟩

theorem orderVersions_holds : Rows.OrderVersionsSaid :=
  OpenClaim.holds_of_wide 7 Tryz.f7 rfl rfl rfl rfl rfl rfl rfl ⟨rfl, rfl, rfl, rfl, rfl⟩ rfl rfl rfl rfl rfl (by kernel_rfl) Tryz.func7 (by kernel_rfl)
    (of_decide_eq_true (by kernel_rfl)) (by unfold Func.isWrapper; first | (rw [if_pos (by decide +kernel)]; kernel_rfl) | (rw [if_neg (by decide +kernel)]; exact ⟨rfl, rfl⟩))
    (fun os started H enc _ => orderVersions_lifted os started H enc)
end Go.Proofs.YtdbohojncbeajaaGreat
