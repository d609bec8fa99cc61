/- OrderSetsSaid is proved: at every input the law returns true, and each argument reads afterwards as it read before. No condition. What OrderSets does: it answers true. No condition but that what is handed in are numbers of their kinds. Sets of letters by the bits of a number; what trefoillaw6.bits makes. No condition but that the number is one of its kind. -/
import Derived.Test.YtdbohojncbeajaaGreatMo27
import Derived.Test.YtdbohojncbeajaaGreatMo29
import Derived.Laws.Bits64b
import Derived.WalkKit
import Derived.ProofKit
import Derived.OpenShut
namespace Go.Proofs.YtdbohojncbeajaaGreat.J5
open Go.RowKit Go.Shelf
open C3 (Tk belAl allocB)
open S2 (Sc Tr isT)
open V4 (Va Vl Ck isV botT Bxd val_mk er_mk mk_inj)

theorem bits_and_u16_nat (a b : Nat) (ha : a < 65536) (hb : b < 65536) : bits .and .u16 (a : Int) (b : Int) = ((a &&& b : Nat) : Int) := by
  have hx : a &&& b < 2 ^ 16 := Nat.and_lt_two_pow _ (by omega)
  have h1 : (BitVec.ofInt 16 (a : Int)).toNat = a := by
    rw [BitVec.ofInt_natCast, BitVec.toNat_ofNat]; exact Nat.mod_eq_of_lt (by omega)
  have h2 : (BitVec.ofInt 16 (b : Int)).toNat = b := by
    rw [BitVec.ofInt_natCast, BitVec.toNat_ofNat]; exact Nat.mod_eq_of_lt (by omega)
  show IntKind.u16.wrap ((BitVec.ofInt 16 (a : Int) &&& BitVec.ofInt 16 (b : Int)).toNat : Int) = _
  rw [BitVec.toNat_and, h1, h2, IntKind.wrap_u16]
  omega
/-- Is the i-th bit set? -/
def BT (n : Int) (i : Nat) : Bool := bits .and .u16 (n / 2 ^ i) 1 == 1
theorem BT_nat (n i : Nat) (hn : n < 65536) : BT (n : Int) i = n.testBit i := by
  unfold BT
  have e : (n : Int) / 2 ^ i = ((n / 2 ^ i : Nat) : Int) := by simp
  have hl : n / 2 ^ i < 65536 := Nat.lt_of_le_of_lt (Nat.div_le_self _ _) hn
  rw [e, show (1 : Int) = ((1 : Nat) : Int) from rfl, bits_and_u16_nat _ _ hl (by omega), Nat.and_one_is_mod, Nat.testBit_eq_decide_div_mod_eq]
  rw [Bool.eq_iff_iff, beq_iff_eq, decide_eq_true_iff]
  omega
/-- The letters of a number's first bits. -/
def ltr (i : Nat) : Str := [byt (97 + (i : Int))]
def bitsL (n : Int) (k : Nat) : List Str := ((List.range k).filter (BT n)).map ltr
theorem bitsL_yes {n : Int} {k : Nat} (h : BT n k = true) : bitsL n (k + 1) = bitsL n k ++ [ltr k] := by
  unfold bitsL
  rw [List.range_succ, List.filter_append, List.map_append, List.filter_cons_of_pos h]; rfl
theorem bitsL_no {n : Int} {k : Nat} (h : BT n k = false) : bitsL n (k + 1) = bitsL n k := by
  unfold bitsL
  rw [List.range_succ, List.filter_append, List.map_append, List.filter_cons_of_neg (by rw [h]; decide)]; simp
theorem ltr_lt {i j : Nat} (hi : i < 16) (hj : j < 16) : ltr i < ltr j ↔ i < j := by
  unfold ltr
  rw [List.cons_lt_cons_iff, byt_lt (by omega) (by omega)]
  constructor
  · rintro (h | ⟨_, h⟩)
    · omega
    · exact absurd h (List.lt_irrefl _)
  · exact fun h => .inl (by omega)
theorem ltr_inj {i j : Nat} (hi : i < 16) (hj : j < 16) (h : ltr i = ltr j) : i = j := by
  rcases Nat.lt_trichotomy i j with h1 | h1 | h1
  · have := (ltr_lt hi hj).2 h1
    rw [h] at this
    exact absurd this (List.lt_irrefl _)
  · exact h1
  · have := (ltr_lt hj hi).2 h1
    rw [h] at this
    exact absurd this (List.lt_irrefl _)
theorem bitsL_len (n : Int) (k : Nat) : (bitsL n k).length ≤ k := by
  unfold bitsL
  rw [List.length_map]
  have := List.length_filter_le (BT n) (List.range k)
  rwa [List.length_range] at this
theorem bitsL_one {n : Int} {k : Nat} {s : Str} (h : s ∈ bitsL n k) : s.length = 1 := by
  obtain ⟨i, _, rfl⟩ := List.mem_map.1 h
  rfl
theorem bitsL_srt (n : Int) : R1.Srt (bitsL n 16) := by
  show List.Pairwise (· < ·) _
  unfold bitsL
  rw [List.pairwise_map]
  have h1 : ((List.range 16).filter (BT n)).Pairwise (· < ·) := List.Pairwise.filter _ List.pairwise_lt_range
  refine List.Pairwise.imp_of_mem ?_ h1
  intro i j hi hj h
  have hi2 := List.mem_range.1 (List.mem_filter.1 hi).1
  have hj2 := List.mem_range.1 (List.mem_filter.1 hj).1
  exact (ltr_lt hi2 hj2).2 h
theorem bitsL_is (n : Int) : isV (.mk 3 []) (.mk 0 0 (bitsL n 16) [] []) = true :=
  isV_set.2 ⟨_, rfl, bitsL_srt n, by have := bitsL_len n 16; omega, List.all_eq_true.2 fun s hs => decide_eq_true (by rw [bitsL_one hs]; decide)⟩
theorem bitsL_mem {n : Int} {i : Nat} (hi : i < 16) : ltr i ∈ bitsL n 16 ↔ BT n i = true := by
  unfold bitsL
  rw [List.mem_map]
  constructor
  · rintro ⟨j, hj, e⟩
    obtain ⟨h1, h2⟩ := List.mem_filter.1 hj
    obtain rfl := ltr_inj (List.mem_range.1 h1) hi e
    exact h2
  · exact fun h => ⟨i, List.mem_filter.2 ⟨List.mem_range.2 hi, h⟩, rfl⟩
/-- All of the one set is in the other one: just if the one's bits are among the other's. -/
theorem bitsL_sub {a b : Int} (ha : 0 ≤ a ∧ a ≤ 65535) (hb : 0 ≤ b ∧ b ≤ 65535) : (∀ s ∈ bitsL a 16, s ∈ bitsL b 16) ↔ bits .and .u16 a b = a := by
  obtain ⟨m, rfl⟩ : ∃ m : Nat, a = m := ⟨a.toNat, by omega⟩
  obtain ⟨k, rfl⟩ : ∃ k : Nat, b = k := ⟨b.toNat, by omega⟩
  have hm : m < 65536 := by omega
  have hk : k < 65536 := by omega
  rw [bits_and_u16_nat m k hm hk, Int.natCast_inj]
  constructor
  · intro h
    refine Nat.eq_of_testBit_eq fun i => ?_
    rw [Nat.testBit_and]
    by_cases hi : i < 16
    · cases ht : m.testBit i with
      | false => rfl
      | true =>
        have h1 := h (ltr i) ((bitsL_mem hi).2 (by rw [BT_nat m i hm]; exact ht))
        have h2 := (bitsL_mem hi).1 h1
        rw [BT_nat k i hk] at h2
        rw [h2]; rfl
    · rw [Nat.testBit_lt_two_pow (Nat.lt_of_lt_of_le hm (show 65536 ≤ 2 ^ i from Nat.pow_le_pow_right (n := 2) (by omega) (show 16 ≤ i by omega)))]; rfl
  · intro h s hs
    obtain ⟨i, hi, rfl⟩ := List.mem_map.1 hs
    obtain ⟨h1, h2⟩ := List.mem_filter.1 hi
    have hi := List.mem_range.1 h1
    rw [BT_nat m i hm, ← h, Nat.testBit_and, Bool.and_eq_true] at h2
    exact (bitsL_mem hi).2 (by rw [BT_nat k i hk]; exact h2.2)
theorem and_comm16 (a b : Int) : bits .and .u16 a b = bits .and .u16 b a := by
  show IntKind.u16.wrap ((BitVec.ofInt 16 a &&& BitVec.ofInt 16 b).toNat : Int) = IntKind.u16.wrap ((BitVec.ofInt 16 b &&& BitVec.ofInt 16 a).toNat : Int)
  rw [BitVec.and_comm]

/-- Between the rounds. -/
def BSt (U : World) (n : Int) (i : Nat) (W : World) : Prop := ∃ vb, JS U (.slice none 0 0) vb [] (bitsL n i) W

set_option maxRecDepth 100000 in
set_option maxHeartbeats 4000000 in
theorem bits_any (n : Int) (w : World) : Calls Tryz.prog 9 #[.int .u16 n] w (fun e w' => ∃ z : Vl, e = .returned z.val ∧ z.er = .mk 0 0 (bitsL n 16) [] [] ∧ z.In w' ∧ Below w.heap.size w w') := by
  go_enter Tryz.func9, Tryz.ntmps9
  go_wp2_with fail
  go_loopw [4] (fun iv wr => ∃ (i : Nat), i ≤ 16 ∧ iv = .int .i64 i ∧ Hid (BSt w n i wr)) (fun iv _ => 16 - (intOf iv).toNat)
  case atStart => exact ⟨0, by omega, rfl, .slice none 0 0, ⟨(Blk.new w _ _).below (allocB _ _), by have := Blk.new (w.alloc (.cells #[.int .u64 0, .int .u64 0, .slice none 0 0, .slice none 0 0, .slice none 0 0] 29)) 29 #[.int .u64 0, .int .u64 0, .slice none 0 0, .slice none 0 0, .slice none 0 0]; rw [World.size_alloc] at this; exact this, R1.Own.nil _ _, R1.Own.nil _ _, (fun _ h => by cases h), belAl (belAl (Below.refl _ _))⟩⟩
  case round =>
    obtain ⟨i, hi, rfl, vb, HS⟩ := hrel
    obtain ⟨Ab, cb, rfl, hb1, hb2, hlb⟩ := HS.ob.form
    obtain ⟨ys, hys⟩ : ∃ ys, bitsL n i = ys := ⟨_, rfl⟩
    rw [hys] at HS hb1 hlb
    have HYS := Lib.hid hys
    clear hys
    by_cases hlt : i < 16
    · have hq := HS.qb
      have c2 : wr.cell? ⟨w.heap.size + 1, 2, none⟩ = some (.slice Ab ys.length cb) := blk_cell hq 2 _ rfl
      obtain ⟨bt, hbt⟩ : ∃ bt, (bits BinOp.and IntKind.u16 (n / 2 ^ i) 1 == 1) = bt := ⟨_, rfl⟩
      have HBT : Hid (BT n i = bt) := hbt
      cases bt with
      | false =>
        have HF : Hid (BSt w n (i + 1) wr) := ⟨_, by rw [bitsL_no HBT.out, HYS.out]; exact HS⟩
        clear HS hlb hb1
        go_wp2_with fail
        go_roundw
        case rel => exact ⟨i + 1, by omega, by go_num, HF⟩
        case measure => simp [intOf]; omega
      | true =>
        have hcv := conv_one (97 + (i : Int)) (by omega) wr
        have hlen : ys.length ≤ 16 := by rw [← HYS.out]; have := bitsL_len n i; omega
        obtain ⟨V, hV⟩ : ∃ V, wr.alloc (.cells #[.int .u8 (97 + (i : Int))] 5) = V := ⟨_, rfl⟩
        rw [hV] at hcv
        have HSH : Hid (JS w (.slice none 0 0) (.slice Ab ys.length cb) [] ys V) := HS.later (show Below wr.heap.size wr V by rw [← hV]; exact allocB _ _)
        replace hq := HSH.out.qb
        have hlt2 := hq.lt
        have HE : Hid (S [byt (97 + (i : Int))] = S (ltr i)) := rfl
        clear HS hlb hb1 hb2
        rw [HE.out] at hcv
        clear HE
        go_wp2_with (at_builtin
                     refine R1.wpList_app _ rfl (.tmp 17) (.tmp 23) _ rfl (w.heap.size + 2) Tryz.underlying25 _ ys rfl (HSH.out.ob.alloc _) (some ⟨V.heap.size, 0, none⟩) 1 1 [ltr i] rfl rfl ?ql ?qn ?qb ?_
                     case ql => exact .inr ⟨V.heap.size, 0, rfl, by simp, fun i x hx => by (have := (List.getElem?_eq_some_iff.1 hx).1; simp at this; subst this; simp at hx; subst hx; simp)⟩
                     case qn => (simp; omega)
                     case qb => (have := HSH.out.bel.size; have := HSH.out.qb.lt; simp; omega)
                     intro v2 w2 hown2 hg2 hat2
                     have HA := HSH.out.later (allocB V (.cells #[.string (S (ltr i))] 9))
                     have hx2 := hq.below (allocB V (.cells #[.string (S (ltr i))] 9))
                     have low : some (w.heap.size + 1) ≠ (Value.slice Ab ys.length cb).ownBlock := fun e => by have := (HSH.out.ob.lt e.symm).1; omega
                     replace hx2 := hx2.grown hg2 low
                     have f2' := blk_frozen hx2 2
                     have x2' : w2.cell? ⟨w.heap.size + 1, 2, none⟩ = some (.slice Ab ys.length cb) := blk_cell hx2 2 _ rfl
                     have HF := Lib.hid (HA.appB hown2 hg2 hat2)
                     have HE2 : Hid (ys ++ [ltr i] = bitsL n (i + 1)) := by show _ = _; rw [bitsL_yes HBT.out, HYS.out]
                     rw [HE2.out] at HF
                     obtain ⟨A2, c3, hv2, -⟩ := hown2.form
                     generalize (ys ++ [ltr i]).length = n2 at hv2
                     subst hv2
                     clear HA hx2 low hown2 hg2 hat2)
        go_roundw
        case rel => exact ⟨i + 1, by omega, by go_num, ⟨_, HF.out⟩⟩
        case measure => simp [intOf]; omega
    · have h16 : i = 16 := by omega
      subst h16
      have q0 := HS.qa
      have q1 := HS.qb
      have hbw := HS.bel
      have ho := HS.ob
      have hlen : ys.length ≤ 16 := by rw [← HYS.out]; exact bitsL_len n 16
      have HO := Lib.hid ho
      clear HS hlb hb1 hb2 ho
      have x0 : wr.cell? ⟨w.heap.size + 1, 0, none⟩ = some (.int .u64 0) := blk_cell q1 0 _ rfl
      have x1 : wr.cell? ⟨w.heap.size + 1, 1, none⟩ = some (.int .u64 0) := blk_cell q1 1 _ rfl
      have x2 : wr.cell? ⟨w.heap.size + 1, 2, none⟩ = some (.slice Ab ys.length cb) := blk_cell q1 2 _ rfl
      have x3 : wr.cell? ⟨w.heap.size + 1, 3, none⟩ = some (.slice none 0 0) := blk_cell q1 3 _ rfl
      have x4 : wr.cell? ⟨w.heap.size + 1, 4, none⟩ = some (.slice none 0 0) := blk_cell q1 4 _ rfl
      have d0 : wr.cell? ⟨w.heap.size, 0, none⟩ = some (.int .u64 0) := blk_cell q0 0 _ rfl
      have d1 : wr.cell? ⟨w.heap.size, 1, none⟩ = some (.int .u64 0) := blk_cell q0 1 _ rfl
      have d2 : wr.cell? ⟨w.heap.size, 2, none⟩ = some (.slice none 0 0) := blk_cell q0 2 _ rfl
      have d3 : wr.cell? ⟨w.heap.size, 3, none⟩ = some (.slice none 0 0) := blk_cell q0 3 _ rfl
      have d4 : wr.cell? ⟨w.heap.size, 4, none⟩ = some (.slice none 0 0) := blk_cell q0 4 _ rfl
      have f0 := blk_frozen q0 0
      have f1 := blk_frozen q0 1
      have f2 := blk_frozen q0 2
      have f3 := blk_frozen q0 3
      have f4 := blk_frozen q0 4
      go_wp2_with fail
      refine bodyPost_ret (V4.results_cellV rfl _ _ w.heap.size (.int .u64 0) (.int .u64 0) (.slice Ab ys.length cb) (.slice none 0 0) (.slice none 0 0) rfl (blk_cell (set5_blk q0) 0 _ rfl) (blk_cell (set5_blk q0) 1 _ rfl) (blk_cell (set5_blk q0) 2 _ rfl) (blk_cell (set5_blk q0) 3 _ rfl) (blk_cell (set5_blk q0) 4 _ rfl)) rfl ?_
      have ho5 : R1.Own (set5 wr w.heap.size (.int .u64 0) (.int .u64 0) (.slice Ab ys.length cb) (.slice none 0 0) (.slice none 0 0)) (w.heap.size + 2) (.slice Ab ys.length cb) ys := own_set (own_set (own_set (own_set (own_set HO.out _ _ _ (by omega)) _ _ _ (by omega)) _ _ _ (by omega)) _ _ _ (by omega)) _ _ _ (by omega)
      obtain ⟨A5, c5, e5, g1, g2, g3⟩ := ho5.form
      cases e5
      exact ⟨vlT Ab cb ys, rfl, by rw [← HYS.out]; rfl, vlT_in g3 g1 g2 (by omega) (fun s hs => by rw [bitsL_one (n := n) (k := 16) (by rw [HYS.out]; exact hs)]; decide), set5_bel hbw (Nat.le_refl _)⟩
end Go.Proofs.YtdbohojncbeajaaGreat.J5

namespace Go.Proofs.YtdbohojncbeajaaGreat.J5
open Go.RowKit Go.Shelf
open C3 (Tk belAl allocB)
open S2 (Sc Tr isT)
open V4 (Va Vl Ck isV botT Bxd val_mk er_mk takeH scLeaf scLeaf_in mk_inj)

set_option maxRecDepth 100000 in
set_option maxHeartbeats 4000000 in
theorem orderSets_all (a b : Int) (w : World) (ha : 0 ≤ a ∧ a ≤ 65535) (hb : 0 ≤ b ∧ b ≤ 65535) : Calls Tryz.prog 3 #[.int .u16 a, .int .u16 b] w (RetV w (.bool true)) := by
  obtain ⟨M, hM⟩ : ∃ M, bits .and .u16 a b = M := ⟨_, rfl⟩
  have HC : Hid (∀ (x y : Vl) (W : World), x.er = .mk 0 0 (bitsL a 16) [] [] → y.er = .mk 0 0 (bitsL b 16) [] [] → x.In W → y.In W → Calls Tryz.prog 10 #[(scLeaf 3).val, x.val, y.val] W (RetV W (.tuple #[.int .i64 (cmpN (decide (M = a)) (decide (M = b))), .nilIface]))) := fun x y W ex ey hx hy =>
    Cmp_by False False.elim (scLeaf 3) x y W (scLeaf_in _ _ _) hx hy (fun _ => .inr (noP_leaf (by decide))) isT_3 (by rw [ex]; exact bitsL_is a) (by rw [ey]; exact bitsL_is b) _ _
      (by rw [show (scLeaf 3).er = .mk 3 [] from rfl, leV_set, ex, ey, decide_eq_true_iff, ← hM]; exact bitsL_sub ha hb)
      (by rw [show (scLeaf 3).er = .mk 3 [] from rfl, leV_set, ex, ey, decide_eq_true_iff, ← hM, and_comm16]; exact bitsL_sub hb ha)
  have HAB : Hid (M = a → M = b → a = b) := fun h1 h2 => h1.symm.trans h2
  have HAA : Hid (a = b → M = a) := fun h => by
    rw [← hM, ← h]
    exact (bitsL_sub ha ha).1 fun s hs => hs
  have HM := Lib.hid hM
  clear hM
  go_enter Tryz.func3, Tryz.ntmps3
  go_wp2_with fail
  refine (known6_any w).mono ?_
  rintro e W0 ⟨rfl, bW0⟩
  have BW0 : Below w.heap.size w W0 := bW0
  go_wp2_with fail
  refine (bits_any a W0).mono ?_
  rintro e W1 ⟨⟨xn, xm, xsA, xsc, xss, xcA, xcc, xcs, xvA, xvc, xvs⟩, rfl, hxe, hxi, bW1⟩
  simp only [val_mk]
  have HXE := Lib.hid hxe
  clear hxe
  have BW1 : Below w.heap.size w W1 := BW0.trans (bW1.mono BW0.size)
  go_wp2_with fail
  refine (bits_any b W1).mono ?_
  rintro e W2 ⟨⟨yn, ym, ysA, ysc, yss, ycA, ycc, ycs, yvA, yvc, yvs⟩, rfl, hye, hyi, bW2⟩
  simp only [val_mk]
  have HYE := Lib.hid hye
  clear hye
  replace hxi := hxi.later bW2
  have BW2 : Below w.heap.size w W2 := BW1.trans (bW2.mono BW1.size)
  go_upto_region 4 with fail
  obtain ⟨W3, hW3⟩ : ∃ W3, ((W2.alloc (.cells #[.int .u64 xn, .int .u64 xm, .slice xsA xss.length xsc, .slice xcA xcs.length xcc, .slice xvA xvs.length xvc] 29)).alloc (.cells #[.int .u64 yn, .int .u64 ym, .slice ysA yss.length ysc, .slice ycA ycs.length ycc, .slice yvA yvs.length yvc] 29)) = W3 := ⟨_, rfl⟩
  have bW3 : Below W2.heap.size W2 W3 := by rw [← hW3]; exact belAl (belAl (Below.refl _ _))
  have X1 : Bxd W3 (W2.heap.size) #[.int .u64 xn, .int .u64 xm, .slice xsA xss.length xsc, .slice xcA xcs.length xcc, .slice xvA xvs.length xvc] := by
    rw [← hW3]
    have := V4.Bxd.new (W := W2) (cs := #[.int .u64 xn, .int .u64 xm, .slice xsA xss.length xsc, .slice xcA xcs.length xcc, .slice xvA xvs.length xvc]) (t := 29)
    exact this.al _
  have X2 : Bxd W3 (W2.heap.size + 1) #[.int .u64 yn, .int .u64 ym, .slice ysA yss.length ysc, .slice ycA ycs.length ycc, .slice yvA yvs.length yvc] := by
    rw [← hW3]
    have := V4.Bxd.new (W := (W2.alloc (.cells #[.int .u64 xn, .int .u64 xm, .slice xsA xss.length xsc, .slice xcA xcs.length xcc, .slice xvA xvs.length xvc] 29))) (cs := #[.int .u64 yn, .int .u64 ym, .slice ysA yss.length ysc, .slice ycA ycs.length ycc, .slice yvA yvs.length yvc]) (t := 29)
    rw [World.size_alloc] at this
    exact this
  have BW3 : Below w.heap.size w W3 := BW2.trans (bW3.mono BW2.size)
  rw [hW3]
  have HI := Lib.hid (And.intro (hxi.later bW3) (hyi.later bW3))
  clear hxi hyi hW3
  have m1 := X1.1
  have m2 := X2.1
  have l0 : W3.cell? ⟨W2.heap.size, 0, none⟩ = some (.int .u64 xn) := X1.2 0 _ rfl
  have l1 : W3.cell? ⟨W2.heap.size, 1, none⟩ = some (.int .u64 xm) := X1.2 1 _ rfl
  have l2 : W3.cell? ⟨W2.heap.size, 2, none⟩ = some (.slice xsA xss.length xsc) := X1.2 2 _ rfl
  have l3 : W3.cell? ⟨W2.heap.size, 3, none⟩ = some (.slice xcA xcs.length xcc) := X1.2 3 _ rfl
  have l4 : W3.cell? ⟨W2.heap.size, 4, none⟩ = some (.slice xvA xvs.length xvc) := X1.2 4 _ rfl
  have l5 : W3.cell? ⟨W2.heap.size + 1, 0, none⟩ = some (.int .u64 yn) := X2.2 0 _ rfl
  have l6 : W3.cell? ⟨W2.heap.size + 1, 1, none⟩ = some (.int .u64 ym) := X2.2 1 _ rfl
  have l7 : W3.cell? ⟨W2.heap.size + 1, 2, none⟩ = some (.slice ysA yss.length ysc) := X2.2 2 _ rfl
  have l8 : W3.cell? ⟨W2.heap.size + 1, 3, none⟩ = some (.slice ycA ycs.length ycc) := X2.2 3 _ rfl
  have l9 : W3.cell? ⟨W2.heap.size + 1, 4, none⟩ = some (.slice yvA yvs.length yvc) := X2.2 4 _ rfl
  refine wp_region_noPanic ?_
  refine wp_region_held_drew (S := (fun w' => w'.cell? ⟨W2.heap.size, 0, none⟩ = some (.int .u64 xn) ∧ w'.cell? ⟨W2.heap.size, 1, none⟩ = some (.int .u64 xm) ∧ w'.cell? ⟨W2.heap.size, 2, none⟩ = some (.slice xsA xss.length xsc) ∧ w'.cell? ⟨W2.heap.size, 3, none⟩ = some (.slice xcA xcs.length xcc) ∧ w'.cell? ⟨W2.heap.size, 4, none⟩ = some (.slice xvA xvs.length xvc) ∧ w'.cell? ⟨W2.heap.size + 1, 0, none⟩ = some (.int .u64 yn) ∧ w'.cell? ⟨W2.heap.size + 1, 1, none⟩ = some (.int .u64 ym) ∧ w'.cell? ⟨W2.heap.size + 1, 2, none⟩ = some (.slice ysA yss.length ysc) ∧ w'.cell? ⟨W2.heap.size + 1, 3, none⟩ = some (.slice ycA ycs.length ycc) ∧ w'.cell? ⟨W2.heap.size + 1, 4, none⟩ = some (.slice yvA yvs.length yvc))) (by kernel_rfl) ?_ (fun hHeld => ?_)
  · exact ⟨l0, l1, l2, l3, l4, l5, l6, l7, l8, l9⟩
  refine takeH 1 18 (v := ?q1_v1) rfl rfl (by kernel_rfl) (by kernel_rfl) (by kernel_rfl) (fun _ _ _ h => h) (Or.inl ⟨by rfl, ?q1_h1⟩) (by assumption) ?q1_r1
  case q1_h1 => (intro w hSw; (try dsimp only at hSw); go_simp; try (with_reducible rfl))
  simp only [List.set_cons_zero, List.set_cons_succ]
  refine takeH 2 19 (v := ?q1_v2) rfl rfl (by kernel_rfl) (by kernel_rfl) (by kernel_rfl) (fun _ _ _ h => h) (Or.inl ⟨by rfl, ?q1_h2⟩) (by assumption) ?q1_r2
  case q1_h2 => (intro w hSw; (try dsimp only at hSw); go_simp; try (with_reducible rfl))
  simp only [List.set_cons_zero, List.set_cons_succ]
  refine wpAnyH_ready (rs := [0]) (by kernel_rfl) (by simp) ?_
  refine AllReadyH.cons rfl (fun K hK => ?_) AllReadyH.nil
  go_simp
  go_wp2_with (go_at_call 11; refine (of6_any 3 none 0 0 W3.drew).mono ?_; rintro e U ⟨rfl, hbU0⟩; (have hbU : Below W3.heap.size W3 U := (Below.refl _ W3).drew.trans hbU0; have hUs := hbU.size; replace l0 := (hbU.cell (p := ⟨W2.heap.size, 0, none⟩) m1).trans l0; replace l1 := (hbU.cell (p := ⟨W2.heap.size, 1, none⟩) m1).trans l1; replace l2 := (hbU.cell (p := ⟨W2.heap.size, 2, none⟩) m1).trans l2; replace l3 := (hbU.cell (p := ⟨W2.heap.size, 3, none⟩) m1).trans l3; replace l4 := (hbU.cell (p := ⟨W2.heap.size, 4, none⟩) m1).trans l4; replace l5 := (hbU.cell (p := ⟨W2.heap.size + 1, 0, none⟩) m2).trans l5; replace l6 := (hbU.cell (p := ⟨W2.heap.size + 1, 1, none⟩) m2).trans l6; replace l7 := (hbU.cell (p := ⟨W2.heap.size + 1, 2, none⟩) m2).trans l7; replace l8 := (hbU.cell (p := ⟨W2.heap.size + 1, 3, none⟩) m2).trans l8; replace l9 := (hbU.cell (p := ⟨W2.heap.size + 1, 4, none⟩) m2).trans l9; clear hbU0))
  refine hK.out _ _ ?_ (fun hHeld => ?_)
  · exact ⟨l0, l1, l2, l3, l4, l5, l6, l7, l8, l9⟩
  clear hK K
  refine wpAnyH_ready (rs := [3]) (by kernel_rfl) (by simp) ?_
  refine AllReadyH.cons rfl (fun K hK => ?_) AllReadyH.nil
  go_simp
  go_wp2_with (go_at_call 10; refine (HC.out (.mk xn xm xsA xsc xss xcA xcc xcs xvA xvc xvs) (.mk yn ym ysA ysc yss ycA ycc ycs yvA yvc yvs) U HXE.out HYE.out (HI.out.1.later hbU) (HI.out.2.later hbU)).mono ?_; rintro e T ⟨rfl, hbT⟩; (replace l0 := (hbT.cell (p := ⟨W2.heap.size, 0, none⟩) (Nat.lt_of_lt_of_le m1 hUs)).trans l0; replace l1 := (hbT.cell (p := ⟨W2.heap.size, 1, none⟩) (Nat.lt_of_lt_of_le m1 hUs)).trans l1; replace l2 := (hbT.cell (p := ⟨W2.heap.size, 2, none⟩) (Nat.lt_of_lt_of_le m1 hUs)).trans l2; replace l3 := (hbT.cell (p := ⟨W2.heap.size, 3, none⟩) (Nat.lt_of_lt_of_le m1 hUs)).trans l3; replace l4 := (hbT.cell (p := ⟨W2.heap.size, 4, none⟩) (Nat.lt_of_lt_of_le m1 hUs)).trans l4; replace l5 := (hbT.cell (p := ⟨W2.heap.size + 1, 0, none⟩) (Nat.lt_of_lt_of_le m2 hUs)).trans l5; replace l6 := (hbT.cell (p := ⟨W2.heap.size + 1, 1, none⟩) (Nat.lt_of_lt_of_le m2 hUs)).trans l6; replace l7 := (hbT.cell (p := ⟨W2.heap.size + 1, 2, none⟩) (Nat.lt_of_lt_of_le m2 hUs)).trans l7; replace l8 := (hbT.cell (p := ⟨W2.heap.size + 1, 3, none⟩) (Nat.lt_of_lt_of_le m2 hUs)).trans l8; replace l9 := (hbT.cell (p := ⟨W2.heap.size + 1, 4, none⟩) (Nat.lt_of_lt_of_le m2 hUs)).trans l9))
  refine hK.out _ _ ?_ (fun hHeld => ?_)
  · exact ⟨l0, l1, l2, l3, l4, l5, l6, l7, l8, l9⟩
  clear hK K
  refine takeH 4 16 (v := ?q1_v4) rfl rfl (by kernel_rfl) (by kernel_rfl) (by kernel_rfl) (fun _ _ _ h => h) (Or.inl ⟨by rfl, ?q1_h4⟩) (by assumption) ?q1_r4
  case q1_h4 => (intro w hSw; (try dsimp only at hSw); go_simp; try (with_reducible rfl))
  simp only [List.set_cons_zero, List.set_cons_succ]
  refine takeH 5 21 (v := ?q1_v5) rfl rfl (by kernel_rfl) (by kernel_rfl) (by kernel_rfl) (fun _ _ _ h => h) (Or.inl ⟨by rfl, ?q1_h5⟩) (by assumption) ?q1_r5
  case q1_h5 => (intro w hSw; (try dsimp only at hSw); go_simp; try (with_reducible rfl))
  simp only [List.set_cons_zero, List.set_cons_succ]
  refine takeH 6 22 (v := ?q1_v6) rfl rfl (by kernel_rfl) (by kernel_rfl) (by kernel_rfl) (fun _ _ _ h => h) (Or.inl ⟨by rfl, ?q1_h6⟩) (by assumption) ?q1_r6
  case q1_h6 => (intro w hSw; (try dsimp only at hSw); go_simp; try (with_reducible rfl))
  simp only [List.set_cons_zero, List.set_cons_succ]
  refine takeH 7 7 (v := ?q1_v7) rfl rfl (by kernel_rfl) (by kernel_rfl) (by kernel_rfl) (fun _ _ _ h => h) (Or.inl ⟨by rfl, ?q1_h7⟩) (by assumption) ?q1_r7
  case q1_h7 => (intro w hSw; (try dsimp only at hSw); go_simp; try (with_reducible rfl))
  simp only [List.set_cons_zero, List.set_cons_succ]
  refine takeH 8 8 (v := ?q1_v8) rfl rfl (by kernel_rfl) (by kernel_rfl) (by kernel_rfl) (fun _ _ _ h => h) (Or.inl ⟨by rfl, ?q1_h8⟩) (by assumption) ?q1_r8
  case q1_h8 => (intro w hSw; (try dsimp only at hSw); go_simp; try (with_reducible rfl))
  simp only [List.set_cons_zero, List.set_cons_succ]
  refine wpAnyH_done (by kernel_rfl) ?_ _
  refine NoPanic.normal ?_
  clear l0 l1 l2 l3 l4 l5 l6 l7 l8 l9
  have hbT3 := BW3.trans ((hbU.trans (hbT.mono hbU.size)).mono BW3.size)
  clear X1 X2
  by_cases h0 : a = b
  · have h1 := HAA.out h0
    have g0 : (a == b) = true := beq_iff_eq.2 h0
    rw [decide_eq_true h1, decide_eq_true (h1.trans h0)]
    clear h0 h1
    go_wp2_with fail
    go_ret
    exact ⟨by simp [cmpN], hbT3⟩
  · have g0 : (a == b) = false := beq_eq_false_iff_ne.2 h0
    by_cases h1 : M = a
    · have h2 : ¬ M = b := fun h2 => h0 (HAB.out h1 h2)
      rw [decide_eq_true h1, decide_eq_false h2]
      have g1 : (bits .and .u16 a b == a) = true := by rw [HM.out]; exact beq_iff_eq.2 h1
      clear h0 h1 h2
      go_wp2_with fail
      go_ret
      exact ⟨by simp [cmpN], hbT3⟩
    · have g1 : (bits .and .u16 a b == a) = false := by rw [HM.out]; exact beq_eq_false_iff_ne.2 h1
      rw [decide_eq_false h1]
      by_cases h2 : M = b
      · rw [decide_eq_true h2]
        have g2 : (bits .and .u16 a b == b) = true := by rw [HM.out]; exact beq_iff_eq.2 h2
        clear h0 h1 h2
        go_wp2_with fail
        go_ret
        exact ⟨by simp [cmpN], hbT3⟩
      · rw [decide_eq_false h2]
        have g2 : (bits .and .u16 a b == b) = false := by rw [HM.out]; exact beq_eq_false_iff_ne.2 h2
        clear h0 h1 h2
        go_wp2_with fail
        go_ret
        exact ⟨by simp [cmpN], hbT3⟩
end Go.Proofs.YtdbohojncbeajaaGreat.J5

namespace Go.Proofs.YtdbohojncbeajaaGreat
open Go.ChangeShapes Go.WideShapes Go.ChangeAt Go.RowKit

theorem u16_in {n : Int} (h : (Lit.int .u16 n).wf = true) : 0 ≤ n ∧ n ≤ 65535 := by
  simp [Lit.wf] at h
  have e1 : IntKind.u16.min = 0 := by decide
  have e2 : IntKind.u16.max = 65535 := by decide
  omega

set_option maxRecDepth 100000 in
theorem orderSets_lifted (os : Os) (started : os.Started) (H : Type) (enc : TypeId × Value → H) :
    ReturnsInHanded {} Tryz.checked os 3 .any (Rows.orderSetsSpec.pre6 enc Tryz.prog Tryz.f3 Rows.orderSetsRow.domain false) (Rows.orderSetsSpec.post enc Tryz.prog Tryz.f3 false true false false) := by
  refine returnsInHanded_of_change (C := Tryz.checked) (by kernel_rfl) started (by kernel_rfl) Tryz.func3
    (ChangeSpec.witness6 (enc := enc) (C := Tryz.checked) false ⟨#[], #[.int .u16 0, .int .u16 0], []⟩ 8 (by kernel_rfl) (by kernel_rfl) (by kernel_rfl) (by kernel_rfl)) ?_
  intro W base args ds gs before hval0 hW _ _
  have hval : ∀ (j : Nat) t v, Tryz.f3.params[j]? = some t → args[j]? = some v → Value.okWide Tryz.prog W .any base t v := hval0
  have hW' := hW
  obtain ⟨p, q, hA0, hV, rfl, _, _⟩ := hW
  have hA : DataW.TrodAll enc Tryz.prog W 0 (fun _ => true) true Tryz.f3.params.toList args.toList ds p := hA0
  rw [Tryz.params3] at hA hval
  obtain ⟨v0, vs0, d0, ds0, p0, q0, hargs, rfl, rfl, h0, r0⟩ := trodAll_cons hA
  obtain ⟨v1, vs1, d1, ds1, p1, q1, rfl, rfl, rfl, h1, r1⟩ := trodAll_cons r0
  obtain ⟨rfl, rfl, rfl⟩ := trodAll_nil r1
  obtain rfl : args = #[v0, v1] := by cases args; simp_all
  obtain ⟨rfl, rfl⟩ := trodVars_none hV
  obtain ⟨a0, rfl, rfl, rfl, w0⟩ := open_int Tryz.underlying22 (hval 0 22 v0 rfl rfl) h0
  obtain ⟨a1, rfl, rfl, rfl, w1⟩ := open_int Tryz.underlying22 (hval 1 22 v1 rfl rfl) h1
  clear hA0 hval0
  simp only [List.append_nil] at hW'
  refine (J5.orderSets_all a0 a1 W (u16_in w0) (u16_in w1)).mono fun e W' ⟨he, bel⟩ => ?_
  subst he
  exact ⟨_, rfl, _, _, _, [], _, [], hW', trodAll_mk1 (shut_bool Tryz.underlying4 _), (trodAll_cons_mk (shut_int Tryz.underlying22 w0) (trodAll_cons_mk (shut_int Tryz.underlying22 w1) trodAll_mk0)), rfl, bel.frame _, fun h => by cases h⟩

theorem orderSets_holds : Rows.OrderSetsSaid :=
  OpenClaim.holds_of_wide 3 Tryz.f3 rfl rfl rfl rfl rfl rfl rfl ⟨rfl, rfl, rfl, rfl, rfl⟩ rfl rfl rfl rfl rfl (by kernel_rfl) Tryz.func3 (by kernel_rfl)
    (of_decide_eq_true (by kernel_rfl)) (by unfold Func.isWrapper; first | (rw [if_pos (by decide +kernel)]; kernel_rfl) | (rw [if_neg (by decide +kernel)]; exact ⟨rfl, rfl⟩))
    (fun os started H enc _ => orderSets_lifted os started H enc)
end Go.Proofs.YtdbohojncbeajaaGreat
