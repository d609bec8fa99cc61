/- What package order does: weighed, Leq, Cmp; of pairs, if joinPairs does what it should. No condition but that what it takes lies in memory. -/
import Derived.Test.YtdbohojncbeajaaGreatMo24
import Derived.Test.YtdbohojncbeajaaGreatMo25
namespace Go.Proofs.YtdbohojncbeajaaGreat.J5
open Go.RowKit Go.Shelf
open C3 (Tk In belAl allocB)
open S2 (Sc Tr isT)
open V4 (Va Vl Ck isV botT LiesC val_mk er_mk takeH)

/-- .. stored, and answered again. -/
theorem retK_store {w V U : World} {o : Except Int Va} {D : Nat} {ev : Value} {zn zm : Int} {zsA : Option Addr} {zsc : Nat} {zss : List Str} {zcA : Option Addr} {zcc : Nat} {zcs : List Ck} {zvA : Option Addr} {zvc : Nat} {zvs : List Vl} (hbV : Below w.heap.size w V) (hbU : Below V.heap.size V U) (hD : w.heap.size ≤ D) (hD2 : D < V.heap.size) (hi : (Vl.mk zn zm zsA zsc zss zcA zcc zcs zvA zvc zvs).Inp (fun b => V.heap.size ≤ b ∧ b < U.heap.size) U) (hc : (o = .ok (Vl.mk zn zm zsA zsc zss zcA zcc zcs zvA zvc zvs).er ∧ ev = .nilIface) ∨ (∃ n, o = .error n ∧ Vl.mk zn zm zsA zsc zss zcA zcc zcs zvA zvc zvs = vlZ ∧ ev = errV n)) :
    RetK w o (.returned (.tuple #[.agg #[.int .u64 zn, .int .u64 zm, .slice zsA zss.length zsc, .slice zcA zcs.length zcc, .slice zvA zvs.length zvc], ev])) (set5 U D (.int .u64 zn) (.int .u64 zm) (.slice zsA zss.length zsc) (.slice zcA zcs.length zcc) (.slice zvA zvs.length zvc)) := by
  have hb : Below w.heap.size w (set5 U D (.int .u64 zn) (.int .u64 zm) (.slice zsA zss.length zsc) (.slice zcA zcs.length zcc) (.slice zvA zvs.length zvc)) := set5_bel (hbV.trans (hbU.mono hbV.size)) hD
  rcases hc with ⟨h1, h2⟩ | ⟨n, h1, h2, h3⟩
  · subst h2
    refine .inl ⟨_, h1, rfl, (hi.keep fun b hP => set5_low (by have := hP.1; omega)).mono fun b hP => ⟨by have := hP.1; have := hbV.size; omega, ?_⟩, hb⟩
    exact Nat.lt_of_lt_of_le hP.2 (Nat.le_of_eq set5_size.symm)
  · subst h3
    refine .inr ⟨n, h1, ?_, hb⟩
    rw [← h2]; rfl

/-- What is told of two by what they are together: whether it is this one; the error; how they stand. -/
def wghA (o : Except Int Va) (y : Va) : Bool := match o with | .ok z => decide (z = y) | .error _ => false
def wghE (o : Except Int Va) : Value := match o with | .ok _ => .nilIface | .error n => if n = 13 then .nilIface else errV n
def cmpN (p q : Bool) : Int := match p, q with | true, true => 0 | true, false => -1 | false, true => 1 | false, false => 2
def wghC (o : Except Int Va) (x y : Va) : Int := match o with | .ok z => cmpN (decide (z = y)) (decide (z = x)) | .error n => if n = 13 then 2 else 0
theorem joinF_cases (t : Tr) (x y : Va) : (∃ z, joinF t x y = .ok z) ∨ joinF t x y = .error 13 ∨ joinF t x y = .error 14 := by
  unfold joinF stepE
  split
  · split
    · split
      · exact .inl ⟨_, rfl⟩
      · exact .inr (.inl rfl)
    · exact .inr (.inr rfl)
  · exact .inr (.inr rfl)

set_option maxRecDepth 100000 in
set_option maxHeartbeats 2000000 in
theorem by1_any (Q : Prop) (HP : Q → PairsDo) (s : Sc) (x y : Vl) (w : World) (hs : s.In w.heap.size w) (hx : x.In w) (hy : y.In w) (hq : isT 16 s.er = true → Q ∨ NoP s.er) (B : Nat) (hB : V4.Bxd w B #[.int .i64 s.k, s.v1]) : Calls Tryz.prog 23 #[x.val, y.val, .pointer (some ⟨B, 0, none⟩)] w (RetK w (joinF s.er x.er y.er)) := by
  have HJ := Lib.hid (fun W (hb : Below w.heap.size w W) => Join_any Q HP s x y W (hs.later hb) (hx.later hb) (hy.later hb) hq)
  obtain ⟨o, ho⟩ : ∃ o, joinF s.er x.er y.er = o := ⟨_, rfl⟩
  rw [ho] at HJ
  rw [ho]
  clear ho hs hx hy hq
  obtain ⟨k, A, c, l⟩ := s
  obtain ⟨n, m, sA, sc, ss, cA, cc, cs, vA, vc, vs⟩ := x
  obtain ⟨n', m', sA', sc', ss', cA', cc', cs', vA', vc', vs'⟩ := y
  simp only [S2.val_mk, val_mk] at HJ
  simp only [val_mk]
  simp only [S2.Sc.k, S2.Sc.v1] at hB
  obtain ⟨V, hV⟩ : ∃ V, ((w.alloc (.cells #[.int .u64 n, .int .u64 m, .slice sA ss.length sc, .slice cA cs.length cc, .slice vA vs.length vc] 29)).alloc (.cells #[.int .u64 n', .int .u64 m', .slice sA' ss'.length sc', .slice cA' cs'.length cc', .slice vA' vs'.length vc'] 29)).alloc (.cells #[.int .u64 0, .int .u64 0, .slice none 0 0, .slice none 0 0, .slice none 0 0] 29) = V := ⟨_, rfl⟩
  obtain ⟨q4, q5, q6, hbV, hs0⟩ := blk3 hV
  have hsV : w.heap.size + 3 ≤ V.heap.size := by omega
  clear hs0
  have hBl := hB.1
  have e0 : V.cell? ⟨B, 0, none⟩ = some (.int .i64 k) := (hbV.cell (p := ⟨B, 0, none⟩) hB.1).trans (hB.2 0 _ rfl)
  have e1 : V.cell? ⟨B, 1, none⟩ = some (.slice A l.length c) := (hbV.cell (p := ⟨B, 1, none⟩) hB.1).trans (hB.2 1 _ rfl)
  clear hB
  have a0 : V.cell? ⟨w.heap.size, 0, none⟩ = some (.int .u64 n) := blk_cell q4 0 _ rfl
  have a1 : V.cell? ⟨w.heap.size, 1, none⟩ = some (.int .u64 m) := blk_cell q4 1 _ rfl
  have a2 : V.cell? ⟨w.heap.size, 2, none⟩ = some (.slice sA ss.length sc) := blk_cell q4 2 _ rfl
  have a3 : V.cell? ⟨w.heap.size, 3, none⟩ = some (.slice cA cs.length cc) := blk_cell q4 3 _ rfl
  have a4 : V.cell? ⟨w.heap.size, 4, none⟩ = some (.slice vA vs.length vc) := blk_cell q4 4 _ rfl
  have b0 : V.cell? ⟨w.heap.size + 1, 0, none⟩ = some (.int .u64 n') := blk_cell q5 0 _ rfl
  have b1 : V.cell? ⟨w.heap.size + 1, 1, none⟩ = some (.int .u64 m') := blk_cell q5 1 _ rfl
  have b2 : V.cell? ⟨w.heap.size + 1, 2, none⟩ = some (.slice sA' ss'.length sc') := blk_cell q5 2 _ rfl
  have b3 : V.cell? ⟨w.heap.size + 1, 3, none⟩ = some (.slice cA' cs'.length cc') := blk_cell q5 3 _ rfl
  have b4 : V.cell? ⟨w.heap.size + 1, 4, none⟩ = some (.slice vA' vs'.length vc') := blk_cell q5 4 _ rfl
  go_enter Tryz.func23, Tryz.ntmps23
  go_wp2_with fail
  refine (HJ.out V hbV).mono ?_
  rintro e U hr
  obtain ⟨⟨zn, zm, zsA, zsc, zss, zcA, zcc, zcs, zvA, zvc, zvs⟩, ev, rfl, hzi, hbU, hcase⟩ := retK_case hr
  simp only [val_mk]
  have HZ := Lib.hid hzi
  have HC := Lib.hid hcase
  have q6U := q6.below (W' := U) hbU
  clear hr hzi hcase e0 e1 a0 a1 a2 a3 a4 b0 b1 b2 b3 b4 q4 q5
  have d0 : U.cell? ⟨w.heap.size + 1 + 1, 0, none⟩ = some (.int .u64 0) := blk_cell q6U 0 _ rfl
  have d1 : U.cell? ⟨w.heap.size + 1 + 1, 1, none⟩ = some (.int .u64 0) := blk_cell q6U 1 _ rfl
  have d2 : U.cell? ⟨w.heap.size + 1 + 1, 2, none⟩ = some (.slice none 0 0) := blk_cell q6U 2 _ rfl
  have d3 : U.cell? ⟨w.heap.size + 1 + 1, 3, none⟩ = some (.slice none 0 0) := blk_cell q6U 3 _ rfl
  have d4 : U.cell? ⟨w.heap.size + 1 + 1, 4, none⟩ = some (.slice none 0 0) := blk_cell q6U 4 _ rfl
  have f0 := blk_frozen q6U 0
  have f1 := blk_frozen q6U 1
  have f2 := blk_frozen q6U 2
  have f3 := blk_frozen q6U 3
  have f4 := blk_frozen q6U 4
  go_wp2_with fail
  refine bodyPost_ret (results_cv rfl _ _ (w.heap.size + 1 + 1) (.int .u64 zn) (.int .u64 zm) (.slice zsA zss.length zsc) (.slice zcA zcs.length zcc) (.slice zvA zvs.length zvc) rfl (blk_cell (set5_blk q6U) 0 _ rfl) (blk_cell (set5_blk q6U) 1 _ rfl) (blk_cell (set5_blk q6U) 2 _ rfl) (blk_cell (set5_blk q6U) 3 _ rfl) (blk_cell (set5_blk q6U) 4 _ rfl)) rfl ?_
  exact retK_store hbV hbU (by omega) (by omega) HZ.out HC.out

set_option maxHeartbeats 400000 in
theorem by_any (k : Int) (A : Option Addr) (n c : Nat) (w : World) : Calls Tryz.prog 18 #[.agg #[.int .i64 k, .slice A n c]] w (fun e w' => ∃ B, e = .returned (.func (.func 23) #[] #[.pointer (some ⟨B, 0, none⟩)]) ∧ V4.Bxd w' B #[.int .i64 k, .slice A n c] ∧ Below w.heap.size w w') := by
  go_enter Tryz.func18, Tryz.ntmps18
  go_wp2_with fail
  go_ret
  exact ⟨w.heap.size, rfl, V4.Bxd.new, allocB _ _⟩

set_option maxRecDepth 100000 in
set_option maxHeartbeats 2000000 in
theorem weighed_any (Q : Prop) (HP : Q → PairsDo) (s : Sc) (x y : Vl) (w : World) (hs : s.In w.heap.size w) (hx : x.In w) (hy : y.In w) (hq : isT 16 s.er = true → Q ∨ NoP s.er) (B : Nat) (hB : V4.Bxd w B #[.int .i64 s.k, s.v1]) :
    Calls Tryz.prog 17 #[x.val, y.val, .func (.func 23) #[] #[.pointer (some ⟨B, 0, none⟩)], .func (.func 19) #[] #[]] w (RetV w (.tuple #[.bool (wghA (joinF s.er x.er y.er) y.er), .bool (wghA (joinF s.er x.er y.er) x.er), wghE (joinF s.er x.er y.er)])) := by
  have HJ := Lib.hid (fun W (hb : Below w.heap.size w W) => by1_any Q HP s x y W (hs.later hb) (hx.later hb) (hy.later hb) hq B (hB.later hb))
  have HXI := Lib.hid hx
  have HYI := Lib.hid hy
  have hcs := joinF_cases s.er x.er y.er
  obtain ⟨o, ho⟩ : ∃ o, joinF s.er x.er y.er = o := ⟨_, rfl⟩
  rw [ho] at HJ hcs
  rw [ho]
  have HCS := Lib.hid hcs
  clear ho hs hx hy hq hB hcs
  obtain ⟨P, hP⟩ : ∃ P, RetV w (.tuple #[.bool (wghA o y.er), .bool (wghA o x.er), wghE o]) = P := ⟨_, rfl⟩
  have HPP := Lib.hid hP
  rw [hP]
  clear hP
  obtain ⟨n, m, sA, sc, ss, cA, cc, cs, vA, vc, vs⟩ := x
  obtain ⟨n', m', sA', sc', ss', cA', cc', cs', vA', vc', vs'⟩ := y
  simp only [val_mk] at HJ
  simp only [val_mk]
  obtain ⟨V, hV⟩ : ∃ V, (w.alloc (.cells #[.int .u64 n, .int .u64 m, .slice sA ss.length sc, .slice cA cs.length cc, .slice vA vs.length vc] 29)).alloc (.cells #[.int .u64 n', .int .u64 m', .slice sA' ss'.length sc', .slice cA' cs'.length cc', .slice vA' vs'.length vc'] 29) = V := ⟨_, rfl⟩
  obtain ⟨q4, q5, hbV, hs0⟩ := blk2 hV
  have hsV : w.heap.size + 2 ≤ V.heap.size := by omega
  clear hs0
  have a0 : V.cell? ⟨w.heap.size, 0, none⟩ = some (.int .u64 n) := blk_cell q4 0 _ rfl
  have a1 : V.cell? ⟨w.heap.size, 1, none⟩ = some (.int .u64 m) := blk_cell q4 1 _ rfl
  have a2 : V.cell? ⟨w.heap.size, 2, none⟩ = some (.slice sA ss.length sc) := blk_cell q4 2 _ rfl
  have a3 : V.cell? ⟨w.heap.size, 3, none⟩ = some (.slice cA cs.length cc) := blk_cell q4 3 _ rfl
  have a4 : V.cell? ⟨w.heap.size, 4, none⟩ = some (.slice vA vs.length vc) := blk_cell q4 4 _ rfl
  have b0 : V.cell? ⟨w.heap.size + 1, 0, none⟩ = some (.int .u64 n') := blk_cell q5 0 _ rfl
  have b1 : V.cell? ⟨w.heap.size + 1, 1, none⟩ = some (.int .u64 m') := blk_cell q5 1 _ rfl
  have b2 : V.cell? ⟨w.heap.size + 1, 2, none⟩ = some (.slice sA' ss'.length sc') := blk_cell q5 2 _ rfl
  have b3 : V.cell? ⟨w.heap.size + 1, 3, none⟩ = some (.slice cA' cs'.length cc') := blk_cell q5 3 _ rfl
  have b4 : V.cell? ⟨w.heap.size + 1, 4, none⟩ = some (.slice vA' vs'.length vc') := blk_cell q5 4 _ rfl
  go_enter Tryz.func17, Tryz.ntmps17
  go_wp2_with fail
  refine (HJ.out V hbV).mono ?_
  clear HJ hV
  rintro e U hr
  obtain ⟨⟨zn, zm, zsA, zsc, zss, zcA, zcc, zcs, zvA, zvc, zvs⟩, ev, rfl, hzi, hbU, hcase⟩ := retK_case hr
  simp only [val_mk]
  have HZI := Lib.hid hzi
  clear hr hzi a0 a1 a2 a3 a4 b0 b1 b2 b3 b4
  obtain ⟨X, hX⟩ : ∃ X, U.alloc (.cells #[.int .u64 zn, .int .u64 zm, .slice zsA zss.length zsc, .slice zcA zcs.length zcc, .slice zvA zvs.length zvc] 29) = X := ⟨_, rfl⟩
  have hbX : Below U.heap.size U X := by rw [← hX]; exact allocB _ _
  have q6 : Blk X U.heap.size 29 #[.int .u64 zn, .int .u64 zm, .slice zsA zss.length zsc, .slice zcA zcs.length zcc, .slice zvA zvs.length zvc] := by rw [← hX]; exact Blk.new _ _ _
  replace q4 := (q4.below hbU).below hbX
  replace q5 := (q5.below hbU).below hbX
  have hbwU := hbV.trans (hbU.mono hbV.size)
  have hbwX := hbwU.trans (hbX.mono hbwU.size)
  have hlU : w.heap.size + 2 ≤ U.heap.size := Nat.le_trans hsV hbU.size
  have HZX : Hid ((Vl.mk zn zm zsA zsc zss zcA zcc zcs zvA zvc zvs).In X) := (HZI.out.keep fun b hP => hbX.block b hP.2).mono fun b hP => Nat.lt_of_lt_of_le hP.2 hbX.size
  clear HZI
  rcases hcase with ⟨ho, rfl⟩ | ⟨n, ho, _, rfl⟩
  · have HO := Lib.hid ho
    clear ho HCS
    have HI := Lib.hid (is_nil 13 X)
    unfold errV at HI
    go_wp2_with fail
    refine HI.out.mono ?_
    clear HI hX
    rintro e X1 ⟨rfl, hb1⟩
    replace q4 := q4.below hb1
    replace q5 := q5.below hb1
    replace q6 := q6.below hb1
    have hbw1 := hbwX.trans (hb1.mono hbwX.size)
    have HS1 : Hid (∀ W, Below X1.heap.size X1 W → Calls Tryz.prog 19 #[.agg #[.int .u64 zn, .int .u64 zm, .slice zsA zss.length zsc, .slice zcA zcs.length zcc, .slice zvA zvs.length zvc], .agg #[.int .u64 n', .int .u64 m', .slice sA' ss'.length sc', .slice cA' cs'.length cc', .slice vA' vs'.length vc']] W (RetV W (.bool (decide ((Vl.mk zn zm zsA zsc zss zcA zcc zcs zvA zvc zvs).er = (Vl.mk n' m' sA' sc' ss' cA' cc' cs' vA' vc' vs').er))))) := fun W hb => V4.Same_any (Vl.mk zn zm zsA zsc zss zcA zcc zcs zvA zvc zvs) (Vl.mk n' m' sA' sc' ss' cA' cc' cs' vA' vc' vs') W ((HZX.out.later hb1).later hb) ((HYI.out.later hbw1).later hb)
    have HS2 : Hid (∀ W, Below X1.heap.size X1 W → Calls Tryz.prog 19 #[.agg #[.int .u64 zn, .int .u64 zm, .slice zsA zss.length zsc, .slice zcA zcs.length zcc, .slice zvA zvs.length zvc], .agg #[.int .u64 n, .int .u64 m, .slice sA ss.length sc, .slice cA cs.length cc, .slice vA vs.length vc]] W (RetV W (.bool (decide ((Vl.mk zn zm zsA zsc zss zcA zcc zcs zvA zvc zvs).er = (Vl.mk n m sA sc ss cA cc cs vA vc vs).er))))) := fun W hb => V4.Same_any (Vl.mk zn zm zsA zsc zss zcA zcc zcs zvA zvc zvs) (Vl.mk n m sA sc ss cA cc cs vA vc vs) W ((HZX.out.later hb1).later hb) ((HXI.out.later hbw1).later hb)
    obtain ⟨p1, hp1⟩ : ∃ p, decide ((Vl.mk zn zm zsA zsc zss zcA zcc zcs zvA zvc zvs).er = (Vl.mk n' m' sA' sc' ss' cA' cc' cs' vA' vc' vs').er) = p := ⟨_, rfl⟩
    obtain ⟨p2, hp2⟩ : ∃ p, decide ((Vl.mk zn zm zsA zsc zss zcA zcc zcs zvA zvc zvs).er = (Vl.mk n m sA sc ss cA cc cs vA vc vs).er) = p := ⟨_, rfl⟩
    rw [hp1] at HS1
    rw [hp2] at HS2
    have HP1 := Lib.hid hp1
    have HP2 := Lib.hid hp2
    clear hp1 hp2 HXI HYI HZX
    have m4 := q4.lt
    have a0 : X1.cell? ⟨w.heap.size, 0, none⟩ = some (.int .u64 n) := blk_cell q4 0 _ rfl
    have a1 : X1.cell? ⟨w.heap.size, 1, none⟩ = some (.int .u64 m) := blk_cell q4 1 _ rfl
    have a2 : X1.cell? ⟨w.heap.size, 2, none⟩ = some (.slice sA ss.length sc) := blk_cell q4 2 _ rfl
    have a3 : X1.cell? ⟨w.heap.size, 3, none⟩ = some (.slice cA cs.length cc) := blk_cell q4 3 _ rfl
    have a4 : X1.cell? ⟨w.heap.size, 4, none⟩ = some (.slice vA vs.length vc) := blk_cell q4 4 _ rfl
    have m5 := q5.lt
    have b0 : X1.cell? ⟨w.heap.size + 1, 0, none⟩ = some (.int .u64 n') := blk_cell q5 0 _ rfl
    have b1 : X1.cell? ⟨w.heap.size + 1, 1, none⟩ = some (.int .u64 m') := blk_cell q5 1 _ rfl
    have b2 : X1.cell? ⟨w.heap.size + 1, 2, none⟩ = some (.slice sA' ss'.length sc') := blk_cell q5 2 _ rfl
    have b3 : X1.cell? ⟨w.heap.size + 1, 3, none⟩ = some (.slice cA' cs'.length cc') := blk_cell q5 3 _ rfl
    have b4 : X1.cell? ⟨w.heap.size + 1, 4, none⟩ = some (.slice vA' vs'.length vc') := blk_cell q5 4 _ rfl
    have m6 := q6.lt
    have d0 : X1.cell? ⟨U.heap.size, 0, none⟩ = some (.int .u64 zn) := blk_cell q6 0 _ rfl
    have d1 : X1.cell? ⟨U.heap.size, 1, none⟩ = some (.int .u64 zm) := blk_cell q6 1 _ rfl
    have d2 : X1.cell? ⟨U.heap.size, 2, none⟩ = some (.slice zsA zss.length zsc) := blk_cell q6 2 _ rfl
    have d3 : X1.cell? ⟨U.heap.size, 3, none⟩ = some (.slice zcA zcs.length zcc) := blk_cell q6 3 _ rfl
    have d4 : X1.cell? ⟨U.heap.size, 4, none⟩ = some (.slice zvA zvs.length zvc) := blk_cell q6 4 _ rfl
    go_upto_region 6 with fail
    refine wp_region_noPanic ?_
    refine wp_region_held_drew (S := (fun w' => w'.cell? ⟨w.heap.size, 0, none⟩ = some (.int .u64 n) ∧ w'.cell? ⟨w.heap.size, 1, none⟩ = some (.int .u64 m) ∧ w'.cell? ⟨w.heap.size, 2, none⟩ = some (.slice sA ss.length sc) ∧ w'.cell? ⟨w.heap.size, 3, none⟩ = some (.slice cA cs.length cc) ∧ w'.cell? ⟨w.heap.size, 4, none⟩ = some (.slice vA vs.length vc) ∧ w'.cell? ⟨w.heap.size + 1, 0, none⟩ = some (.int .u64 n') ∧ w'.cell? ⟨w.heap.size + 1, 1, none⟩ = some (.int .u64 m') ∧ w'.cell? ⟨w.heap.size + 1, 2, none⟩ = some (.slice sA' ss'.length sc') ∧ w'.cell? ⟨w.heap.size + 1, 3, none⟩ = some (.slice cA' cs'.length cc') ∧ w'.cell? ⟨w.heap.size + 1, 4, none⟩ = some (.slice vA' vs'.length vc') ∧ w'.cell? ⟨U.heap.size, 0, none⟩ = some (.int .u64 zn) ∧ w'.cell? ⟨U.heap.size, 1, none⟩ = some (.int .u64 zm) ∧ w'.cell? ⟨U.heap.size, 2, none⟩ = some (.slice zsA zss.length zsc) ∧ w'.cell? ⟨U.heap.size, 3, none⟩ = some (.slice zcA zcs.length zcc) ∧ w'.cell? ⟨U.heap.size, 4, none⟩ = some (.slice zvA zvs.length zvc))) (by kernel_rfl) ?_ (fun hHeld => ?_)
    · exact ⟨a0, a1, a2, a3, a4, b0, b1, b2, b3, b4, d0, d1, d2, d3, d4⟩
    refine takeH 0 27 (v := ?q1_v0) rfl rfl (by kernel_rfl) (by kernel_rfl) (by kernel_rfl) (fun _ _ _ h => h) (Or.inl ⟨by rfl, ?q1_h0⟩) (by assumption) ?q1_r0
    case q1_h0 => (intro w hSw; (try dsimp only at hSw); go_simp; try (with_reducible rfl))
    simp only [List.set_cons_zero, List.set_cons_succ]
    refine takeH 1 28 (v := ?q1_v1) rfl rfl (by kernel_rfl) (by kernel_rfl) (by kernel_rfl) (fun _ _ _ h => h) (Or.inl ⟨by rfl, ?q1_h1⟩) (by assumption) ?q1_r1
    case q1_h1 => (intro w hSw; (try dsimp only at hSw); go_simp; try (with_reducible rfl))
    simp only [List.set_cons_zero, List.set_cons_succ]
    refine takeH 2 29 (v := ?q1_v2) rfl rfl (by kernel_rfl) (by kernel_rfl) (by kernel_rfl) (fun _ _ _ h => h) (Or.inl ⟨by rfl, ?q1_h2⟩) (by assumption) ?q1_r2
    case q1_h2 => (intro w hSw; (try dsimp only at hSw); go_simp; try (with_reducible rfl))
    simp only [List.set_cons_zero, List.set_cons_succ]
    refine takeH 4 31 (v := ?q1_v4) rfl rfl (by kernel_rfl) (by kernel_rfl) (by kernel_rfl) (fun _ _ _ h => h) (Or.inl ⟨by rfl, ?q1_h4⟩) (by assumption) ?q1_r4
    case q1_h4 => (intro w hSw; (try dsimp only at hSw); go_simp; try (with_reducible rfl))
    simp only [List.set_cons_zero, List.set_cons_succ]
    refine takeH 5 32 (v := ?q1_v5) rfl rfl (by kernel_rfl) (by kernel_rfl) (by kernel_rfl) (fun _ _ _ h => h) (Or.inl ⟨by rfl, ?q1_h5⟩) (by assumption) ?q1_r5
    case q1_h5 => (intro w hSw; (try dsimp only at hSw); go_simp; try (with_reducible rfl))
    simp only [List.set_cons_zero, List.set_cons_succ]
    refine takeH 6 33 (v := ?q1_v6) rfl rfl (by kernel_rfl) (by kernel_rfl) (by kernel_rfl) (fun _ _ _ h => h) (Or.inl ⟨by rfl, ?q1_h6⟩) (by assumption) ?q1_r6
    case q1_h6 => (intro w hSw; (try dsimp only at hSw); go_simp; try (with_reducible rfl))
    simp only [List.set_cons_zero, List.set_cons_succ]
    refine wpAnyH_ready (rs := [3]) (by kernel_rfl) (by simp) ?_
    refine AllReadyH.cons rfl (fun K hK => ?_) AllReadyH.nil
    go_simp
    go_wp2_with (go_at_call 19; refine (HS1.out X1.drew (Below.refl _ _).drew).mono ?_; rintro e T1 ⟨rfl, hbT⟩; (have hbT1 : Below X1.heap.size X1 T1 := (Below.refl _ X1).drew.trans hbT; have hTs := hbT1.size; replace a0 := (hbT1.cell (p := ⟨w.heap.size, 0, none⟩) m4).trans a0; replace a1 := (hbT1.cell (p := ⟨w.heap.size, 1, none⟩) m4).trans a1; replace a2 := (hbT1.cell (p := ⟨w.heap.size, 2, none⟩) m4).trans a2; replace a3 := (hbT1.cell (p := ⟨w.heap.size, 3, none⟩) m4).trans a3; replace a4 := (hbT1.cell (p := ⟨w.heap.size, 4, none⟩) m4).trans a4; replace b0 := (hbT1.cell (p := ⟨w.heap.size + 1, 0, none⟩) m5).trans b0; replace b1 := (hbT1.cell (p := ⟨w.heap.size + 1, 1, none⟩) m5).trans b1; replace b2 := (hbT1.cell (p := ⟨w.heap.size + 1, 2, none⟩) m5).trans b2; replace b3 := (hbT1.cell (p := ⟨w.heap.size + 1, 3, none⟩) m5).trans b3; replace b4 := (hbT1.cell (p := ⟨w.heap.size + 1, 4, none⟩) m5).trans b4; replace d0 := (hbT1.cell (p := ⟨U.heap.size, 0, none⟩) m6).trans d0; replace d1 := (hbT1.cell (p := ⟨U.heap.size, 1, none⟩) m6).trans d1; replace d2 := (hbT1.cell (p := ⟨U.heap.size, 2, none⟩) m6).trans d2; replace d3 := (hbT1.cell (p := ⟨U.heap.size, 3, none⟩) m6).trans d3; replace d4 := (hbT1.cell (p := ⟨U.heap.size, 4, none⟩) m6).trans d4; clear hbT))
    refine hK.out _ _ ?_ (fun hHeld => ?_)
    · exact ⟨a0, a1, a2, a3, a4, b0, b1, b2, b3, b4, d0, d1, d2, d3, d4⟩
    clear hK K
    refine wpAnyH_ready (rs := [7]) (by kernel_rfl) (by simp) ?_
    refine AllReadyH.cons rfl (fun K hK => ?_) AllReadyH.nil
    go_simp
    go_wp2_with (go_at_call 19; refine (HS2.out T1 hbT1).mono ?_; rintro e T2 ⟨rfl, hbT2⟩; (replace a0 := (hbT2.cell (p := ⟨w.heap.size, 0, none⟩) (Nat.lt_of_lt_of_le m4 hTs)).trans a0; replace a1 := (hbT2.cell (p := ⟨w.heap.size, 1, none⟩) (Nat.lt_of_lt_of_le m4 hTs)).trans a1; replace a2 := (hbT2.cell (p := ⟨w.heap.size, 2, none⟩) (Nat.lt_of_lt_of_le m4 hTs)).trans a2; replace a3 := (hbT2.cell (p := ⟨w.heap.size, 3, none⟩) (Nat.lt_of_lt_of_le m4 hTs)).trans a3; replace a4 := (hbT2.cell (p := ⟨w.heap.size, 4, none⟩) (Nat.lt_of_lt_of_le m4 hTs)).trans a4; replace b0 := (hbT2.cell (p := ⟨w.heap.size + 1, 0, none⟩) (Nat.lt_of_lt_of_le m5 hTs)).trans b0; replace b1 := (hbT2.cell (p := ⟨w.heap.size + 1, 1, none⟩) (Nat.lt_of_lt_of_le m5 hTs)).trans b1; replace b2 := (hbT2.cell (p := ⟨w.heap.size + 1, 2, none⟩) (Nat.lt_of_lt_of_le m5 hTs)).trans b2; replace b3 := (hbT2.cell (p := ⟨w.heap.size + 1, 3, none⟩) (Nat.lt_of_lt_of_le m5 hTs)).trans b3; replace b4 := (hbT2.cell (p := ⟨w.heap.size + 1, 4, none⟩) (Nat.lt_of_lt_of_le m5 hTs)).trans b4; replace d0 := (hbT2.cell (p := ⟨U.heap.size, 0, none⟩) (Nat.lt_of_lt_of_le m6 hTs)).trans d0; replace d1 := (hbT2.cell (p := ⟨U.heap.size, 1, none⟩) (Nat.lt_of_lt_of_le m6 hTs)).trans d1; replace d2 := (hbT2.cell (p := ⟨U.heap.size, 2, none⟩) (Nat.lt_of_lt_of_le m6 hTs)).trans d2; replace d3 := (hbT2.cell (p := ⟨U.heap.size, 3, none⟩) (Nat.lt_of_lt_of_le m6 hTs)).trans d3; replace d4 := (hbT2.cell (p := ⟨U.heap.size, 4, none⟩) (Nat.lt_of_lt_of_le m6 hTs)).trans d4))
    refine hK.out _ _ ?_ (fun hHeld => ?_)
    · exact ⟨a0, a1, a2, a3, a4, b0, b1, b2, b3, b4, d0, d1, d2, d3, d4⟩
    clear hK K
    refine takeH 8 8 (v := ?q1_v8) rfl rfl (by kernel_rfl) (by kernel_rfl) (by kernel_rfl) (fun _ _ _ h => h) (Or.inl ⟨by rfl, ?q1_h8⟩) (by assumption) ?q1_r8
    case q1_h8 => (intro w hSw; (try dsimp only at hSw); go_simp; try (with_reducible rfl))
    simp only [List.set_cons_zero, List.set_cons_succ]
    refine takeH 9 9 (v := ?q1_v9) rfl rfl (by kernel_rfl) (by kernel_rfl) (by kernel_rfl) (fun _ _ _ h => h) (Or.inl ⟨by rfl, ?q1_h9⟩) (by assumption) ?q1_r9
    case q1_h9 => (intro w hSw; (try dsimp only at hSw); go_simp; try (with_reducible rfl))
    simp only [List.set_cons_zero, List.set_cons_succ]
    refine takeH 10 10 (v := ?q1_v10) rfl rfl (by kernel_rfl) (by kernel_rfl) (by kernel_rfl) (fun _ _ _ h => h) (Or.inl ⟨by rfl, ?q1_h10⟩) (by assumption) ?q1_r10
    case q1_h10 => (intro w hSw; (try dsimp only at hSw); go_simp; try (with_reducible rfl))
    simp only [List.set_cons_zero, List.set_cons_succ]
    refine wpAnyH_done (by kernel_rfl) ?_ _
    refine NoPanic.normal ?_
    go_wp2_with fail
    go_ret3
    rw [← HPP.out]
    refine ⟨?_, hbw1.trans ((hbT1.trans (hbT2.mono hbT1.size)).mono hbw1.size)⟩
    rw [HO.out]
    simp only [wghA, wghE]
    rw [HP1.out, HP2.out]; rfl
  · clear HXI HYI HZX q4 q5 q6
    have HO := Lib.hid ho
    have HI := Lib.hid (is_any n 13 X)
    have hn : n = 13 ∨ n = 14 := by
      rcases HCS.out with ⟨z, e⟩ | e | e
      · rw [ho] at e; cases e
      · rw [ho] at e; cases e; exact .inl rfl
      · rw [ho] at e; cases e; exact .inr rfl
    clear ho HCS
    unfold errV at HI
    unfold errV
    rcases hn with rfl | rfl
    · rw [decide_eq_true rfl] at HI
      go_wp2_with fail
      refine HI.out.mono ?_
      clear HI hX
      rintro e X1 ⟨rfl, hb1⟩
      go_wp2_with fail
      go_ret3
      rw [← HPP.out]
      refine ⟨?_, hbwX.trans (hb1.mono hbwX.size)⟩
      rw [HO.out]; rfl
    · rw [decide_eq_false (by decide)] at HI
      go_wp2_with fail
      refine HI.out.mono ?_
      clear HI hX
      rintro e X1 ⟨rfl, hb1⟩
      go_wp2_with fail
      go_ret3
      rw [← HPP.out]
      refine ⟨?_, hbwX.trans (hb1.mono hbwX.size)⟩
      rw [HO.out]; rfl

set_option maxRecDepth 100000 in
set_option maxHeartbeats 2000000 in
theorem Leq_any (Q : Prop) (HP : Q → PairsDo) (s : Sc) (x y : Vl) (w : World) (hs : s.In w.heap.size w) (hx : x.In w) (hy : y.In w) (hq : isT 16 s.er = true → Q ∨ NoP s.er) : Calls Tryz.prog 12 #[s.val, x.val, y.val] w (RetV w (.tuple #[.bool (wghA (joinF s.er x.er y.er) y.er), wghE (joinF s.er x.er y.er)])) := by
  have HW := Lib.hid (fun B W (hb : Below w.heap.size w W) (hB : V4.Bxd W B #[.int .i64 s.k, s.v1]) => weighed_any Q HP s x y W (hs.later hb) (hx.later hb) (hy.later hb) hq B hB)
  have hcs := joinF_cases s.er x.er y.er
  obtain ⟨o, ho⟩ : ∃ o, joinF s.er x.er y.er = o := ⟨_, rfl⟩
  rw [ho] at HW hcs
  rw [ho]
  clear ho hs hx hy hq
  obtain ⟨p, hp⟩ : ∃ p, wghA o y.er = p := ⟨_, rfl⟩
  obtain ⟨q, hqq⟩ : ∃ q, wghA o x.er = q := ⟨_, rfl⟩
  obtain ⟨ev, hev⟩ : ∃ ev, wghE o = ev := ⟨_, rfl⟩
  rw [hp, hqq, hev] at HW
  rw [hp, hev]
  clear hp hqq hev hcs
  obtain ⟨k, A, c, l⟩ := s
  obtain ⟨n, m, sA, sc, ss, cA, cc, cs, vA, vc, vs⟩ := x
  obtain ⟨n', m', sA', sc', ss', cA', cc', cs', vA', vc', vs'⟩ := y
  simp only [val_mk, S2.Sc.k, S2.Sc.v1] at HW
  simp only [val_mk, S2.val_mk]
  obtain ⟨V, hV⟩ : ∃ V, ((w.alloc (.cells #[.int .i64 k, .slice A l.length c] 37)).alloc (.cells #[.int .u64 n, .int .u64 m, .slice sA ss.length sc, .slice cA cs.length cc, .slice vA vs.length vc] 29)).alloc (.cells #[.int .u64 n', .int .u64 m', .slice sA' ss'.length sc', .slice cA' cs'.length cc', .slice vA' vs'.length vc'] 29) = V := ⟨_, rfl⟩
  obtain ⟨q3, q4, q5, hbV, hs0⟩ := blk3 hV
  have hsV : w.heap.size + 3 ≤ V.heap.size := by omega
  clear hs0
  have e0 : V.cell? ⟨w.heap.size, 0, none⟩ = some (.int .i64 k) := blk_cell q3 0 _ rfl
  have e1 : V.cell? ⟨w.heap.size, 1, none⟩ = some (.slice A l.length c) := blk_cell q3 1 _ rfl
  have a0 : V.cell? ⟨w.heap.size + 1, 0, none⟩ = some (.int .u64 n) := blk_cell q4 0 _ rfl
  have a1 : V.cell? ⟨w.heap.size + 1, 1, none⟩ = some (.int .u64 m) := blk_cell q4 1 _ rfl
  have a2 : V.cell? ⟨w.heap.size + 1, 2, none⟩ = some (.slice sA ss.length sc) := blk_cell q4 2 _ rfl
  have a3 : V.cell? ⟨w.heap.size + 1, 3, none⟩ = some (.slice cA cs.length cc) := blk_cell q4 3 _ rfl
  have a4 : V.cell? ⟨w.heap.size + 1, 4, none⟩ = some (.slice vA vs.length vc) := blk_cell q4 4 _ rfl
  have b0 : V.cell? ⟨w.heap.size + 1 + 1, 0, none⟩ = some (.int .u64 n') := blk_cell q5 0 _ rfl
  have b1 : V.cell? ⟨w.heap.size + 1 + 1, 1, none⟩ = some (.int .u64 m') := blk_cell q5 1 _ rfl
  have b2 : V.cell? ⟨w.heap.size + 1 + 1, 2, none⟩ = some (.slice sA' ss'.length sc') := blk_cell q5 2 _ rfl
  have b3 : V.cell? ⟨w.heap.size + 1 + 1, 3, none⟩ = some (.slice cA' cs'.length cc') := blk_cell q5 3 _ rfl
  have b4 : V.cell? ⟨w.heap.size + 1 + 1, 4, none⟩ = some (.slice vA' vs'.length vc') := blk_cell q5 4 _ rfl
  have l0 : w.heap.size < V.heap.size := by omega
  have l1 : w.heap.size + 1 < V.heap.size := by omega
  have l2 : w.heap.size + 1 + 1 < V.heap.size := by omega
  go_enter Tryz.func12, Tryz.ntmps12
  go_upto_region 1 with fail
  refine wp_region_noPanic ?_
  refine wp_region_held_drew (S := (fun w' => w'.cell? ⟨w.heap.size, 0, none⟩ = some (.int .i64 k) ∧ w'.cell? ⟨w.heap.size, 1, none⟩ = some (.slice A l.length c) ∧ w'.cell? ⟨w.heap.size + 1, 0, none⟩ = some (.int .u64 n) ∧ w'.cell? ⟨w.heap.size + 1, 1, none⟩ = some (.int .u64 m) ∧ w'.cell? ⟨w.heap.size + 1, 2, none⟩ = some (.slice sA ss.length sc) ∧ w'.cell? ⟨w.heap.size + 1, 3, none⟩ = some (.slice cA cs.length cc) ∧ w'.cell? ⟨w.heap.size + 1, 4, none⟩ = some (.slice vA vs.length vc) ∧ w'.cell? ⟨w.heap.size + 1 + 1, 0, none⟩ = some (.int .u64 n') ∧ w'.cell? ⟨w.heap.size + 1 + 1, 1, none⟩ = some (.int .u64 m') ∧ w'.cell? ⟨w.heap.size + 1 + 1, 2, none⟩ = some (.slice sA' ss'.length sc') ∧ w'.cell? ⟨w.heap.size + 1 + 1, 3, none⟩ = some (.slice cA' cs'.length cc') ∧ w'.cell? ⟨w.heap.size + 1 + 1, 4, none⟩ = some (.slice vA' vs'.length vc'))) (by kernel_rfl) ?_ (fun hHeld => ?_)
  · exact ⟨e0, e1, a0, a1, a2, a3, a4, b0, b1, b2, b3, b4⟩
  refine takeH 0 12 (v := ?q2_v0) rfl rfl (by kernel_rfl) (by kernel_rfl) (by kernel_rfl) (fun _ _ _ h => h) (Or.inl ⟨by rfl, ?q2_h0⟩) (by assumption) ?q2_r0
  case q2_h0 => (intro w hSw; (try dsimp only at hSw); go_simp; try (with_reducible rfl))
  simp only [List.set_cons_zero, List.set_cons_succ]
  refine takeH 1 13 (v := ?q2_v1) rfl rfl (by kernel_rfl) (by kernel_rfl) (by kernel_rfl) (fun _ _ _ h => h) (Or.inl ⟨by rfl, ?q2_h1⟩) (by assumption) ?q2_r1
  case q2_h1 => (intro w hSw; (try dsimp only at hSw); go_simp; try (with_reducible rfl))
  simp only [List.set_cons_zero, List.set_cons_succ]
  refine takeH 2 14 (v := ?q2_v2) rfl rfl (by kernel_rfl) (by kernel_rfl) (by kernel_rfl) (fun _ _ _ h => h) (Or.inl ⟨by rfl, ?q2_h2⟩) (by assumption) ?q2_r2
  case q2_h2 => (intro w hSw; (try dsimp only at hSw); go_simp; try (with_reducible rfl))
  simp only [List.set_cons_zero, List.set_cons_succ]
  refine wpAnyH_ready (rs := [3]) (by kernel_rfl) (by simp) ?_
  refine AllReadyH.cons rfl (fun K hK => ?_) AllReadyH.nil
  go_simp
  go_wp2_with (go_at_call 18; refine (by_any k A l.length c V.drew).mono ?_; rintro e U ⟨B, rfl, hBX, hbU0⟩; (have hbU : Below V.heap.size V U := (Below.refl _ V).drew.trans hbU0; have hUs := hbU.size; have hbwU := hbV.trans (hbU.mono hbV.size); have HWU := Lib.hid (HW.out B U hbwU hBX); replace e0 := (hbU.cell (p := ⟨w.heap.size, 0, none⟩) l0).trans e0; replace e1 := (hbU.cell (p := ⟨w.heap.size, 1, none⟩) l0).trans e1; replace a0 := (hbU.cell (p := ⟨w.heap.size + 1, 0, none⟩) l1).trans a0; replace a1 := (hbU.cell (p := ⟨w.heap.size + 1, 1, none⟩) l1).trans a1; replace a2 := (hbU.cell (p := ⟨w.heap.size + 1, 2, none⟩) l1).trans a2; replace a3 := (hbU.cell (p := ⟨w.heap.size + 1, 3, none⟩) l1).trans a3; replace a4 := (hbU.cell (p := ⟨w.heap.size + 1, 4, none⟩) l1).trans a4; replace b0 := (hbU.cell (p := ⟨w.heap.size + 1 + 1, 0, none⟩) l2).trans b0; replace b1 := (hbU.cell (p := ⟨w.heap.size + 1 + 1, 1, none⟩) l2).trans b1; replace b2 := (hbU.cell (p := ⟨w.heap.size + 1 + 1, 2, none⟩) l2).trans b2; replace b3 := (hbU.cell (p := ⟨w.heap.size + 1 + 1, 3, none⟩) l2).trans b3; replace b4 := (hbU.cell (p := ⟨w.heap.size + 1 + 1, 4, none⟩) l2).trans b4; clear hbU0 hBX HW))
  refine hK.out _ _ ?_ (fun hHeld => ?_)
  · exact ⟨e0, e1, a0, a1, a2, a3, a4, b0, b1, b2, b3, b4⟩
  clear hK K
  refine wpAnyH_ready (rs := [4]) (by kernel_rfl) (by simp) ?_
  refine AllReadyH.cons rfl (fun K hK => ?_) AllReadyH.nil
  go_simp
  go_wp2_with (go_at_call 17; refine HWU.out.mono ?_; rintro e T ⟨rfl, hbT⟩; (replace e0 := (hbT.cell (p := ⟨w.heap.size, 0, none⟩) (Nat.lt_of_lt_of_le l0 hUs)).trans e0; replace e1 := (hbT.cell (p := ⟨w.heap.size, 1, none⟩) (Nat.lt_of_lt_of_le l0 hUs)).trans e1; replace a0 := (hbT.cell (p := ⟨w.heap.size + 1, 0, none⟩) (Nat.lt_of_lt_of_le l1 hUs)).trans a0; replace a1 := (hbT.cell (p := ⟨w.heap.size + 1, 1, none⟩) (Nat.lt_of_lt_of_le l1 hUs)).trans a1; replace a2 := (hbT.cell (p := ⟨w.heap.size + 1, 2, none⟩) (Nat.lt_of_lt_of_le l1 hUs)).trans a2; replace a3 := (hbT.cell (p := ⟨w.heap.size + 1, 3, none⟩) (Nat.lt_of_lt_of_le l1 hUs)).trans a3; replace a4 := (hbT.cell (p := ⟨w.heap.size + 1, 4, none⟩) (Nat.lt_of_lt_of_le l1 hUs)).trans a4; replace b0 := (hbT.cell (p := ⟨w.heap.size + 1 + 1, 0, none⟩) (Nat.lt_of_lt_of_le l2 hUs)).trans b0; replace b1 := (hbT.cell (p := ⟨w.heap.size + 1 + 1, 1, none⟩) (Nat.lt_of_lt_of_le l2 hUs)).trans b1; replace b2 := (hbT.cell (p := ⟨w.heap.size + 1 + 1, 2, none⟩) (Nat.lt_of_lt_of_le l2 hUs)).trans b2; replace b3 := (hbT.cell (p := ⟨w.heap.size + 1 + 1, 3, none⟩) (Nat.lt_of_lt_of_le l2 hUs)).trans b3; replace b4 := (hbT.cell (p := ⟨w.heap.size + 1 + 1, 4, none⟩) (Nat.lt_of_lt_of_le l2 hUs)).trans b4; clear HWU))
  refine hK.out _ _ ?_ (fun hHeld => ?_)
  · exact ⟨e0, e1, a0, a1, a2, a3, a4, b0, b1, b2, b3, b4⟩
  clear hK K
  refine takeH 5 11 (v := ?q2_v5) rfl rfl (by kernel_rfl) (by kernel_rfl) (by kernel_rfl) (fun _ _ _ h => h) (Or.inl ⟨by rfl, ?q2_h5⟩) (by assumption) ?q2_r5
  case q2_h5 => (intro w hSw; (try dsimp only at hSw); go_simp; try (with_reducible rfl))
  simp only [List.set_cons_zero, List.set_cons_succ]
  refine takeH 6 17 (v := ?q2_v6) rfl rfl (by kernel_rfl) (by kernel_rfl) (by kernel_rfl) (fun _ _ _ h => h) (Or.inl ⟨by rfl, ?q2_h6⟩) (by assumption) ?q2_r6
  case q2_h6 => (intro w hSw; (try dsimp only at hSw); go_simp; try (with_reducible rfl))
  simp only [List.set_cons_zero, List.set_cons_succ]
  refine takeH 7 18 (v := ?q2_v7) rfl rfl (by kernel_rfl) (by kernel_rfl) (by kernel_rfl) (fun _ _ _ h => h) (Or.inl ⟨by rfl, ?q2_h7⟩) (by assumption) ?q2_r7
  case q2_h7 => (intro w hSw; (try dsimp only at hSw); go_simp; try (with_reducible rfl))
  simp only [List.set_cons_zero, List.set_cons_succ]
  refine takeH 8 19 (v := ?q2_v8) rfl rfl (by kernel_rfl) (by kernel_rfl) (by kernel_rfl) (fun _ _ _ h => h) (Or.inl ⟨by rfl, ?q2_h8⟩) (by assumption) ?q2_r8
  case q2_h8 => (intro w hSw; (try dsimp only at hSw); go_simp; try (with_reducible rfl))
  simp only [List.set_cons_zero, List.set_cons_succ]
  refine takeH 9 8 (v := ?q2_v9) rfl rfl (by kernel_rfl) (by kernel_rfl) (by kernel_rfl) (fun _ _ _ h => h) (Or.inl ⟨by rfl, ?q2_h9⟩) (by assumption) ?q2_r9
  case q2_h9 => (intro w hSw; (try dsimp only at hSw); go_simp; try (with_reducible rfl))
  simp only [List.set_cons_zero, List.set_cons_succ]
  refine takeH 10 9 (v := ?q2_v10) rfl rfl (by kernel_rfl) (by kernel_rfl) (by kernel_rfl) (fun _ _ _ h => h) (Or.inl ⟨by rfl, ?q2_h10⟩) (by assumption) ?q2_r10
  case q2_h10 => (intro w hSw; (try dsimp only at hSw); go_simp; try (with_reducible rfl))
  simp only [List.set_cons_zero, List.set_cons_succ]
  refine takeH 11 10 (v := ?q2_v11) rfl rfl (by kernel_rfl) (by kernel_rfl) (by kernel_rfl) (fun _ _ _ h => h) (Or.inl ⟨by rfl, ?q2_h11⟩) (by assumption) ?q2_r11
  case q2_h11 => (intro w hSw; (try dsimp only at hSw); go_simp; try (with_reducible rfl))
  simp only [List.set_cons_zero, List.set_cons_succ]
  refine wpAnyH_done (by kernel_rfl) ?_ _
  refine NoPanic.normal ?_
  have hbwT := hbwU.trans (hbT.mono hbwU.size)
  clear e0 e1 a0 a1 a2 a3 a4 b0 b1 b2 b3 b4
  go_wp2_with fail
  go_ret2
  exact ⟨by simp, hbwT⟩

set_option maxRecDepth 100000 in
set_option maxHeartbeats 2000000 in
theorem Cmp_any (Q : Prop) (HP : Q → PairsDo) (s : Sc) (x y : Vl) (w : World) (hs : s.In w.heap.size w) (hx : x.In w) (hy : y.In w) (hq : isT 16 s.er = true → Q ∨ NoP s.er) : Calls Tryz.prog 10 #[s.val, x.val, y.val] w (RetV w (.tuple #[.int .i64 (wghC (joinF s.er x.er y.er) x.er y.er), wghE (joinF s.er x.er y.er)])) := by
  have HW := Lib.hid (fun B W (hb : Below w.heap.size w W) (hB : V4.Bxd W B #[.int .i64 s.k, s.v1]) => weighed_any Q HP s x y W (hs.later hb) (hx.later hb) (hy.later hb) hq B hB)
  have hcs := joinF_cases s.er x.er y.er
  obtain ⟨o, ho⟩ : ∃ o, joinF s.er x.er y.er = o := ⟨_, rfl⟩
  rw [ho] at HW hcs
  rw [ho]
  clear ho hs hx hy hq
  obtain ⟨p, hp⟩ : ∃ p, wghA o y.er = p := ⟨_, rfl⟩
  obtain ⟨q, hqq⟩ : ∃ q, wghA o x.er = q := ⟨_, rfl⟩
  obtain ⟨ev, hev⟩ : ∃ ev, wghE o = ev := ⟨_, rfl⟩
  rw [hp, hqq, hev] at HW
  rw [hev]
  obtain ⟨cv, hcv⟩ : ∃ cv, wghC o x.er y.er = cv := ⟨_, rfl⟩
  rw [hcv]
  have HCV : Hid ((ev = .nilIface ∧ cv = cmpN p q) ∨ (ev = .iface 51 (.int .i64 14) ∧ cv = 0)) := by
    rcases hcs with ⟨z, rfl⟩ | rfl | rfl
    · left; rw [← hp, ← hqq, ← hev, ← hcv]; exact ⟨rfl, rfl⟩
    · left; rw [← hp, ← hqq, ← hev, ← hcv]; exact ⟨rfl, rfl⟩
    · right; rw [← hev, ← hcv]; exact ⟨rfl, rfl⟩
  clear hp hqq hev hcs hcv
  obtain ⟨k, A, c, l⟩ := s
  obtain ⟨n, m, sA, sc, ss, cA, cc, cs, vA, vc, vs⟩ := x
  obtain ⟨n', m', sA', sc', ss', cA', cc', cs', vA', vc', vs'⟩ := y
  simp only [val_mk, S2.Sc.k, S2.Sc.v1] at HW
  simp only [val_mk, S2.val_mk]
  obtain ⟨V, hV⟩ : ∃ V, ((w.alloc (.cells #[.int .i64 k, .slice A l.length c] 37)).alloc (.cells #[.int .u64 n, .int .u64 m, .slice sA ss.length sc, .slice cA cs.length cc, .slice vA vs.length vc] 29)).alloc (.cells #[.int .u64 n', .int .u64 m', .slice sA' ss'.length sc', .slice cA' cs'.length cc', .slice vA' vs'.length vc'] 29) = V := ⟨_, rfl⟩
  obtain ⟨q3, q4, q5, hbV, hs0⟩ := blk3 hV
  have hsV : w.heap.size + 3 ≤ V.heap.size := by omega
  clear hs0
  have e0 : V.cell? ⟨w.heap.size, 0, none⟩ = some (.int .i64 k) := blk_cell q3 0 _ rfl
  have e1 : V.cell? ⟨w.heap.size, 1, none⟩ = some (.slice A l.length c) := blk_cell q3 1 _ rfl
  have a0 : V.cell? ⟨w.heap.size + 1, 0, none⟩ = some (.int .u64 n) := blk_cell q4 0 _ rfl
  have a1 : V.cell? ⟨w.heap.size + 1, 1, none⟩ = some (.int .u64 m) := blk_cell q4 1 _ rfl
  have a2 : V.cell? ⟨w.heap.size + 1, 2, none⟩ = some (.slice sA ss.length sc) := blk_cell q4 2 _ rfl
  have a3 : V.cell? ⟨w.heap.size + 1, 3, none⟩ = some (.slice cA cs.length cc) := blk_cell q4 3 _ rfl
  have a4 : V.cell? ⟨w.heap.size + 1, 4, none⟩ = some (.slice vA vs.length vc) := blk_cell q4 4 _ rfl
  have b0 : V.cell? ⟨w.heap.size + 1 + 1, 0, none⟩ = some (.int .u64 n') := blk_cell q5 0 _ rfl
  have b1 : V.cell? ⟨w.heap.size + 1 + 1, 1, none⟩ = some (.int .u64 m') := blk_cell q5 1 _ rfl
  have b2 : V.cell? ⟨w.heap.size + 1 + 1, 2, none⟩ = some (.slice sA' ss'.length sc') := blk_cell q5 2 _ rfl
  have b3 : V.cell? ⟨w.heap.size + 1 + 1, 3, none⟩ = some (.slice cA' cs'.length cc') := blk_cell q5 3 _ rfl
  have b4 : V.cell? ⟨w.heap.size + 1 + 1, 4, none⟩ = some (.slice vA' vs'.length vc') := blk_cell q5 4 _ rfl
  have l0 : w.heap.size < V.heap.size := by omega
  have l1 : w.heap.size + 1 < V.heap.size := by omega
  have l2 : w.heap.size + 1 + 1 < V.heap.size := by omega
  go_enter Tryz.func10, Tryz.ntmps10
  go_upto_region 1 with fail
  refine wp_region_noPanic ?_
  refine wp_region_held_drew (S := (fun w' => w'.cell? ⟨w.heap.size, 0, none⟩ = some (.int .i64 k) ∧ w'.cell? ⟨w.heap.size, 1, none⟩ = some (.slice A l.length c) ∧ w'.cell? ⟨w.heap.size + 1, 0, none⟩ = some (.int .u64 n) ∧ w'.cell? ⟨w.heap.size + 1, 1, none⟩ = some (.int .u64 m) ∧ w'.cell? ⟨w.heap.size + 1, 2, none⟩ = some (.slice sA ss.length sc) ∧ w'.cell? ⟨w.heap.size + 1, 3, none⟩ = some (.slice cA cs.length cc) ∧ w'.cell? ⟨w.heap.size + 1, 4, none⟩ = some (.slice vA vs.length vc) ∧ w'.cell? ⟨w.heap.size + 1 + 1, 0, none⟩ = some (.int .u64 n') ∧ w'.cell? ⟨w.heap.size + 1 + 1, 1, none⟩ = some (.int .u64 m') ∧ w'.cell? ⟨w.heap.size + 1 + 1, 2, none⟩ = some (.slice sA' ss'.length sc') ∧ w'.cell? ⟨w.heap.size + 1 + 1, 3, none⟩ = some (.slice cA' cs'.length cc') ∧ w'.cell? ⟨w.heap.size + 1 + 1, 4, none⟩ = some (.slice vA' vs'.length vc'))) (by kernel_rfl) ?_ (fun hHeld => ?_)
  · exact ⟨e0, e1, a0, a1, a2, a3, a4, b0, b1, b2, b3, b4⟩
  refine takeH 0 12 (v := ?q3_v0) rfl rfl (by kernel_rfl) (by kernel_rfl) (by kernel_rfl) (fun _ _ _ h => h) (Or.inl ⟨by rfl, ?q3_h0⟩) (by assumption) ?q3_r0
  case q3_h0 => (intro w hSw; (try dsimp only at hSw); go_simp; try (with_reducible rfl))
  simp only [List.set_cons_zero, List.set_cons_succ]
  refine takeH 1 13 (v := ?q3_v1) rfl rfl (by kernel_rfl) (by kernel_rfl) (by kernel_rfl) (fun _ _ _ h => h) (Or.inl ⟨by rfl, ?q3_h1⟩) (by assumption) ?q3_r1
  case q3_h1 => (intro w hSw; (try dsimp only at hSw); go_simp; try (with_reducible rfl))
  simp only [List.set_cons_zero, List.set_cons_succ]
  refine takeH 2 14 (v := ?q3_v2) rfl rfl (by kernel_rfl) (by kernel_rfl) (by kernel_rfl) (fun _ _ _ h => h) (Or.inl ⟨by rfl, ?q3_h2⟩) (by assumption) ?q3_r2
  case q3_h2 => (intro w hSw; (try dsimp only at hSw); go_simp; try (with_reducible rfl))
  simp only [List.set_cons_zero, List.set_cons_succ]
  refine wpAnyH_ready (rs := [3]) (by kernel_rfl) (by simp) ?_
  refine AllReadyH.cons rfl (fun K hK => ?_) AllReadyH.nil
  go_simp
  go_wp2_with (go_at_call 18; refine (by_any k A l.length c V.drew).mono ?_; rintro e U ⟨B, rfl, hBX, hbU0⟩; (have hbU : Below V.heap.size V U := (Below.refl _ V).drew.trans hbU0; have hUs := hbU.size; have hbwU := hbV.trans (hbU.mono hbV.size); have HWU := Lib.hid (HW.out B U hbwU hBX); replace e0 := (hbU.cell (p := ⟨w.heap.size, 0, none⟩) l0).trans e0; replace e1 := (hbU.cell (p := ⟨w.heap.size, 1, none⟩) l0).trans e1; replace a0 := (hbU.cell (p := ⟨w.heap.size + 1, 0, none⟩) l1).trans a0; replace a1 := (hbU.cell (p := ⟨w.heap.size + 1, 1, none⟩) l1).trans a1; replace a2 := (hbU.cell (p := ⟨w.heap.size + 1, 2, none⟩) l1).trans a2; replace a3 := (hbU.cell (p := ⟨w.heap.size + 1, 3, none⟩) l1).trans a3; replace a4 := (hbU.cell (p := ⟨w.heap.size + 1, 4, none⟩) l1).trans a4; replace b0 := (hbU.cell (p := ⟨w.heap.size + 1 + 1, 0, none⟩) l2).trans b0; replace b1 := (hbU.cell (p := ⟨w.heap.size + 1 + 1, 1, none⟩) l2).trans b1; replace b2 := (hbU.cell (p := ⟨w.heap.size + 1 + 1, 2, none⟩) l2).trans b2; replace b3 := (hbU.cell (p := ⟨w.heap.size + 1 + 1, 3, none⟩) l2).trans b3; replace b4 := (hbU.cell (p := ⟨w.heap.size + 1 + 1, 4, none⟩) l2).trans b4; clear hbU0 hBX HW))
  refine hK.out _ _ ?_ (fun hHeld => ?_)
  · exact ⟨e0, e1, a0, a1, a2, a3, a4, b0, b1, b2, b3, b4⟩
  clear hK K
  refine wpAnyH_ready (rs := [4]) (by kernel_rfl) (by simp) ?_
  refine AllReadyH.cons rfl (fun K hK => ?_) AllReadyH.nil
  go_simp
  go_wp2_with (go_at_call 17; refine HWU.out.mono ?_; rintro e T ⟨rfl, hbT⟩; (replace e0 := (hbT.cell (p := ⟨w.heap.size, 0, none⟩) (Nat.lt_of_lt_of_le l0 hUs)).trans e0; replace e1 := (hbT.cell (p := ⟨w.heap.size, 1, none⟩) (Nat.lt_of_lt_of_le l0 hUs)).trans e1; replace a0 := (hbT.cell (p := ⟨w.heap.size + 1, 0, none⟩) (Nat.lt_of_lt_of_le l1 hUs)).trans a0; replace a1 := (hbT.cell (p := ⟨w.heap.size + 1, 1, none⟩) (Nat.lt_of_lt_of_le l1 hUs)).trans a1; replace a2 := (hbT.cell (p := ⟨w.heap.size + 1, 2, none⟩) (Nat.lt_of_lt_of_le l1 hUs)).trans a2; replace a3 := (hbT.cell (p := ⟨w.heap.size + 1, 3, none⟩) (Nat.lt_of_lt_of_le l1 hUs)).trans a3; replace a4 := (hbT.cell (p := ⟨w.heap.size + 1, 4, none⟩) (Nat.lt_of_lt_of_le l1 hUs)).trans a4; replace b0 := (hbT.cell (p := ⟨w.heap.size + 1 + 1, 0, none⟩) (Nat.lt_of_lt_of_le l2 hUs)).trans b0; replace b1 := (hbT.cell (p := ⟨w.heap.size + 1 + 1, 1, none⟩) (Nat.lt_of_lt_of_le l2 hUs)).trans b1; replace b2 := (hbT.cell (p := ⟨w.heap.size + 1 + 1, 2, none⟩) (Nat.lt_of_lt_of_le l2 hUs)).trans b2; replace b3 := (hbT.cell (p := ⟨w.heap.size + 1 + 1, 3, none⟩) (Nat.lt_of_lt_of_le l2 hUs)).trans b3; replace b4 := (hbT.cell (p := ⟨w.heap.size + 1 + 1, 4, none⟩) (Nat.lt_of_lt_of_le l2 hUs)).trans b4; clear HWU))
  refine hK.out _ _ ?_ (fun hHeld => ?_)
  · exact ⟨e0, e1, a0, a1, a2, a3, a4, b0, b1, b2, b3, b4⟩
  clear hK K
  refine takeH 5 11 (v := ?q3_v5) rfl rfl (by kernel_rfl) (by kernel_rfl) (by kernel_rfl) (fun _ _ _ h => h) (Or.inl ⟨by rfl, ?q3_h5⟩) (by assumption) ?q3_r5
  case q3_h5 => (intro w hSw; (try dsimp only at hSw); go_simp; try (with_reducible rfl))
  simp only [List.set_cons_zero, List.set_cons_succ]
  refine takeH 6 17 (v := ?q3_v6) rfl rfl (by kernel_rfl) (by kernel_rfl) (by kernel_rfl) (fun _ _ _ h => h) (Or.inl ⟨by rfl, ?q3_h6⟩) (by assumption) ?q3_r6
  case q3_h6 => (intro w hSw; (try dsimp only at hSw); go_simp; try (with_reducible rfl))
  simp only [List.set_cons_zero, List.set_cons_succ]
  refine takeH 7 18 (v := ?q3_v7) rfl rfl (by kernel_rfl) (by kernel_rfl) (by kernel_rfl) (fun _ _ _ h => h) (Or.inl ⟨by rfl, ?q3_h7⟩) (by assumption) ?q3_r7
  case q3_h7 => (intro w hSw; (try dsimp only at hSw); go_simp; try (with_reducible rfl))
  simp only [List.set_cons_zero, List.set_cons_succ]
  refine takeH 8 19 (v := ?q3_v8) rfl rfl (by kernel_rfl) (by kernel_rfl) (by kernel_rfl) (fun _ _ _ h => h) (Or.inl ⟨by rfl, ?q3_h8⟩) (by assumption) ?q3_r8
  case q3_h8 => (intro w hSw; (try dsimp only at hSw); go_simp; try (with_reducible rfl))
  simp only [List.set_cons_zero, List.set_cons_succ]
  refine takeH 9 8 (v := ?q3_v9) rfl rfl (by kernel_rfl) (by kernel_rfl) (by kernel_rfl) (fun _ _ _ h => h) (Or.inl ⟨by rfl, ?q3_h9⟩) (by assumption) ?q3_r9
  case q3_h9 => (intro w hSw; (try dsimp only at hSw); go_simp; try (with_reducible rfl))
  simp only [List.set_cons_zero, List.set_cons_succ]
  refine takeH 10 9 (v := ?q3_v10) rfl rfl (by kernel_rfl) (by kernel_rfl) (by kernel_rfl) (fun _ _ _ h => h) (Or.inl ⟨by rfl, ?q3_h10⟩) (by assumption) ?q3_r10
  case q3_h10 => (intro w hSw; (try dsimp only at hSw); go_simp; try (with_reducible rfl))
  simp only [List.set_cons_zero, List.set_cons_succ]
  refine takeH 11 10 (v := ?q3_v11) rfl rfl (by kernel_rfl) (by kernel_rfl) (by kernel_rfl) (fun _ _ _ h => h) (Or.inl ⟨by rfl, ?q3_h11⟩) (by assumption) ?q3_r11
  case q3_h11 => (intro w hSw; (try dsimp only at hSw); go_simp; try (with_reducible rfl))
  simp only [List.set_cons_zero, List.set_cons_succ]
  refine wpAnyH_done (by kernel_rfl) ?_ _
  refine NoPanic.normal ?_
  have hbwT := hbwU.trans (hbT.mono hbwU.size)
  clear e0 e1 a0 a1 a2 a3 a4 b0 b1 b2 b3 b4
  rcases HCV.out with ⟨h1, h2⟩ | ⟨h1, h2⟩
  · subst h1
    subst h2
    clear HCV
    cases p with
    | true =>
      cases q with
      | true =>
        go_wp2_with fail
        go_ret2
        exact ⟨rfl, hbwT⟩
      | false =>
        go_wp2_with fail
        go_ret2
        exact ⟨rfl, hbwT⟩
    | false =>
      cases q with
      | true =>
        go_wp2_with fail
        go_ret2
        exact ⟨rfl, hbwT⟩
      | false =>
        go_wp2_with fail
        go_ret2
        exact ⟨rfl, hbwT⟩
  · subst h1
    subst h2
    clear HCV
    go_wp2_with fail
    go_ret2
    exact ⟨rfl, hbwT⟩

end Go.Proofs.YtdbohojncbeajaaGreat.J5
