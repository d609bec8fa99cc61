/- What join.join does, kind by kind; of pairs, if joinPairs does what it should. No condition but that what it takes lies in memory, values of the schema, or nothing. -/
import Derived.Test.YtdbohojncbeajaaGreatMo17
import Derived.Test.YtdbohojncbeajaaGreatMo18
import Derived.Test.YtdbohojncbeajaaGreatMo21
import Derived.Test.YtdbohojncbeajaaGreatMo22
namespace Go.Proofs.YtdbohojncbeajaaGreat.J5
open Go.RowKit Go.Shelf
open C3 (Tk In belAl allocB)
open S2 (Sc Tr isT)
open V4 (Va Vl Ck isV botT LiesC val_mk er_mk takeH)

/-- What it answers, as one. -/
theorem retJ_case {W : World} {o : Option Va} {e : Ending} {W' : World} (h : RetJ W o e W') : ∃ (x : Vl) (ev : Value), e = .returned (.tuple #[x.val, ev]) ∧ x.Inp (fun b => W.heap.size ≤ b ∧ b < W'.heap.size) W' ∧ Below W.heap.size W W' ∧ ((o = some x.er ∧ ev = .nilIface) ∨ (o = none ∧ x = vlZ ∧ ev = errV 13)) := by
  rcases h with ⟨x, ho, rfl, hi, hb⟩ | ⟨ho, rfl, hb⟩
  · exact ⟨x, _, rfl, hi, hb, .inl ⟨ho, rfl⟩⟩
  · exact ⟨vlZ, _, rfl, V4.inp_zero _ _, hb, .inr ⟨ho, rfl, rfl⟩⟩
/-- .. stored, and answered again. -/
theorem retJ_store {w V U : World} {o : Option Va} {D : Nat} {ev : Value} {zn zm : Int} {zsA : Option Addr} {zsc : Nat} {zss : List Str} {zcA : Option Addr} {zcc : Nat} {zcs : List Ck} {zvA : Option Addr} {zvc : Nat} {zvs : List Vl} (hbV : Below w.heap.size w V) (hbU : Below V.heap.size V U) (hD : w.heap.size ≤ D) (hD2 : D < V.heap.size) (hi : (Vl.mk zn zm zsA zsc zss zcA zcc zcs zvA zvc zvs).Inp (fun b => V.heap.size ≤ b ∧ b < U.heap.size) U) (hc : (o = some (Vl.mk zn zm zsA zsc zss zcA zcc zcs zvA zvc zvs).er ∧ ev = .nilIface) ∨ (o = none ∧ Vl.mk zn zm zsA zsc zss zcA zcc zcs zvA zvc zvs = vlZ ∧ ev = errV 13)) :
    RetJ w o (.returned (.tuple #[.agg #[.int .u64 zn, .int .u64 zm, .slice zsA zss.length zsc, .slice zcA zcs.length zcc, .slice zvA zvs.length zvc], ev])) (set5 U D (.int .u64 zn) (.int .u64 zm) (.slice zsA zss.length zsc) (.slice zcA zcs.length zcc) (.slice zvA zvs.length zvc)) := by
  have hb : Below w.heap.size w (set5 U D (.int .u64 zn) (.int .u64 zm) (.slice zsA zss.length zsc) (.slice zcA zcs.length zcc) (.slice zvA zvs.length zvc)) := set5_bel (hbV.trans (hbU.mono hbV.size)) hD
  rcases hc with ⟨h1, h2⟩ | ⟨h1, h2, h3⟩
  · subst h2
    refine .inl ⟨_, h1, rfl, (hi.keep fun b hP => set5_low (by have := hP.1; omega)).mono fun b hP => ⟨by have := hP.1; have := hbV.size; omega, ?_⟩, hb⟩
    exact Nat.lt_of_lt_of_le hP.2 (Nat.le_of_eq set5_size.symm)
  · subst h3
    refine .inr ⟨h1, ?_, hb⟩
    rw [← h2]; rfl
set_option maxRecDepth 100000 in
set_option maxHeartbeats 1000000 in
theorem join_1 (A : Option Addr) (c : Nat) (x y : Vl) (w : World) (hx : x.In w) (hy : y.In w) : Calls Tryz.prog 31 #[(Sc.mk 1 A c []).val, x.val, y.val] w (RetJ w (some (.mk (max x.er.n y.er.n) 0 [] [] []))) := by
  obtain ⟨n, m, sA, sc, ss, cA, cc, cs, vA, vc, vs⟩ := x
  obtain ⟨n', m', sA', sc', ss', cA', cc', cs', vA', vc', vs'⟩ := y
  have hn := hx.out.hn
  have hn' := hy.out.hn
  clear hx hy
  rw [er_mk, er_mk]
  simp only [Va.n]
  simp only [S2.val_mk, val_mk, List.length_nil]
  obtain ⟨V, hV⟩ : ∃ V, (((w.alloc (.cells #[.int .i64 1, .slice A 0 c] 37)).alloc (.cells #[.int .u64 n, .int .u64 m, .slice sA ss.length sc, .slice cA cs.length cc, .slice vA vs.length vc] 29)).alloc (.cells #[.int .u64 n', .int .u64 m', .slice sA' ss'.length sc', .slice cA' cs'.length cc', .slice vA' vs'.length vc'] 29)).alloc (.cells #[.int .u64 0, .int .u64 0, .slice none 0 0, .slice none 0 0, .slice none 0 0] 29) = V := ⟨_, rfl⟩
  obtain ⟨q3, q4, q5, q6, hbV, hs0⟩ := blk4 hV
  have hsV : w.heap.size + 4 ≤ V.heap.size := by omega
  clear hs0
  have e0 : V.cell? ⟨w.heap.size, 0, none⟩ = some (.int .i64 1) := blk_cell q3 0 _ rfl
  have e1 : V.cell? ⟨w.heap.size, 1, none⟩ = some (.slice A 0 c) := blk_cell q3 1 _ rfl
  have a0 : V.cell? ⟨w.heap.size + 1, 0, none⟩ = some (.int .u64 n) := blk_cell q4 0 _ rfl
  have a1 : V.cell? ⟨w.heap.size + 1, 1, none⟩ = some (.int .u64 m) := blk_cell q4 1 _ rfl
  have a2 : V.cell? ⟨w.heap.size + 1, 2, none⟩ = some (.slice sA ss.length sc) := blk_cell q4 2 _ rfl
  have a3 : V.cell? ⟨w.heap.size + 1, 3, none⟩ = some (.slice cA cs.length cc) := blk_cell q4 3 _ rfl
  have a4 : V.cell? ⟨w.heap.size + 1, 4, none⟩ = some (.slice vA vs.length vc) := blk_cell q4 4 _ rfl
  have b0 : V.cell? ⟨w.heap.size + 1 + 1, 0, none⟩ = some (.int .u64 n') := blk_cell q5 0 _ rfl
  have b1 : V.cell? ⟨w.heap.size + 1 + 1, 1, none⟩ = some (.int .u64 m') := blk_cell q5 1 _ rfl
  have b2 : V.cell? ⟨w.heap.size + 1 + 1, 2, none⟩ = some (.slice sA' ss'.length sc') := blk_cell q5 2 _ rfl
  have b3 : V.cell? ⟨w.heap.size + 1 + 1, 3, none⟩ = some (.slice cA' cs'.length cc') := blk_cell q5 3 _ rfl
  have b4 : V.cell? ⟨w.heap.size + 1 + 1, 4, none⟩ = some (.slice vA' vs'.length vc') := blk_cell q5 4 _ rfl
  have d0 : V.cell? ⟨w.heap.size + 1 + 1 + 1, 0, none⟩ = some (.int .u64 0) := blk_cell q6 0 _ rfl
  have d1 : V.cell? ⟨w.heap.size + 1 + 1 + 1, 1, none⟩ = some (.int .u64 0) := blk_cell q6 1 _ rfl
  have d2 : V.cell? ⟨w.heap.size + 1 + 1 + 1, 2, none⟩ = some (.slice none 0 0) := blk_cell q6 2 _ rfl
  have d3 : V.cell? ⟨w.heap.size + 1 + 1 + 1, 3, none⟩ = some (.slice none 0 0) := blk_cell q6 3 _ rfl
  have d4 : V.cell? ⟨w.heap.size + 1 + 1 + 1, 4, none⟩ = some (.slice none 0 0) := blk_cell q6 4 _ rfl
  have f0 := blk_frozen q6 0
  have f1 := blk_frozen q6 1
  have f2 := blk_frozen q6 2
  have f3 := blk_frozen q6 3
  have f4 := blk_frozen q6 4
  have hmx : 0 ≤ max n n' ∧ max n n' ≤ 18446744073709551615 := by omega
  obtain ⟨M, hM⟩ : ∃ M, max n n' = M := ⟨_, rfl⟩
  rw [hM] at hmx
  rw [hM]
  go_enter Tryz.func31, Tryz.ntmps31
  go_wp2_with fail
  refine bodyPost_ret (results_cv rfl _ _ (w.heap.size + 1 + 1 + 1) (.int .u64 M) (.int .u64 0) (.slice none 0 0) (.slice none 0 0) (.slice none 0 0) rfl (blk_cell (set5_blk q6) 0 _ rfl) (blk_cell (set5_blk q6) 1 _ rfl) (blk_cell (set5_blk q6) 2 _ rfl) (blk_cell (set5_blk q6) 3 _ rfl) (blk_cell (set5_blk q6) 4 _ rfl)) rfl ?_
  exact .inl ⟨.mk M 0 none 0 [] none 0 [] none 0 [], by rw [er_mk]; rfl, rfl, .mk _ _ _ _ _ _ _ _ _ _ _ hmx (by omega) (.inl rfl) (by simp) (by simp) (.inl rfl) (by simp) (by simp) (.inl rfl) (by simp) (by simp), set5_bel hbV (by omega)⟩

set_option maxRecDepth 100000 in
set_option maxHeartbeats 1000000 in
theorem join_2 (A : Option Addr) (c : Nat) (x y : Vl) (w : World) (hx : x.In w) (hy : y.In w) : Calls Tryz.prog 31 #[(Sc.mk 2 A c []).val, x.val, y.val] w (RetJ w (some (.mk (max x.er.n y.er.n) 0 [] [] []))) := by
  obtain ⟨n, m, sA, sc, ss, cA, cc, cs, vA, vc, vs⟩ := x
  obtain ⟨n', m', sA', sc', ss', cA', cc', cs', vA', vc', vs'⟩ := y
  have hn := hx.out.hn
  have hn' := hy.out.hn
  clear hx hy
  rw [er_mk, er_mk]
  simp only [Va.n]
  simp only [S2.val_mk, val_mk, List.length_nil]
  obtain ⟨V, hV⟩ : ∃ V, (((w.alloc (.cells #[.int .i64 2, .slice A 0 c] 37)).alloc (.cells #[.int .u64 n, .int .u64 m, .slice sA ss.length sc, .slice cA cs.length cc, .slice vA vs.length vc] 29)).alloc (.cells #[.int .u64 n', .int .u64 m', .slice sA' ss'.length sc', .slice cA' cs'.length cc', .slice vA' vs'.length vc'] 29)).alloc (.cells #[.int .u64 0, .int .u64 0, .slice none 0 0, .slice none 0 0, .slice none 0 0] 29) = V := ⟨_, rfl⟩
  obtain ⟨q3, q4, q5, q6, hbV, hs0⟩ := blk4 hV
  have hsV : w.heap.size + 4 ≤ V.heap.size := by omega
  clear hs0
  have e0 : V.cell? ⟨w.heap.size, 0, none⟩ = some (.int .i64 2) := blk_cell q3 0 _ rfl
  have e1 : V.cell? ⟨w.heap.size, 1, none⟩ = some (.slice A 0 c) := blk_cell q3 1 _ rfl
  have a0 : V.cell? ⟨w.heap.size + 1, 0, none⟩ = some (.int .u64 n) := blk_cell q4 0 _ rfl
  have a1 : V.cell? ⟨w.heap.size + 1, 1, none⟩ = some (.int .u64 m) := blk_cell q4 1 _ rfl
  have a2 : V.cell? ⟨w.heap.size + 1, 2, none⟩ = some (.slice sA ss.length sc) := blk_cell q4 2 _ rfl
  have a3 : V.cell? ⟨w.heap.size + 1, 3, none⟩ = some (.slice cA cs.length cc) := blk_cell q4 3 _ rfl
  have a4 : V.cell? ⟨w.heap.size + 1, 4, none⟩ = some (.slice vA vs.length vc) := blk_cell q4 4 _ rfl
  have b0 : V.cell? ⟨w.heap.size + 1 + 1, 0, none⟩ = some (.int .u64 n') := blk_cell q5 0 _ rfl
  have b1 : V.cell? ⟨w.heap.size + 1 + 1, 1, none⟩ = some (.int .u64 m') := blk_cell q5 1 _ rfl
  have b2 : V.cell? ⟨w.heap.size + 1 + 1, 2, none⟩ = some (.slice sA' ss'.length sc') := blk_cell q5 2 _ rfl
  have b3 : V.cell? ⟨w.heap.size + 1 + 1, 3, none⟩ = some (.slice cA' cs'.length cc') := blk_cell q5 3 _ rfl
  have b4 : V.cell? ⟨w.heap.size + 1 + 1, 4, none⟩ = some (.slice vA' vs'.length vc') := blk_cell q5 4 _ rfl
  have d0 : V.cell? ⟨w.heap.size + 1 + 1 + 1, 0, none⟩ = some (.int .u64 0) := blk_cell q6 0 _ rfl
  have d1 : V.cell? ⟨w.heap.size + 1 + 1 + 1, 1, none⟩ = some (.int .u64 0) := blk_cell q6 1 _ rfl
  have d2 : V.cell? ⟨w.heap.size + 1 + 1 + 1, 2, none⟩ = some (.slice none 0 0) := blk_cell q6 2 _ rfl
  have d3 : V.cell? ⟨w.heap.size + 1 + 1 + 1, 3, none⟩ = some (.slice none 0 0) := blk_cell q6 3 _ rfl
  have d4 : V.cell? ⟨w.heap.size + 1 + 1 + 1, 4, none⟩ = some (.slice none 0 0) := blk_cell q6 4 _ rfl
  have f0 := blk_frozen q6 0
  have f1 := blk_frozen q6 1
  have f2 := blk_frozen q6 2
  have f3 := blk_frozen q6 3
  have f4 := blk_frozen q6 4
  have hmx : 0 ≤ max n n' ∧ max n n' ≤ 18446744073709551615 := by omega
  obtain ⟨M, hM⟩ : ∃ M, max n n' = M := ⟨_, rfl⟩
  rw [hM] at hmx
  rw [hM]
  go_enter Tryz.func31, Tryz.ntmps31
  go_wp2_with fail
  refine bodyPost_ret (results_cv rfl _ _ (w.heap.size + 1 + 1 + 1) (.int .u64 M) (.int .u64 0) (.slice none 0 0) (.slice none 0 0) (.slice none 0 0) rfl (blk_cell (set5_blk q6) 0 _ rfl) (blk_cell (set5_blk q6) 1 _ rfl) (blk_cell (set5_blk q6) 2 _ rfl) (blk_cell (set5_blk q6) 3 _ rfl) (blk_cell (set5_blk q6) 4 _ rfl)) rfl ?_
  exact .inl ⟨.mk M 0 none 0 [] none 0 [] none 0 [], by rw [er_mk]; rfl, rfl, .mk _ _ _ _ _ _ _ _ _ _ _ hmx (by omega) (.inl rfl) (by simp) (by simp) (.inl rfl) (by simp) (by simp) (.inl rfl) (by simp) (by simp), set5_bel hbV (by omega)⟩

set_option maxRecDepth 100000 in
set_option maxHeartbeats 1000000 in
theorem join_7 (A : Option Addr) (c : Nat) (x y : Vl) (w : World) (hx : x.In w) (hy : y.In w) (n0 : x.er.c.length ≤ 1) (n1 : y.er.c.length ≤ 1) (hck : ∀ k ∈ x.er.c ++ y.er.c, k.length ≤ 40) : Calls Tryz.prog 31 #[(Sc.mk 7 A c []).val, x.val, y.val] w (RetJ w (clockE x.er y.er)) := by
  have HJ := Lib.hid (fun W (hb : Below w.heap.size w W) => joinClocks_any x y W (hx.later hb) (hy.later hb) n0 n1 hck)
  obtain ⟨res, hres⟩ : ∃ res, clockE x.er y.er = res := ⟨_, rfl⟩
  rw [hres] at HJ
  rw [hres]
  clear hx hy n0 n1 hck hres
  obtain ⟨n, m, sA, sc, ss, cA, cc, cs, vA, vc, vs⟩ := x
  obtain ⟨n', m', sA', sc', ss', cA', cc', cs', vA', vc', vs'⟩ := y
  simp only [val_mk] at HJ
  simp only [S2.val_mk, val_mk, List.length_nil]
  obtain ⟨V, hV⟩ : ∃ V, (((w.alloc (.cells #[.int .i64 7, .slice A 0 c] 37)).alloc (.cells #[.int .u64 n, .int .u64 m, .slice sA ss.length sc, .slice cA cs.length cc, .slice vA vs.length vc] 29)).alloc (.cells #[.int .u64 n', .int .u64 m', .slice sA' ss'.length sc', .slice cA' cs'.length cc', .slice vA' vs'.length vc'] 29)).alloc (.cells #[.int .u64 0, .int .u64 0, .slice none 0 0, .slice none 0 0, .slice none 0 0] 29) = V := ⟨_, rfl⟩
  obtain ⟨q3, q4, q5, q6, hbV, hs0⟩ := blk4 hV
  have hsV : w.heap.size + 4 ≤ V.heap.size := by omega
  clear hs0
  have e0 : V.cell? ⟨w.heap.size, 0, none⟩ = some (.int .i64 7) := blk_cell q3 0 _ rfl
  have e1 : V.cell? ⟨w.heap.size, 1, none⟩ = some (.slice A 0 c) := blk_cell q3 1 _ rfl
  have a0 : V.cell? ⟨w.heap.size + 1, 0, none⟩ = some (.int .u64 n) := blk_cell q4 0 _ rfl
  have a1 : V.cell? ⟨w.heap.size + 1, 1, none⟩ = some (.int .u64 m) := blk_cell q4 1 _ rfl
  have a2 : V.cell? ⟨w.heap.size + 1, 2, none⟩ = some (.slice sA ss.length sc) := blk_cell q4 2 _ rfl
  have a3 : V.cell? ⟨w.heap.size + 1, 3, none⟩ = some (.slice cA cs.length cc) := blk_cell q4 3 _ rfl
  have a4 : V.cell? ⟨w.heap.size + 1, 4, none⟩ = some (.slice vA vs.length vc) := blk_cell q4 4 _ rfl
  have b0 : V.cell? ⟨w.heap.size + 1 + 1, 0, none⟩ = some (.int .u64 n') := blk_cell q5 0 _ rfl
  have b1 : V.cell? ⟨w.heap.size + 1 + 1, 1, none⟩ = some (.int .u64 m') := blk_cell q5 1 _ rfl
  have b2 : V.cell? ⟨w.heap.size + 1 + 1, 2, none⟩ = some (.slice sA' ss'.length sc') := blk_cell q5 2 _ rfl
  have b3 : V.cell? ⟨w.heap.size + 1 + 1, 3, none⟩ = some (.slice cA' cs'.length cc') := blk_cell q5 3 _ rfl
  have b4 : V.cell? ⟨w.heap.size + 1 + 1, 4, none⟩ = some (.slice vA' vs'.length vc') := blk_cell q5 4 _ rfl
  go_enter Tryz.func31, Tryz.ntmps31
  go_wp2_with fail
  refine (HJ.out V hbV).mono ?_
  rintro e U hr
  obtain ⟨⟨zn, zm, zsA, zsc, zss, zcA, zcc, zcs, zvA, zvc, zvs⟩, ev, rfl, hzi, hbU, hcase⟩ := retJ_case hr
  simp only [val_mk]
  have HZ := Lib.hid hzi
  have HC := Lib.hid hcase
  have q6U := q6.below (W' := U) hbU
  clear hr hzi hcase e0 e1 a0 a1 a2 a3 a4 b0 b1 b2 b3 b4 q3 q4 q5 hV
  have d0 : U.cell? ⟨w.heap.size + 1 + 1 + 1, 0, none⟩ = some (.int .u64 0) := blk_cell q6U 0 _ rfl
  have d1 : U.cell? ⟨w.heap.size + 1 + 1 + 1, 1, none⟩ = some (.int .u64 0) := blk_cell q6U 1 _ rfl
  have d2 : U.cell? ⟨w.heap.size + 1 + 1 + 1, 2, none⟩ = some (.slice none 0 0) := blk_cell q6U 2 _ rfl
  have d3 : U.cell? ⟨w.heap.size + 1 + 1 + 1, 3, none⟩ = some (.slice none 0 0) := blk_cell q6U 3 _ rfl
  have d4 : U.cell? ⟨w.heap.size + 1 + 1 + 1, 4, none⟩ = some (.slice none 0 0) := blk_cell q6U 4 _ rfl
  have f0 := blk_frozen q6U 0
  have f1 := blk_frozen q6U 1
  have f2 := blk_frozen q6U 2
  have f3 := blk_frozen q6U 3
  have f4 := blk_frozen q6U 4
  go_wp2_with fail
  refine bodyPost_ret (results_cv rfl _ _ (w.heap.size + 1 + 1 + 1) (.int .u64 zn) (.int .u64 zm) (.slice zsA zss.length zsc) (.slice zcA zcs.length zcc) (.slice zvA zvs.length zvc) rfl (blk_cell (set5_blk q6U) 0 _ rfl) (blk_cell (set5_blk q6U) 1 _ rfl) (blk_cell (set5_blk q6U) 2 _ rfl) (blk_cell (set5_blk q6U) 3 _ rfl) (blk_cell (set5_blk q6U) 4 _ rfl)) rfl ?_
  exact retJ_store hbV hbU (by omega) (by omega) HZ.out HC.out

set_option maxRecDepth 100000 in
set_option maxHeartbeats 1000000 in
theorem join_6 (A : Option Addr) (c : Nat) (x y : Vl) (w : World) (hx : x.In w) (hy : y.In w) : Calls Tryz.prog 31 #[(Sc.mk 6 A c []).val, x.val, y.val] w (RetJ w (some (lastE x.er y.er))) := by
  have HJ := Lib.hid (fun W (hb : Below w.heap.size w W) => later_any x y W (hx.later hb) (hy.later hb))
  obtain ⟨res, hres⟩ : ∃ res, lastE x.er y.er = res := ⟨_, rfl⟩
  rw [hres] at HJ
  rw [hres]
  clear hx hy hres
  obtain ⟨n, m, sA, sc, ss, cA, cc, cs, vA, vc, vs⟩ := x
  obtain ⟨n', m', sA', sc', ss', cA', cc', cs', vA', vc', vs'⟩ := y
  simp only [val_mk] at HJ
  simp only [S2.val_mk, val_mk, List.length_nil]
  obtain ⟨V, hV⟩ : ∃ V, (((w.alloc (.cells #[.int .i64 6, .slice A 0 c] 37)).alloc (.cells #[.int .u64 n, .int .u64 m, .slice sA ss.length sc, .slice cA cs.length cc, .slice vA vs.length vc] 29)).alloc (.cells #[.int .u64 n', .int .u64 m', .slice sA' ss'.length sc', .slice cA' cs'.length cc', .slice vA' vs'.length vc'] 29)).alloc (.cells #[.int .u64 0, .int .u64 0, .slice none 0 0, .slice none 0 0, .slice none 0 0] 29) = V := ⟨_, rfl⟩
  obtain ⟨q3, q4, q5, q6, hbV, hs0⟩ := blk4 hV
  have hsV : w.heap.size + 4 ≤ V.heap.size := by omega
  clear hs0
  have e0 : V.cell? ⟨w.heap.size, 0, none⟩ = some (.int .i64 6) := blk_cell q3 0 _ rfl
  have e1 : V.cell? ⟨w.heap.size, 1, none⟩ = some (.slice A 0 c) := blk_cell q3 1 _ rfl
  have a0 : V.cell? ⟨w.heap.size + 1, 0, none⟩ = some (.int .u64 n) := blk_cell q4 0 _ rfl
  have a1 : V.cell? ⟨w.heap.size + 1, 1, none⟩ = some (.int .u64 m) := blk_cell q4 1 _ rfl
  have a2 : V.cell? ⟨w.heap.size + 1, 2, none⟩ = some (.slice sA ss.length sc) := blk_cell q4 2 _ rfl
  have a3 : V.cell? ⟨w.heap.size + 1, 3, none⟩ = some (.slice cA cs.length cc) := blk_cell q4 3 _ rfl
  have a4 : V.cell? ⟨w.heap.size + 1, 4, none⟩ = some (.slice vA vs.length vc) := blk_cell q4 4 _ rfl
  have b0 : V.cell? ⟨w.heap.size + 1 + 1, 0, none⟩ = some (.int .u64 n') := blk_cell q5 0 _ rfl
  have b1 : V.cell? ⟨w.heap.size + 1 + 1, 1, none⟩ = some (.int .u64 m') := blk_cell q5 1 _ rfl
  have b2 : V.cell? ⟨w.heap.size + 1 + 1, 2, none⟩ = some (.slice sA' ss'.length sc') := blk_cell q5 2 _ rfl
  have b3 : V.cell? ⟨w.heap.size + 1 + 1, 3, none⟩ = some (.slice cA' cs'.length cc') := blk_cell q5 3 _ rfl
  have b4 : V.cell? ⟨w.heap.size + 1 + 1, 4, none⟩ = some (.slice vA' vs'.length vc') := blk_cell q5 4 _ rfl
  go_enter Tryz.func31, Tryz.ntmps31
  go_wp2_with fail
  refine (HJ.out V hbV).mono ?_
  rintro e U ⟨⟨zn, zm, zsA, zsc, zss, zcA, zcc, zcs, zvA, zvc, zvs⟩, rfl, hze, hzi, hbU⟩
  simp only [val_mk]
  have HZ := Lib.hid hzi
  have HE := Lib.hid hze
  have q6U := q6.below (W' := U) hbU
  clear hzi hze e0 e1 a0 a1 a2 a3 a4 b0 b1 b2 b3 b4 q3 q4 q5 hV
  have d0 : U.cell? ⟨w.heap.size + 1 + 1 + 1, 0, none⟩ = some (.int .u64 0) := blk_cell q6U 0 _ rfl
  have d1 : U.cell? ⟨w.heap.size + 1 + 1 + 1, 1, none⟩ = some (.int .u64 0) := blk_cell q6U 1 _ rfl
  have d2 : U.cell? ⟨w.heap.size + 1 + 1 + 1, 2, none⟩ = some (.slice none 0 0) := blk_cell q6U 2 _ rfl
  have d3 : U.cell? ⟨w.heap.size + 1 + 1 + 1, 3, none⟩ = some (.slice none 0 0) := blk_cell q6U 3 _ rfl
  have d4 : U.cell? ⟨w.heap.size + 1 + 1 + 1, 4, none⟩ = some (.slice none 0 0) := blk_cell q6U 4 _ rfl
  have f0 := blk_frozen q6U 0
  have f1 := blk_frozen q6U 1
  have f2 := blk_frozen q6U 2
  have f3 := blk_frozen q6U 3
  have f4 := blk_frozen q6U 4
  go_wp2_with fail
  refine bodyPost_ret (results_cv rfl _ _ (w.heap.size + 1 + 1 + 1) (.int .u64 zn) (.int .u64 zm) (.slice zsA zss.length zsc) (.slice zcA zcs.length zcc) (.slice zvA zvs.length zvc) rfl (blk_cell (set5_blk q6U) 0 _ rfl) (blk_cell (set5_blk q6U) 1 _ rfl) (blk_cell (set5_blk q6U) 2 _ rfl) (blk_cell (set5_blk q6U) 3 _ rfl) (blk_cell (set5_blk q6U) 4 _ rfl)) rfl ?_
  exact retJ_store hbV hbU (by omega) (by omega) HZ.out (.inl ⟨by rw [HE.out], rfl⟩)

set_option maxRecDepth 100000 in
set_option maxHeartbeats 1000000 in
theorem join_3 (A : Option Addr) (c : Nat) (x y : Vl) (w : World) (hx : x.In w) (hy : y.In w) (sx : R1.Srt x.er.s) (sy : R1.Srt y.er.s) (lx : x.er.s.length ≤ 1000) (ly : y.er.s.length ≤ 1000) : Calls Tryz.prog 31 #[(Sc.mk 3 A c []).val, x.val, y.val] w (RetJ w (setE x.er y.er)) := by
  obtain ⟨res, hres⟩ : ∃ res, setE x.er y.er = res := ⟨_, rfl⟩
  have HR : Hid (res = if 40 < (R1.bothL x.er.s y.er.s).length then none else some (.mk 0 0 (R1.bothL x.er.s y.er.s) [] [])) := hres.symm
  rw [hres]
  clear hres
  obtain ⟨n, m, sA, sc, ss, cA, cc, cs, vA, vc, vs⟩ := x
  obtain ⟨n', m', sA', sc', ss', cA', cc', cs', vA', vc', vs'⟩ := y
  rw [er_mk] at sx lx HR
  rw [er_mk] at sy ly HR
  simp only [Va.s] at sx lx sy ly
  replace HR : Hid (res = if 40 < (R1.bothL ss ss').length then none else some (.mk 0 0 (R1.bothL ss ss') [] [])) := HR.out
  have px := hx.out
  have py := hy.out
  have HJ := Lib.hid (fun W (hb : Below w.heap.size w W) => R1.Both_new sA sA' sc sc' ss ss' W (px.sl.below hb) (py.sl.below hb) sx sy px.sb.1 py.sb.1 px.sb.2.1 py.sb.2.1 (by omega) (by omega))
  have HS : Hid (∀ s ∈ R1.bothL ss ss', s.length ≤ maxLen) := fun s hs => by
    rcases R1.mem_bothL.1 hs with h | h
    · exact px.st s h
    · exact py.st s h
  have hbl : (R1.bothL ss ss').length ≤ 2000 := by have := R1.bothL_len ss ss'; omega
  obtain ⟨tt, htt⟩ : ∃ tt, R1.bothL ss ss' = tt := ⟨_, rfl⟩
  rw [htt] at HJ HS HR hbl
  clear hx hy sx sy lx ly px py htt
  simp only [S2.val_mk, val_mk, List.length_nil]
  obtain ⟨V, hV⟩ : ∃ V, (((w.alloc (.cells #[.int .i64 3, .slice A 0 c] 37)).alloc (.cells #[.int .u64 n, .int .u64 m, .slice sA ss.length sc, .slice cA cs.length cc, .slice vA vs.length vc] 29)).alloc (.cells #[.int .u64 n', .int .u64 m', .slice sA' ss'.length sc', .slice cA' cs'.length cc', .slice vA' vs'.length vc'] 29)).alloc (.cells #[.int .u64 0, .int .u64 0, .slice none 0 0, .slice none 0 0, .slice none 0 0] 29) = V := ⟨_, rfl⟩
  obtain ⟨q3, q4, q5, q6, hbV, hs0⟩ := blk4 hV
  have hsV : w.heap.size + 4 ≤ V.heap.size := by omega
  clear hs0
  have e0 : V.cell? ⟨w.heap.size, 0, none⟩ = some (.int .i64 3) := blk_cell q3 0 _ rfl
  have e1 : V.cell? ⟨w.heap.size, 1, none⟩ = some (.slice A 0 c) := blk_cell q3 1 _ rfl
  have a0 : V.cell? ⟨w.heap.size + 1, 0, none⟩ = some (.int .u64 n) := blk_cell q4 0 _ rfl
  have a1 : V.cell? ⟨w.heap.size + 1, 1, none⟩ = some (.int .u64 m) := blk_cell q4 1 _ rfl
  have a2 : V.cell? ⟨w.heap.size + 1, 2, none⟩ = some (.slice sA ss.length sc) := blk_cell q4 2 _ rfl
  have a3 : V.cell? ⟨w.heap.size + 1, 3, none⟩ = some (.slice cA cs.length cc) := blk_cell q4 3 _ rfl
  have a4 : V.cell? ⟨w.heap.size + 1, 4, none⟩ = some (.slice vA vs.length vc) := blk_cell q4 4 _ rfl
  have b0 : V.cell? ⟨w.heap.size + 1 + 1, 0, none⟩ = some (.int .u64 n') := blk_cell q5 0 _ rfl
  have b1 : V.cell? ⟨w.heap.size + 1 + 1, 1, none⟩ = some (.int .u64 m') := blk_cell q5 1 _ rfl
  have b2 : V.cell? ⟨w.heap.size + 1 + 1, 2, none⟩ = some (.slice sA' ss'.length sc') := blk_cell q5 2 _ rfl
  have b3 : V.cell? ⟨w.heap.size + 1 + 1, 3, none⟩ = some (.slice cA' cs'.length cc') := blk_cell q5 3 _ rfl
  have b4 : V.cell? ⟨w.heap.size + 1 + 1, 4, none⟩ = some (.slice vA' vs'.length vc') := blk_cell q5 4 _ rfl
  go_enter Tryz.func31, Tryz.ntmps31
  go_wp2_with fail
  refine (HJ.out V hbV).mono ?_
  rintro e W ⟨v, rfl, hown, hbW⟩
  obtain ⟨A9, c9, rfl, _⟩ := row_form hown
  have HL := Lib.hid (row_lies hown)
  have HF := Lib.hid (fittingS_any A9 tt.length c9 (.mk 0 0 A9 c9 tt none 0 [] none 0 []) W)
  rw [val_mk] at HF
  have q6W := q6.below (W' := W) hbW
  have hbwW := hbV.trans (hbW.mono hbV.size)
  have hsW := hbW.size
  clear hown e0 e1 a0 a1 a2 a3 a4 b0 b1 b2 b3 b4 q3 q4 q5 hV HJ
  go_wp2_with fail
  refine HF.out.mono ?_
  rintro e U ⟨rfl, hbU⟩
  have q6U := q6W.below (W' := U) hbU
  clear HF q6W
  have d0 : U.cell? ⟨w.heap.size + 1 + 1 + 1, 0, none⟩ = some (.int .u64 0) := blk_cell q6U 0 _ rfl
  have d1 : U.cell? ⟨w.heap.size + 1 + 1 + 1, 1, none⟩ = some (.int .u64 0) := blk_cell q6U 1 _ rfl
  have d2 : U.cell? ⟨w.heap.size + 1 + 1 + 1, 2, none⟩ = some (.slice none 0 0) := blk_cell q6U 2 _ rfl
  have d3 : U.cell? ⟨w.heap.size + 1 + 1 + 1, 3, none⟩ = some (.slice none 0 0) := blk_cell q6U 3 _ rfl
  have d4 : U.cell? ⟨w.heap.size + 1 + 1 + 1, 4, none⟩ = some (.slice none 0 0) := blk_cell q6U 4 _ rfl
  have f0 := blk_frozen q6U 0
  have f1 := blk_frozen q6U 1
  have f2 := blk_frozen q6U 2
  have f3 := blk_frozen q6U 3
  have f4 := blk_frozen q6U 4
  by_cases h40 : 40 < tt.length
  · have hr := HR.out
    rw [if_pos h40] at hr
    subst hr
    simp only [if_pos h40, vlZ_val]
    go_wp2_with fail
    refine bodyPost_ret (results_cv rfl _ _ (w.heap.size + 1 + 1 + 1) (.int .u64 0) (.int .u64 0) (.slice none 0 0) (.slice none 0 0) (.slice none 0 0) rfl (blk_cell (set5_blk q6U) 0 _ rfl) (blk_cell (set5_blk q6U) 1 _ rfl) (blk_cell (set5_blk q6U) 2 _ rfl) (blk_cell (set5_blk q6U) 3 _ rfl) (blk_cell (set5_blk q6U) 4 _ rfl)) rfl ?_
    exact .inr ⟨rfl, rfl, set5_bel (hbwW.trans (hbU.mono hbwW.size)) (by omega)⟩
  · have hr := HR.out
    rw [if_neg h40] at hr
    subst hr
    simp only [if_neg h40, val_mk, List.length_nil]
    go_wp2_with fail
    refine bodyPost_ret (results_cv rfl _ _ (w.heap.size + 1 + 1 + 1) (.int .u64 0) (.int .u64 0) (.slice A9 tt.length c9) (.slice none 0 0) (.slice none 0 0) rfl (blk_cell (set5_blk q6U) 0 _ rfl) (blk_cell (set5_blk q6U) 1 _ rfl) (blk_cell (set5_blk q6U) 2 _ rfl) (blk_cell (set5_blk q6U) 3 _ rfl) (blk_cell (set5_blk q6U) 4 _ rfl)) rfl ?_
    refine .inl ⟨.mk 0 0 A9 c9 tt none 0 [] none 0 [], by rw [er_mk]; rfl, rfl, ((texts_in 0 0 (by omega) (by omega) HL.out.1 HL.out.2.1 HL.out.2.2 (by omega) HS.out).keep fun b hP => (set5_low (by have := hP.1; omega)).trans (hbU.block b hP.2)).mono fun b hP => ⟨by have := hP.1; have := hbV.size; omega, ?_⟩, set5_bel (hbwW.trans (hbU.mono hbwW.size)) (by omega)⟩
    exact Nat.lt_of_lt_of_le hP.2 (Nat.le_trans hbU.size (Nat.le_of_eq set5_size.symm))

set_option maxRecDepth 100000 in
set_option maxHeartbeats 1000000 in
theorem join_4 (A : Option Addr) (c : Nat) (a : Sc) (x y : Vl) (f : Va → Va → Option Va) (w : World) (hs : S2.LiesS w.heap.size w A [a]) (hx : x.In w) (hy : y.In w) (lx : x.er.s.length = x.vs.length) (ly : y.er.s.length = y.vs.length)
    (hj : ∀ u v : Vl, (u ∈ x.vs ∨ u = vlZ) → (v ∈ y.vs ∨ v = vlZ) → ∀ W : World, Below w.heap.size w W → Calls Tryz.prog 31 #[a.val, u.val, v.val] W (RetJ W (f u.er v.er))) :
    Calls Tryz.prog 31 #[(Sc.mk 4 A c [a]).val, x.val, y.val] w (RetJ w (mapE f x.er y.er)) := by
  have HJ := Lib.hid (fun W (hb : Below w.heap.size w W) => joinMaps_any a x y f W (hx.later hb) (hy.later hb) lx ly fun u v hu hv W' hb' => hj u v hu hv W' (hb.trans (hb'.mono hb.size)))
  obtain ⟨res, hres⟩ : ∃ res, mapE f x.er y.er = res := ⟨_, rfl⟩
  rw [hres] at HJ
  rw [hres]
  clear hx hy hres hj
  obtain ⟨n, m, sA, sc, ss, cA, cc, cs, vA, vc, vs⟩ := x
  obtain ⟨n', m', sA', sc', ss', cA', cc', cs', vA', vc', vs'⟩ := y
  obtain ⟨ak, aA, ac, al⟩ := a
  obtain ⟨b, off, rfl, hb, hcl⟩ := hs.get (k := 0) (by simp)
  obtain ⟨c0, c1⟩ := hcl 0 _ rfl
  simp only [S2.Sc.k, S2.Sc.v1, Nat.zero_mul, Nat.add_zero] at c0 c1
  simp only [S2.val_mk, val_mk] at HJ
  clear hcl hs
  simp only [S2.val_mk, val_mk, List.length_cons, List.length_nil, Nat.zero_add]
  obtain ⟨V, hV⟩ : ∃ V, (((w.alloc (.cells #[.int .i64 4, .slice (some ⟨b, off, none⟩) 1 c] 37)).alloc (.cells #[.int .u64 n, .int .u64 m, .slice sA ss.length sc, .slice cA cs.length cc, .slice vA vs.length vc] 29)).alloc (.cells #[.int .u64 n', .int .u64 m', .slice sA' ss'.length sc', .slice cA' cs'.length cc', .slice vA' vs'.length vc'] 29)).alloc (.cells #[.int .u64 0, .int .u64 0, .slice none 0 0, .slice none 0 0, .slice none 0 0] 29) = V := ⟨_, rfl⟩
  obtain ⟨q3, q4, q5, q6, hbV, hs0⟩ := blk4 hV
  have hsV : w.heap.size + 4 ≤ V.heap.size := by omega
  clear hs0
  have e0 : V.cell? ⟨w.heap.size, 0, none⟩ = some (.int .i64 4) := blk_cell q3 0 _ rfl
  have e1 : V.cell? ⟨w.heap.size, 1, none⟩ = some (.slice (some ⟨b, off, none⟩) 1 c) := blk_cell q3 1 _ rfl
  have a0 : V.cell? ⟨w.heap.size + 1, 0, none⟩ = some (.int .u64 n) := blk_cell q4 0 _ rfl
  have a1 : V.cell? ⟨w.heap.size + 1, 1, none⟩ = some (.int .u64 m) := blk_cell q4 1 _ rfl
  have a2 : V.cell? ⟨w.heap.size + 1, 2, none⟩ = some (.slice sA ss.length sc) := blk_cell q4 2 _ rfl
  have a3 : V.cell? ⟨w.heap.size + 1, 3, none⟩ = some (.slice cA cs.length cc) := blk_cell q4 3 _ rfl
  have a4 : V.cell? ⟨w.heap.size + 1, 4, none⟩ = some (.slice vA vs.length vc) := blk_cell q4 4 _ rfl
  have b0 : V.cell? ⟨w.heap.size + 1 + 1, 0, none⟩ = some (.int .u64 n') := blk_cell q5 0 _ rfl
  have b1 : V.cell? ⟨w.heap.size + 1 + 1, 1, none⟩ = some (.int .u64 m') := blk_cell q5 1 _ rfl
  have b2 : V.cell? ⟨w.heap.size + 1 + 1, 2, none⟩ = some (.slice sA' ss'.length sc') := blk_cell q5 2 _ rfl
  have b3 : V.cell? ⟨w.heap.size + 1 + 1, 3, none⟩ = some (.slice cA' cs'.length cc') := blk_cell q5 3 _ rfl
  have b4 : V.cell? ⟨w.heap.size + 1 + 1, 4, none⟩ = some (.slice vA' vs'.length vc') := blk_cell q5 4 _ rfl
  replace c0 := (hbV.cell (p := ⟨b, off, none⟩) hb).trans c0
  replace c1 := (hbV.cell (p := ⟨b, off + 1, none⟩) hb).trans c1
  have HJV := Lib.hid (HJ.out V.drew hbV.drew)
  clear HJ
  go_enter Tryz.func31, Tryz.ntmps31
  go_wp2_with fail
  have l0 : w.heap.size < V.heap.size := by omega
  have l1 : w.heap.size + 1 < V.heap.size := by omega
  have l2 : w.heap.size + 1 + 1 < V.heap.size := by omega
  have lb : b < V.heap.size := by omega
  have hnb : b ≠ w.heap.size + 1 + 1 + 1 := by omega
  refine wp_region_noPanic ?_
  refine wp_region_held_drew (S := (fun w' => w'.cell? ⟨w.heap.size, 1, none⟩ = some (.slice (some ⟨b, off, none⟩) 1 c) ∧ w'.cell? ⟨b, off, none⟩ = some (.int .i64 ak) ∧ w'.cell? ⟨b, off + 1, none⟩ = some (.slice aA al.length ac) ∧ w'.cell? ⟨w.heap.size + 1, 0, none⟩ = some (.int .u64 n) ∧ w'.cell? ⟨w.heap.size + 1, 1, none⟩ = some (.int .u64 m) ∧ w'.cell? ⟨w.heap.size + 1, 2, none⟩ = some (.slice sA ss.length sc) ∧ w'.cell? ⟨w.heap.size + 1, 3, none⟩ = some (.slice cA cs.length cc) ∧ w'.cell? ⟨w.heap.size + 1, 4, none⟩ = some (.slice vA vs.length vc) ∧ w'.cell? ⟨w.heap.size + 1 + 1, 0, none⟩ = some (.int .u64 n') ∧ w'.cell? ⟨w.heap.size + 1 + 1, 1, none⟩ = some (.int .u64 m') ∧ w'.cell? ⟨w.heap.size + 1 + 1, 2, none⟩ = some (.slice sA' ss'.length sc') ∧ w'.cell? ⟨w.heap.size + 1 + 1, 3, none⟩ = some (.slice cA' cs'.length cc') ∧ w'.cell? ⟨w.heap.size + 1 + 1, 4, none⟩ = some (.slice vA' vs'.length vc'))) (by kernel_rfl) ?_ (fun hHeld => ?_)
  · exact ⟨e1, c0, c1, a0, a1, a2, a3, a4, b0, b1, b2, b3, b4⟩
  refine takeH 0 35 (v := ?q1_v0) rfl rfl (by kernel_rfl) (by kernel_rfl) (by kernel_rfl) (fun _ _ _ h => h) (Or.inl ⟨by rfl, ?q1_h0⟩) (by assumption) ?q1_r0
  case q1_h0 => (intro w hSw; (try dsimp only at hSw); go_simp; try (with_reducible rfl))
  simp only [List.set_cons_zero, List.set_cons_succ]
  refine takeH 1 36 (v := ?q1_v1) rfl rfl (by kernel_rfl) (by kernel_rfl) (by kernel_rfl) (fun _ _ _ h => h) (Or.inl ⟨by rfl, ?q1_h1⟩) (by assumption) ?q1_r1
  case q1_h1 => (intro w hSw; (try dsimp only at hSw); go_simp; try (with_reducible rfl))
  simp only [List.set_cons_zero, List.set_cons_succ]
  refine takeH 2 37 (v := ?q1_v2) rfl rfl (by kernel_rfl) (by kernel_rfl) (by kernel_rfl) (fun _ _ _ h => h) (Or.inl ⟨by rfl, ?q1_h2⟩) (by assumption) ?q1_r2
  case q1_h2 => (intro w hSw; (try dsimp only at hSw); go_simp; try (with_reducible rfl))
  simp only [List.set_cons_zero, List.set_cons_succ]
  refine takeH 3 38 (v := ?q1_v3) rfl rfl (by kernel_rfl) (by kernel_rfl) (by kernel_rfl) (fun _ _ _ h => h) (Or.inl ⟨by rfl, ?q1_h3⟩) (by assumption) ?q1_r3
  case q1_h3 => (intro w hSw; (try dsimp only at hSw); go_simp; try (with_reducible rfl))
  simp only [List.set_cons_zero, List.set_cons_succ]
  refine takeH 4 39 (v := ?q1_v4) rfl rfl (by kernel_rfl) (by kernel_rfl) (by kernel_rfl) (fun _ _ _ h => h) (Or.inl ⟨by rfl, ?q1_h4⟩) (by assumption) ?q1_r4
  case q1_h4 => (intro w hSw; (try dsimp only at hSw); go_simp; try (with_reducible rfl))
  simp only [List.set_cons_zero, List.set_cons_succ]
  refine takeH 5 40 (v := ?q1_v5) rfl rfl (by kernel_rfl) (by kernel_rfl) (by kernel_rfl) (fun _ _ _ h => h) (Or.inl ⟨by rfl, ?q1_h5⟩) (by assumption) ?q1_r5
  case q1_h5 => (intro w hSw; (try dsimp only at hSw); go_simp; try (with_reducible rfl))
  simp only [List.set_cons_zero, List.set_cons_succ]
  refine wpAnyH_ready (rs := [6]) (by kernel_rfl) (by simp) ?_
  refine AllReadyH.cons rfl (fun K hK => ?_) AllReadyH.nil
  go_simp
  go_wp2_with (go_at_call 45; refine HJV.out.mono ?_; rintro e U hr; (obtain ⟨⟨zn, zm, zsA, zsc, zss, zcA, zcc, zcs, zvA, zvc, zvs⟩, ev, rfl, hzi, hbU0, hcase⟩ := retJ_case hr; simp only [val_mk]; have HZ := Lib.hid hzi; have HC := Lib.hid hcase; have hbU : Below V.heap.size V U := (Below.refl _ V).drew.trans hbU0; have q6U := q6.below (W' := U) hbU; clear hr hzi hcase hbU0; replace e1 := (hbU.cell (p := ⟨w.heap.size, 1, none⟩) l0).trans e1; replace c0 := (hbU.cell (p := ⟨b, off, none⟩) lb).trans c0; replace c1 := (hbU.cell (p := ⟨b, off + 1, none⟩) lb).trans c1; replace a0 := (hbU.cell (p := ⟨w.heap.size + 1, 0, none⟩) l1).trans a0; replace a1 := (hbU.cell (p := ⟨w.heap.size + 1, 1, none⟩) l1).trans a1; replace a2 := (hbU.cell (p := ⟨w.heap.size + 1, 2, none⟩) l1).trans a2; replace a3 := (hbU.cell (p := ⟨w.heap.size + 1, 3, none⟩) l1).trans a3; replace a4 := (hbU.cell (p := ⟨w.heap.size + 1, 4, none⟩) l1).trans a4; replace b0 := (hbU.cell (p := ⟨w.heap.size + 1 + 1, 0, none⟩) l2).trans b0; replace b1 := (hbU.cell (p := ⟨w.heap.size + 1 + 1, 1, none⟩) l2).trans b1; replace b2 := (hbU.cell (p := ⟨w.heap.size + 1 + 1, 2, none⟩) l2).trans b2; replace b3 := (hbU.cell (p := ⟨w.heap.size + 1 + 1, 3, none⟩) l2).trans b3; replace b4 := (hbU.cell (p := ⟨w.heap.size + 1 + 1, 4, none⟩) l2).trans b4; have d0 : U.cell? ⟨w.heap.size + 1 + 1 + 1, 0, none⟩ = some (.int .u64 0) := blk_cell q6U 0 _ rfl; have d1 : U.cell? ⟨w.heap.size + 1 + 1 + 1, 1, none⟩ = some (.int .u64 0) := blk_cell q6U 1 _ rfl; have d2 : U.cell? ⟨w.heap.size + 1 + 1 + 1, 2, none⟩ = some (.slice none 0 0) := blk_cell q6U 2 _ rfl; have d3 : U.cell? ⟨w.heap.size + 1 + 1 + 1, 3, none⟩ = some (.slice none 0 0) := blk_cell q6U 3 _ rfl; have d4 : U.cell? ⟨w.heap.size + 1 + 1 + 1, 4, none⟩ = some (.slice none 0 0) := blk_cell q6U 4 _ rfl; have f0 := blk_frozen q6U 0; have f1 := blk_frozen q6U 1; have f2 := blk_frozen q6U 2; have f3 := blk_frozen q6U 3; have f4 := blk_frozen q6U 4))
  refine hK.out _ _ ?_ (fun hHeld => ?_)
  · exact ⟨e1, c0, c1, a0, a1, a2, a3, a4, b0, b1, b2, b3, b4⟩
  clear hK K
  refine takeH 7 42 (v := ?q1_v7) rfl rfl (by kernel_rfl) (by kernel_rfl) (by kernel_rfl) (fun _ _ _ h => h) (Or.inl ⟨by rfl, ?q1_h7⟩) (by assumption) ?q1_r7
  case q1_h7 => (intro w hSw; (try dsimp only at hSw); go_simp; try (with_reducible rfl))
  simp only [List.set_cons_zero, List.set_cons_succ]
  refine takeH 8 43 (v := ?q1_v8) rfl rfl (by kernel_rfl) (by kernel_rfl) (by kernel_rfl) (fun _ _ _ h => h) (Or.inl ⟨by rfl, ?q1_h8⟩) (by assumption) ?q1_r8
  case q1_h8 => (intro w hSw; (try dsimp only at hSw); go_simp; try (with_reducible rfl))
  simp only [List.set_cons_zero, List.set_cons_succ]
  refine wpAnyH_ready (rs := [9]) (by kernel_rfl) (by simp) ?_
  refine AllReadyH.cons rfl (fun K hK => ?_) AllReadyH.nil
  go_simp
  obtain ⟨Y, hY⟩ : ∃ Y, set5 U (w.heap.size + 1 + 1 + 1) (.int .u64 zn) (.int .u64 zm) (.slice zsA zss.length zsc) (.slice zcA zcs.length zcc) (.slice zvA zvs.length zvc) = Y := ⟨_, rfl⟩
  change K _ (set5 U (w.heap.size + 1 + 1 + 1) (.int .u64 zn) (.int .u64 zm) (.slice zsA zss.length zsc) (.slice zcA zcs.length zcc) (.slice zvA zvs.length zvc))
  rw [hY]
  have hlow0 : Y.heap[w.heap.size]? = U.heap[w.heap.size]? := by rw [← hY]; exact set5_low (by omega)
  have hlow1 : Y.heap[w.heap.size + 1]? = U.heap[w.heap.size + 1]? := by rw [← hY]; exact set5_low (by omega)
  have hlow2 : Y.heap[w.heap.size + 1 + 1]? = U.heap[w.heap.size + 1 + 1]? := by rw [← hY]; exact set5_low (by omega)
  have hlow3 : Y.heap[b]? = U.heap[b]? := by rw [← hY]; exact set5_low (by omega)
  refine hK.out _ _ ?_ (fun hHeld => ?_)
  · exact ⟨(World.cell?_of_block (a := ⟨w.heap.size, 1, none⟩) hlow0).trans e1, (World.cell?_of_block (a := ⟨b, off, none⟩) hlow3).trans c0, (World.cell?_of_block (a := ⟨b, off + 1, none⟩) hlow3).trans c1, (World.cell?_of_block (a := ⟨w.heap.size + 1, 0, none⟩) hlow1).trans a0, (World.cell?_of_block (a := ⟨w.heap.size + 1, 1, none⟩) hlow1).trans a1, (World.cell?_of_block (a := ⟨w.heap.size + 1, 2, none⟩) hlow1).trans a2, (World.cell?_of_block (a := ⟨w.heap.size + 1, 3, none⟩) hlow1).trans a3, (World.cell?_of_block (a := ⟨w.heap.size + 1, 4, none⟩) hlow1).trans a4, (World.cell?_of_block (a := ⟨w.heap.size + 1 + 1, 0, none⟩) hlow2).trans b0, (World.cell?_of_block (a := ⟨w.heap.size + 1 + 1, 1, none⟩) hlow2).trans b1, (World.cell?_of_block (a := ⟨w.heap.size + 1 + 1, 2, none⟩) hlow2).trans b2, (World.cell?_of_block (a := ⟨w.heap.size + 1 + 1, 3, none⟩) hlow2).trans b3, (World.cell?_of_block (a := ⟨w.heap.size + 1 + 1, 4, none⟩) hlow2).trans b4⟩
  clear hK K
  refine takeH 10 7 (v := ?q1_v10) rfl rfl (by kernel_rfl) (by kernel_rfl) (by kernel_rfl) (fun _ _ _ h => h) (Or.inl ⟨by rfl, ?q1_h10⟩) (by assumption) ?q1_r10
  case q1_h10 => (intro w hSw; (try dsimp only at hSw); go_simp; try (with_reducible rfl))
  simp only [List.set_cons_zero, List.set_cons_succ]
  refine wpAnyH_done (by kernel_rfl) ?_ _
  refine NoPanic.normal ?_
  rw [← hY]
  go_wp2_with fail
  refine bodyPost_ret (results_cv rfl _ _ (w.heap.size + 1 + 1 + 1) (.int .u64 zn) (.int .u64 zm) (.slice zsA zss.length zsc) (.slice zcA zcs.length zcc) (.slice zvA zvs.length zvc) rfl (blk_cell (set5_blk q6U) 0 _ rfl) (blk_cell (set5_blk q6U) 1 _ rfl) (blk_cell (set5_blk q6U) 2 _ rfl) (blk_cell (set5_blk q6U) 3 _ rfl) (blk_cell (set5_blk q6U) 4 _ rfl)) rfl ?_
  exact retJ_store hbV hbU (by omega) (by omega) HZ.out HC.out

set_option maxRecDepth 100000 in
set_option maxHeartbeats 1000000 in
theorem join_8 (A : Option Addr) (c : Nat) (a : Sc) (x y : Vl) (f : Va → Va → Option Va) (w : World) (hs : S2.LiesS w.heap.size w A [a]) (hx : x.In w) (hy : y.In w) (lx : x.er.c.length = x.vs.length) (ly : y.er.c.length = y.vs.length) (n0 : x.vs.length ≤ 1000) (n1 : y.vs.length ≤ 1000) (hck : ∀ k ∈ x.er.c ++ y.er.c, C3.Asc k ∧ k.length ≤ 1000)
    (hj : ∀ u v : Vl, (u ∈ x.vs ∨ u = vlZ) → (v ∈ y.vs ∨ v = vlZ) → ∀ W : World, Below w.heap.size w W → Calls Tryz.prog 31 #[a.val, u.val, v.val] W (RetJ W (f u.er v.er))) :
    Calls Tryz.prog 31 #[(Sc.mk 8 A c [a]).val, x.val, y.val] w (RetJ w (causeE f x.er y.er)) := by
  have HJ := Lib.hid (fun W (hb : Below w.heap.size w W) => joinCauses_any a x y f W (hx.later hb) (hy.later hb) lx ly n0 n1 hck fun u v hu hv W' hb' => hj u v hu hv W' (hb.trans (hb'.mono hb.size)))
  obtain ⟨res, hres⟩ : ∃ res, causeE f x.er y.er = res := ⟨_, rfl⟩
  rw [hres] at HJ
  rw [hres]
  clear hx hy hres hj
  obtain ⟨n, m, sA, sc, ss, cA, cc, cs, vA, vc, vs⟩ := x
  obtain ⟨n', m', sA', sc', ss', cA', cc', cs', vA', vc', vs'⟩ := y
  obtain ⟨ak, aA, ac, al⟩ := a
  obtain ⟨b, off, rfl, hb, hcl⟩ := hs.get (k := 0) (by simp)
  obtain ⟨c0, c1⟩ := hcl 0 _ rfl
  simp only [S2.Sc.k, S2.Sc.v1, Nat.zero_mul, Nat.add_zero] at c0 c1
  simp only [S2.val_mk, val_mk] at HJ
  clear hcl hs
  simp only [S2.val_mk, val_mk, List.length_cons, List.length_nil, Nat.zero_add]
  obtain ⟨V, hV⟩ : ∃ V, (((w.alloc (.cells #[.int .i64 8, .slice (some ⟨b, off, none⟩) 1 c] 37)).alloc (.cells #[.int .u64 n, .int .u64 m, .slice sA ss.length sc, .slice cA cs.length cc, .slice vA vs.length vc] 29)).alloc (.cells #[.int .u64 n', .int .u64 m', .slice sA' ss'.length sc', .slice cA' cs'.length cc', .slice vA' vs'.length vc'] 29)).alloc (.cells #[.int .u64 0, .int .u64 0, .slice none 0 0, .slice none 0 0, .slice none 0 0] 29) = V := ⟨_, rfl⟩
  obtain ⟨q3, q4, q5, q6, hbV, hs0⟩ := blk4 hV
  have hsV : w.heap.size + 4 ≤ V.heap.size := by omega
  clear hs0
  have e0 : V.cell? ⟨w.heap.size, 0, none⟩ = some (.int .i64 8) := blk_cell q3 0 _ rfl
  have e1 : V.cell? ⟨w.heap.size, 1, none⟩ = some (.slice (some ⟨b, off, none⟩) 1 c) := blk_cell q3 1 _ rfl
  have a0 : V.cell? ⟨w.heap.size + 1, 0, none⟩ = some (.int .u64 n) := blk_cell q4 0 _ rfl
  have a1 : V.cell? ⟨w.heap.size + 1, 1, none⟩ = some (.int .u64 m) := blk_cell q4 1 _ rfl
  have a2 : V.cell? ⟨w.heap.size + 1, 2, none⟩ = some (.slice sA ss.length sc) := blk_cell q4 2 _ rfl
  have a3 : V.cell? ⟨w.heap.size + 1, 3, none⟩ = some (.slice cA cs.length cc) := blk_cell q4 3 _ rfl
  have a4 : V.cell? ⟨w.heap.size + 1, 4, none⟩ = some (.slice vA vs.length vc) := blk_cell q4 4 _ rfl
  have b0 : V.cell? ⟨w.heap.size + 1 + 1, 0, none⟩ = some (.int .u64 n') := blk_cell q5 0 _ rfl
  have b1 : V.cell? ⟨w.heap.size + 1 + 1, 1, none⟩ = some (.int .u64 m') := blk_cell q5 1 _ rfl
  have b2 : V.cell? ⟨w.heap.size + 1 + 1, 2, none⟩ = some (.slice sA' ss'.length sc') := blk_cell q5 2 _ rfl
  have b3 : V.cell? ⟨w.heap.size + 1 + 1, 3, none⟩ = some (.slice cA' cs'.length cc') := blk_cell q5 3 _ rfl
  have b4 : V.cell? ⟨w.heap.size + 1 + 1, 4, none⟩ = some (.slice vA' vs'.length vc') := blk_cell q5 4 _ rfl
  replace c0 := (hbV.cell (p := ⟨b, off, none⟩) hb).trans c0
  replace c1 := (hbV.cell (p := ⟨b, off + 1, none⟩) hb).trans c1
  have HJV := Lib.hid (HJ.out V.drew hbV.drew)
  clear HJ
  go_enter Tryz.func31, Tryz.ntmps31
  go_wp2_with fail
  have l0 : w.heap.size < V.heap.size := by omega
  have l1 : w.heap.size + 1 < V.heap.size := by omega
  have l2 : w.heap.size + 1 + 1 < V.heap.size := by omega
  have lb : b < V.heap.size := by omega
  have hnb : b ≠ w.heap.size + 1 + 1 + 1 := by omega
  refine wp_region_noPanic ?_
  refine wp_region_held_drew (S := (fun w' => w'.cell? ⟨w.heap.size, 1, none⟩ = some (.slice (some ⟨b, off, none⟩) 1 c) ∧ w'.cell? ⟨b, off, none⟩ = some (.int .i64 ak) ∧ w'.cell? ⟨b, off + 1, none⟩ = some (.slice aA al.length ac) ∧ w'.cell? ⟨w.heap.size + 1, 0, none⟩ = some (.int .u64 n) ∧ w'.cell? ⟨w.heap.size + 1, 1, none⟩ = some (.int .u64 m) ∧ w'.cell? ⟨w.heap.size + 1, 2, none⟩ = some (.slice sA ss.length sc) ∧ w'.cell? ⟨w.heap.size + 1, 3, none⟩ = some (.slice cA cs.length cc) ∧ w'.cell? ⟨w.heap.size + 1, 4, none⟩ = some (.slice vA vs.length vc) ∧ w'.cell? ⟨w.heap.size + 1 + 1, 0, none⟩ = some (.int .u64 n') ∧ w'.cell? ⟨w.heap.size + 1 + 1, 1, none⟩ = some (.int .u64 m') ∧ w'.cell? ⟨w.heap.size + 1 + 1, 2, none⟩ = some (.slice sA' ss'.length sc') ∧ w'.cell? ⟨w.heap.size + 1 + 1, 3, none⟩ = some (.slice cA' cs'.length cc') ∧ w'.cell? ⟨w.heap.size + 1 + 1, 4, none⟩ = some (.slice vA' vs'.length vc'))) (by kernel_rfl) ?_ (fun hHeld => ?_)
  · exact ⟨e1, c0, c1, a0, a1, a2, a3, a4, b0, b1, b2, b3, b4⟩
  refine takeH 0 65 (v := ?q2_v0) rfl rfl (by kernel_rfl) (by kernel_rfl) (by kernel_rfl) (fun _ _ _ h => h) (Or.inl ⟨by rfl, ?q2_h0⟩) (by assumption) ?q2_r0
  case q2_h0 => (intro w hSw; (try dsimp only at hSw); go_simp; try (with_reducible rfl))
  simp only [List.set_cons_zero, List.set_cons_succ]
  refine takeH 1 66 (v := ?q2_v1) rfl rfl (by kernel_rfl) (by kernel_rfl) (by kernel_rfl) (fun _ _ _ h => h) (Or.inl ⟨by rfl, ?q2_h1⟩) (by assumption) ?q2_r1
  case q2_h1 => (intro w hSw; (try dsimp only at hSw); go_simp; try (with_reducible rfl))
  simp only [List.set_cons_zero, List.set_cons_succ]
  refine takeH 2 67 (v := ?q2_v2) rfl rfl (by kernel_rfl) (by kernel_rfl) (by kernel_rfl) (fun _ _ _ h => h) (Or.inl ⟨by rfl, ?q2_h2⟩) (by assumption) ?q2_r2
  case q2_h2 => (intro w hSw; (try dsimp only at hSw); go_simp; try (with_reducible rfl))
  simp only [List.set_cons_zero, List.set_cons_succ]
  refine takeH 3 68 (v := ?q2_v3) rfl rfl (by kernel_rfl) (by kernel_rfl) (by kernel_rfl) (fun _ _ _ h => h) (Or.inl ⟨by rfl, ?q2_h3⟩) (by assumption) ?q2_r3
  case q2_h3 => (intro w hSw; (try dsimp only at hSw); go_simp; try (with_reducible rfl))
  simp only [List.set_cons_zero, List.set_cons_succ]
  refine takeH 4 69 (v := ?q2_v4) rfl rfl (by kernel_rfl) (by kernel_rfl) (by kernel_rfl) (fun _ _ _ h => h) (Or.inl ⟨by rfl, ?q2_h4⟩) (by assumption) ?q2_r4
  case q2_h4 => (intro w hSw; (try dsimp only at hSw); go_simp; try (with_reducible rfl))
  simp only [List.set_cons_zero, List.set_cons_succ]
  refine takeH 5 70 (v := ?q2_v5) rfl rfl (by kernel_rfl) (by kernel_rfl) (by kernel_rfl) (fun _ _ _ h => h) (Or.inl ⟨by rfl, ?q2_h5⟩) (by assumption) ?q2_r5
  case q2_h5 => (intro w hSw; (try dsimp only at hSw); go_simp; try (with_reducible rfl))
  simp only [List.set_cons_zero, List.set_cons_succ]
  refine wpAnyH_ready (rs := [6]) (by kernel_rfl) (by simp) ?_
  refine AllReadyH.cons rfl (fun K hK => ?_) AllReadyH.nil
  go_simp
  go_wp2_with (go_at_call 49; refine HJV.out.mono ?_; rintro e U hr; (obtain ⟨⟨zn, zm, zsA, zsc, zss, zcA, zcc, zcs, zvA, zvc, zvs⟩, ev, rfl, hzi, hbU0, hcase⟩ := retJ_case hr; simp only [val_mk]; have HZ := Lib.hid hzi; have HC := Lib.hid hcase; have hbU : Below V.heap.size V U := (Below.refl _ V).drew.trans hbU0; have q6U := q6.below (W' := U) hbU; clear hr hzi hcase hbU0; replace e1 := (hbU.cell (p := ⟨w.heap.size, 1, none⟩) l0).trans e1; replace c0 := (hbU.cell (p := ⟨b, off, none⟩) lb).trans c0; replace c1 := (hbU.cell (p := ⟨b, off + 1, none⟩) lb).trans c1; replace a0 := (hbU.cell (p := ⟨w.heap.size + 1, 0, none⟩) l1).trans a0; replace a1 := (hbU.cell (p := ⟨w.heap.size + 1, 1, none⟩) l1).trans a1; replace a2 := (hbU.cell (p := ⟨w.heap.size + 1, 2, none⟩) l1).trans a2; replace a3 := (hbU.cell (p := ⟨w.heap.size + 1, 3, none⟩) l1).trans a3; replace a4 := (hbU.cell (p := ⟨w.heap.size + 1, 4, none⟩) l1).trans a4; replace b0 := (hbU.cell (p := ⟨w.heap.size + 1 + 1, 0, none⟩) l2).trans b0; replace b1 := (hbU.cell (p := ⟨w.heap.size + 1 + 1, 1, none⟩) l2).trans b1; replace b2 := (hbU.cell (p := ⟨w.heap.size + 1 + 1, 2, none⟩) l2).trans b2; replace b3 := (hbU.cell (p := ⟨w.heap.size + 1 + 1, 3, none⟩) l2).trans b3; replace b4 := (hbU.cell (p := ⟨w.heap.size + 1 + 1, 4, none⟩) l2).trans b4; have d0 : U.cell? ⟨w.heap.size + 1 + 1 + 1, 0, none⟩ = some (.int .u64 0) := blk_cell q6U 0 _ rfl; have d1 : U.cell? ⟨w.heap.size + 1 + 1 + 1, 1, none⟩ = some (.int .u64 0) := blk_cell q6U 1 _ rfl; have d2 : U.cell? ⟨w.heap.size + 1 + 1 + 1, 2, none⟩ = some (.slice none 0 0) := blk_cell q6U 2 _ rfl; have d3 : U.cell? ⟨w.heap.size + 1 + 1 + 1, 3, none⟩ = some (.slice none 0 0) := blk_cell q6U 3 _ rfl; have d4 : U.cell? ⟨w.heap.size + 1 + 1 + 1, 4, none⟩ = some (.slice none 0 0) := blk_cell q6U 4 _ rfl; have f0 := blk_frozen q6U 0; have f1 := blk_frozen q6U 1; have f2 := blk_frozen q6U 2; have f3 := blk_frozen q6U 3; have f4 := blk_frozen q6U 4))
  refine hK.out _ _ ?_ (fun hHeld => ?_)
  · exact ⟨e1, c0, c1, a0, a1, a2, a3, a4, b0, b1, b2, b3, b4⟩
  clear hK K
  refine takeH 7 72 (v := ?q2_v7) rfl rfl (by kernel_rfl) (by kernel_rfl) (by kernel_rfl) (fun _ _ _ h => h) (Or.inl ⟨by rfl, ?q2_h7⟩) (by assumption) ?q2_r7
  case q2_h7 => (intro w hSw; (try dsimp only at hSw); go_simp; try (with_reducible rfl))
  simp only [List.set_cons_zero, List.set_cons_succ]
  refine takeH 8 73 (v := ?q2_v8) rfl rfl (by kernel_rfl) (by kernel_rfl) (by kernel_rfl) (fun _ _ _ h => h) (Or.inl ⟨by rfl, ?q2_h8⟩) (by assumption) ?q2_r8
  case q2_h8 => (intro w hSw; (try dsimp only at hSw); go_simp; try (with_reducible rfl))
  simp only [List.set_cons_zero, List.set_cons_succ]
  refine wpAnyH_ready (rs := [9]) (by kernel_rfl) (by simp) ?_
  refine AllReadyH.cons rfl (fun K hK => ?_) AllReadyH.nil
  go_simp
  obtain ⟨Y, hY⟩ : ∃ Y, set5 U (w.heap.size + 1 + 1 + 1) (.int .u64 zn) (.int .u64 zm) (.slice zsA zss.length zsc) (.slice zcA zcs.length zcc) (.slice zvA zvs.length zvc) = Y := ⟨_, rfl⟩
  change K _ (set5 U (w.heap.size + 1 + 1 + 1) (.int .u64 zn) (.int .u64 zm) (.slice zsA zss.length zsc) (.slice zcA zcs.length zcc) (.slice zvA zvs.length zvc))
  rw [hY]
  have hlow0 : Y.heap[w.heap.size]? = U.heap[w.heap.size]? := by rw [← hY]; exact set5_low (by omega)
  have hlow1 : Y.heap[w.heap.size + 1]? = U.heap[w.heap.size + 1]? := by rw [← hY]; exact set5_low (by omega)
  have hlow2 : Y.heap[w.heap.size + 1 + 1]? = U.heap[w.heap.size + 1 + 1]? := by rw [← hY]; exact set5_low (by omega)
  have hlow3 : Y.heap[b]? = U.heap[b]? := by rw [← hY]; exact set5_low (by omega)
  refine hK.out _ _ ?_ (fun hHeld => ?_)
  · exact ⟨(World.cell?_of_block (a := ⟨w.heap.size, 1, none⟩) hlow0).trans e1, (World.cell?_of_block (a := ⟨b, off, none⟩) hlow3).trans c0, (World.cell?_of_block (a := ⟨b, off + 1, none⟩) hlow3).trans c1, (World.cell?_of_block (a := ⟨w.heap.size + 1, 0, none⟩) hlow1).trans a0, (World.cell?_of_block (a := ⟨w.heap.size + 1, 1, none⟩) hlow1).trans a1, (World.cell?_of_block (a := ⟨w.heap.size + 1, 2, none⟩) hlow1).trans a2, (World.cell?_of_block (a := ⟨w.heap.size + 1, 3, none⟩) hlow1).trans a3, (World.cell?_of_block (a := ⟨w.heap.size + 1, 4, none⟩) hlow1).trans a4, (World.cell?_of_block (a := ⟨w.heap.size + 1 + 1, 0, none⟩) hlow2).trans b0, (World.cell?_of_block (a := ⟨w.heap.size + 1 + 1, 1, none⟩) hlow2).trans b1, (World.cell?_of_block (a := ⟨w.heap.size + 1 + 1, 2, none⟩) hlow2).trans b2, (World.cell?_of_block (a := ⟨w.heap.size + 1 + 1, 3, none⟩) hlow2).trans b3, (World.cell?_of_block (a := ⟨w.heap.size + 1 + 1, 4, none⟩) hlow2).trans b4⟩
  clear hK K
  refine takeH 10 7 (v := ?q2_v10) rfl rfl (by kernel_rfl) (by kernel_rfl) (by kernel_rfl) (fun _ _ _ h => h) (Or.inl ⟨by rfl, ?q2_h10⟩) (by assumption) ?q2_r10
  case q2_h10 => (intro w hSw; (try dsimp only at hSw); go_simp; try (with_reducible rfl))
  simp only [List.set_cons_zero, List.set_cons_succ]
  refine wpAnyH_done (by kernel_rfl) ?_ _
  refine NoPanic.normal ?_
  rw [← hY]
  go_wp2_with fail
  refine bodyPost_ret (results_cv rfl _ _ (w.heap.size + 1 + 1 + 1) (.int .u64 zn) (.int .u64 zm) (.slice zsA zss.length zsc) (.slice zcA zcs.length zcc) (.slice zvA zvs.length zvc) rfl (blk_cell (set5_blk q6U) 0 _ rfl) (blk_cell (set5_blk q6U) 1 _ rfl) (blk_cell (set5_blk q6U) 2 _ rfl) (blk_cell (set5_blk q6U) 3 _ rfl) (blk_cell (set5_blk q6U) 4 _ rfl)) rfl ?_
  exact retJ_store hbV hbU (by omega) (by omega) HZ.out HC.out

end Go.Proofs.YtdbohojncbeajaaGreat.J5
