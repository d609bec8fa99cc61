/- What ValueParts does: it answers true. No condition. -/
import Derived.Test.YtcpfjjimbnmaoaaMt18
import Derived.Deep.DeepCutAuto
namespace Go.Proofs.Ytcpfjjimbnmaoaa.V4
open Go.RowKit Go.Shelf
open C3 (Tk isC belAl drewB)
open S2 (Sc Tr isT allocB)

/-- A block of cells, none of them frozen. -/
def Blk (W : World) (X : Nat) (t : TypeId) (cs : Array Value) : Prop := W.heap[X]? = some (.cells cs t (0, 0))
theorem Blk.lt {W : World} {X : Nat} {t : TypeId} {cs : Array Value} (h : Blk W X t cs) : X < W.heap.size := (Array.getElem?_eq_some_iff.1 h).1
theorem Blk.cell {W : World} {X : Nat} {t : TypeId} {cs : Array Value} (h : Blk W X t cs) {i : Nat} {v : Value} (hv : cs[i]? = some v) : W.cell? ⟨X, i, none⟩ = some v := by
  unfold World.cell?
  rw [show W.heap[X]? = _ from h]
  simpa using hv
theorem Blk.frozen {W : World} {X : Nat} {t : TypeId} {cs : Array Value} (h : Blk W X t cs) (i : Nat) : W.frozen? ⟨X, i, none⟩ = false := by simp [World.frozen?, show W.heap[X]? = _ from h]
theorem Blk.later {W W' : World} {X : Nat} {t : TypeId} {cs : Array Value} (h : Blk W X t cs) (hb : Below W.heap.size W W') : Blk W' X t cs := (hb.block X h.lt).trans h
theorem Blk.new (W : World) (t : TypeId) (cs : Array Value) : Blk (W.alloc (.cells cs t)) W.heap.size t cs := World.alloc_heap_new W _
theorem Blk.set {W : World} {X : Nat} {t : TypeId} {cs : Array Value} (h : Blk W X t cs) (i : Nat) (v : Value) : Blk (W.setCell ⟨X, i, none⟩ v) X t (cs.setIfInBounds i v) := by
  obtain ⟨hlt, hk⟩ := Array.getElem?_eq_some_iff.1 h
  show (W.heap.modify X _)[X]? = _
  rw [Array.getElem?_eq_getElem (by rw [Array.size_modify]; exact hlt), Array.getElem_modify_self, hk]
  rfl
theorem Blk.bxd {W : World} {X : Nat} {t : TypeId} {cs : Array Value} (h : Blk W X t cs) : Bxd W X cs := ⟨h.lt, fun _ _ hv => h.cell hv⟩
theorem Blk.setOther {W : World} {X Y : Nat} {t : TypeId} {cs : Array Value} (h : Blk W X t cs) (hne : X ≠ Y) (i : Nat) (v : Value) : Blk (W.setCell ⟨Y, i, none⟩ v) X t cs := (Below.heap_setCell _ _ _ _ (by simpa using hne)).trans h

theorem inp_set {W : World} {X : Nat} {x : Vl} (h : x.Inp (Bar X) W) (i : Nat) (v : Value) : x.Inp (Bar X) (W.setCell ⟨X, i, none⟩ v) := h.keep fun b hb => Below.heap_setCell _ _ _ _ (by simpa [Bar] using hb)
theorem inp_later {W W' : World} {X : Nat} {x : Vl} (h : x.Inp (Bar X) W) (hb : Below W.heap.size W W') : x.Inp (Bar X) W' := h.kn (B := 0) (KN.of_below hb)

theorem bxd_new {W : World} {b : Nat} {cs : Array Value} {t : TypeId} (hb : W.heap.size = b) : Bxd (W.alloc (.cells cs t)) b cs := hb ▸ Bxd.new

/-- The value that the flags make. -/
def vaP (n m s c v : Bool) : Va := .mk (if n then 1 else 0) (if m then 1 else 0) (if s then [[97]] else []) (if c then [[⟨1, 1⟩]] else []) (if v then [.mk 1 0 [] [] []] else [])

/-- x, as far as it is made. -/
def XRel (w : World) (X : Nat) (n m s c v : Bool) (W : World) : Prop :=
  ∃ x : Vl, Blk W X 30 #[.int .u64 x.n, .int .u64 x.m, x.s1, x.c1, x.v1] ∧ x.Inp (Bar X) W ∧ x.er = vaP n m s c v ∧ Below w.heap.size w W ∧ w.heap.size ≤ X

theorem bot_1 : botT (.mk 1 []) = .zero := botT_zero (by simp [Tr.k])
theorem one_ne : (Va.mk 1 0 [] [] [] = Va.zero) = False := by simp [Va.zero]
theorem tick_11 : isC [⟨1, 1⟩] = true := tick_ok 1 1 (by omega) (by omega)

theorem parts_1 (n m s c v : Bool) : (isT 16 (.mk 1 []) && isV (.mk 1 []) (vaP n m s c v)) = (!m && (!s && (!c && !v))) := by
  rw [show isT 16 (.mk 1 []) = true by decide, Bool.true_and]
  unfold vaP
  rw [isV, base_mk, fits_1, if_neg (show ¬ (1 : Int) = 7 by decide)]
  cases n <;> cases m <;> cases s <;> cases c <;> cases v <;> simp [hasN, R1.Srt]

theorem parts_2 (n m s c v : Bool) : (isT 16 (.mk 2 []) && isV (.mk 2 []) (vaP n m s c v)) = (!m && (!s && (!c && !v))) := by
  rw [show isT 16 (.mk 2 []) = true by decide, Bool.true_and]
  unfold vaP
  rw [isV, base_mk, fits_2, if_neg (show ¬ (2 : Int) = 7 by decide)]
  cases n <;> cases m <;> cases s <;> cases c <;> cases v <;> simp [hasN, R1.Srt]

theorem parts_3 (n m s c v : Bool) : (isT 16 (.mk 3 []) && isV (.mk 3 []) (vaP n m s c v)) = (!n && (!m && (!c && !v))) := by
  rw [show isT 16 (.mk 3 []) = true by decide, Bool.true_and]
  unfold vaP
  rw [isV, base_mk, fits_3, if_neg (show ¬ (3 : Int) = 7 by decide)]
  cases n <;> cases m <;> cases s <;> cases c <;> cases v <;> simp [hasN, R1.Srt, shortV]

theorem parts_4 (n m s c v : Bool) : (isT 16 (.mk 4 [.mk 1 []]) && isV (.mk 4 [.mk 1 []]) (vaP n m s c v)) = (!n && (!m && (!c && (s == v)))) := by
  rw [show isT 16 (.mk 4 [.mk 1 []]) = true by decide, Bool.true_and]
  unfold vaP
  rw [isV, base_mk, fits_4, if_pos rfl]
  cases n <;> cases m <;> cases s <;> cases c <;> cases v <;> simp [hasN, R1.Srt, shortV, mapV, Va.v, num_1, bot_1, one_ne]

theorem parts_5 (n m s c v : Bool) : (isT 16 (.mk 5 [.mk 1 [], .mk 1 []]) && isV (.mk 5 [.mk 1 [], .mk 1 []]) (vaP n m s c v)) = (false) := by
  rw [show isT 16 (.mk 5 [.mk 1 [], .mk 1 []]) = true by decide, Bool.true_and]
  unfold vaP
  rw [isV, base_mk, fits_5]
  cases n <;> cases m <;> cases s <;> cases c <;> cases v <;> simp [hasN, R1.Srt, pairV, Va.v]

theorem parts_6 (n m s c v : Bool) : (isT 16 (.mk 6 []) && isV (.mk 6 []) (vaP n m s c v)) = (!c && (!v && (s || (!n && !m)))) := by
  rw [show isT 16 (.mk 6 []) = true by decide, Bool.true_and]
  unfold vaP
  rw [isV, base_mk, fits_6, if_neg (show ¬ (6 : Int) = 7 by decide)]
  cases n <;> cases m <;> cases s <;> cases c <;> cases v <;> simp [hasN, R1.Srt, shortV]

theorem parts_7 (n m s c v : Bool) : (isT 16 (.mk 7 []) && isV (.mk 7 []) (vaP n m s c v)) = (!n && (!m && (!s && !v))) := by
  rw [show isT 16 (.mk 7 []) = true by decide, Bool.true_and]
  unfold vaP
  rw [isV, base_mk, fits_7, if_pos rfl]
  cases n <;> cases m <;> cases s <;> cases c <;> cases v <;> simp [hasN, R1.Srt, clockV, Va.c, tick_11]

theorem parts_8 (n m s c v : Bool) : (isT 16 (.mk 8 [.mk 1 []]) && isV (.mk 8 [.mk 1 []]) (vaP n m s c v)) = (!n && (!m && (!s && (c == v)))) := by
  rw [show isT 16 (.mk 8 [.mk 1 []]) = true by decide, Bool.true_and]
  unfold vaP
  rw [isV, base_mk, fits_ne 8 (by decide) (by decide) (by decide) (by decide) (by decide) (by decide) (by decide), sibs_mk, if_neg (show ¬ (8 : Int) = 4 by decide)]
  cases n <;> cases m <;> cases s <;> cases c <;> cases v <;> simp [hasN, R1.Srt, sibGo, tick_11, num_1, lastAhead]

theorem inp_n {P : Nat → Prop} {W : World} {n m : Int} {sA : Option Addr} {sc : Nat} {ss : List Str} {cA : Option Addr} {cc : Nat} {cs : List Ck} {vA : Option Addr} {vc : Nat} {vs : List Vl} (h : (Vl.mk n m sA sc ss cA cc cs vA vc vs).Inp P W) : (Vl.mk 1 m sA sc ss cA cc cs vA vc vs).Inp P W := by
  cases h with
  | mk _ _ _ _ _ _ _ _ _ _ _ h1 h2 h3 h4 h5 h6 h7 h8 h9 h10 h11 => exact .mk _ _ _ _ _ _ _ _ _ _ _ (by omega) h2 h3 h4 h5 h6 h7 h8 h9 h10 h11
theorem inp_m {P : Nat → Prop} {W : World} {n m : Int} {sA : Option Addr} {sc : Nat} {ss : List Str} {cA : Option Addr} {cc : Nat} {cs : List Ck} {vA : Option Addr} {vc : Nat} {vs : List Vl} (h : (Vl.mk n m sA sc ss cA cc cs vA vc vs).Inp P W) : (Vl.mk n 1 sA sc ss cA cc cs vA vc vs).Inp P W := by
  cases h with
  | mk _ _ _ _ _ _ _ _ _ _ _ h1 h2 h3 h4 h5 h6 h7 h8 h9 h10 h11 => exact .mk _ _ _ _ _ _ _ _ _ _ _ h1 (by omega) h3 h4 h5 h6 h7 h8 h9 h10 h11
theorem inp_s {P : Nat → Prop} {W : World} {n m : Int} {sA : Option Addr} {sc : Nat} {ss : List Str} {cA : Option Addr} {cc : Nat} {cs : List Ck} {vA : Option Addr} {vc : Nat} {vs : List Vl} (h : (Vl.mk n m sA sc ss cA cc cs vA vc vs).Inp P W) {b : Nat} (hb : Bxd W b #[.string ⟨#[97]⟩]) (hP : P b) : (Vl.mk n m (some ⟨b, 0, none⟩) 1 [[97]] cA cc cs vA vc vs).Inp P W := by
  cases h with
  | mk _ _ _ _ _ _ _ _ _ _ _ h1 h2 h3 h4 h5 h6 h7 h8 h9 h10 h11 => exact .mk _ _ _ _ _ _ _ _ _ _ _ h1 h2 (.inr ⟨b, 0, rfl, hP, fun i u hu => by rw [Nat.zero_add]; exact hb.2 i u (by simpa [cellsS, S] using hu)⟩) (by simp [maxLen]) (by simp [maxLen]) h6 h7 h8 h9 h10 h11
theorem inp_c {P : Nat → Prop} {W : World} {n m : Int} {sA : Option Addr} {sc : Nat} {ss : List Str} {cA : Option Addr} {cc : Nat} {cs : List Ck} {vA : Option Addr} {vc : Nat} {vs : List Vl} (h : (Vl.mk n m sA sc ss cA cc cs vA vc vs).Inp P W) {b1 b2 : Nat} (hb1 : Bxd W b1 #[.int .i64 1, .int .u64 1]) (hb2 : Bxd W b2 #[.slice (some ⟨b1, 0, none⟩) 1 1]) (hP1 : P b1) (hP2 : P b2) : (Vl.mk n m sA sc ss (some ⟨b2, 0, none⟩) 1 [ckOne b1 1 1] vA vc vs).Inp P W := by
  cases h with
  | mk _ _ _ _ _ _ _ _ _ _ _ h1 h2 h3 h4 h5 h6 h7 h8 h9 h10 h11 => exact .mk _ _ _ _ _ _ _ _ _ _ _ h1 h2 h3 h4 h5 (.inr ⟨b2, 0, rfl, hP2, fun i u hu => by rw [Nat.zero_add]; exact hb2.2 i u (by simpa [cellsC, ckOne, Ck.v] using hu)⟩) (by simp [maxLen]) (fun k hk => by rw [List.mem_singleton.1 hk]; exact ⟨.inr ⟨b1, 0, rfl, hP1, fun i u hu => by rw [Nat.zero_add]; exact hb1.2 i u (by simpa [ckOne, C3.cellsT] using hu)⟩, by simp [ckOne], by simp [ckOne, maxLen], fun t ht => by simp [ckOne] at ht; subst ht; simp, by simp [ckOne]⟩) h9 h10 h11
theorem inp_v {P : Nat → Prop} {W : World} {n m : Int} {sA : Option Addr} {sc : Nat} {ss : List Str} {cA : Option Addr} {cc : Nat} {cs : List Ck} {vA : Option Addr} {vc : Nat} {vs : List Vl} (h : (Vl.mk n m sA sc ss cA cc cs vA vc vs).Inp P W) {b : Nat} (hb : Bxd W b #[.int .u64 1, .int .u64 0, .slice none 0 0, .slice none 0 0, .slice none 0 0]) (hP : P b) : (Vl.mk n m sA sc ss cA cc cs (some ⟨b, 0, none⟩) 1 [vlNum 1]).Inp P W := by
  cases h with
  | mk _ _ _ _ _ _ _ _ _ _ _ h1 h2 h3 h4 h5 h6 h7 h8 h9 h10 h11 => exact .mk _ _ _ _ _ _ _ _ _ _ _ h1 h2 h3 h4 h5 h6 h7 h8 (.inr ⟨b, 0, rfl, hP, fun i u hu => by rw [Nat.zero_add]; exact hb.2 i u (by simpa [cellsV, vlNum, Vl.n, Vl.m, Vl.s1, Vl.c1, Vl.v1] using hu)⟩) (by simp [maxLen]) (fun x hx => by rw [List.mem_singleton.1 hx]; exact vlNum_in 1 (by omega) _ _)

set_option maxRecDepth 100000 in
set_option maxHeartbeats 8000000 in
theorem valueParts_all (a0 : Int) (n m s c v : Bool) (w0 : (Lit.int .u8 a0).wf = true) (w : World) :
    Calls Try.prog 5 #[.int .u8 a0, .bool n, .bool m, .bool s, .bool c, .bool v] w (RetV w (.bool true)) := by
  have h0 := u8_ok w0
  clear w0
  go_enter Try.func5, Try.ntmps5
  go_wp2_with fail
  refine (known_any _).mono ?_
  rintro e W ⟨rfl, hB⟩

  go_upto_if 24 with fail
  go_cut [] (fun wx => XRel w W.heap.size n false false false false wx)
  case first =>
    cases n with
    | true =>
      go_wp2_with fail
      go_meet
      exact ⟨vlNum 1, Blk.new W _ _, vlNum_in 1 (by omega) _ _, rfl, belAl hB, hB.size⟩
    | false =>
      go_wp2_with fail
      go_meet
      exact ⟨vlNum 0, Blk.new W _ _, vlNum_in 0 (by omega) _ _, rfl, belAl hB, hB.size⟩
  case rest =>
    obtain ⟨⟨xn, xm, xsA, xsc, xss, xcA, xcc, xcs, xvA, xvc, xvs⟩, hx, hi, he, hB1, hX⟩ := hcut
    simp only [Vl.n, Vl.m, Vl.s1, Vl.c1, Vl.v1] at hx
    rw [er_mk, vaP, mk_inj] at he
    obtain ⟨e1, e2, e3, e4, e5⟩ := he
    have hlt := hx.lt
    have hne : Bar W.heap.size wc.heap.size := by unfold Bar; omega
    have hne1 : Bar W.heap.size (wc.heap.size + 1) := by unfold Bar; omega
    have x0 := hx.cell (i := 0) rfl
    have x1 := hx.cell (i := 1) rfl
    have x2 := hx.cell (i := 2) rfl
    have x3 := hx.cell (i := 3) rfl
    have x4 := hx.cell (i := 4) rfl
    have f1 := hx.frozen 1
    have f2 := hx.frozen 2
    have f3 := hx.frozen 3
    have f4 := hx.frozen 4
    go_upto_if 26 with fail
    go_cut [] (fun wx => XRel w W.heap.size n m false false false wx)
    case first =>
      cases m with
      | true =>
        go_wp2_with fail
        go_meet
        exact ⟨Vl.mk xn 1 xsA xsc xss xcA xcc xcs xvA xvc xvs, hx.set 1 _, inp_m (inp_set hi 1 _), by rw [er_mk, vaP, mk_inj]; exact ⟨e1, rfl, e3, e4, e5⟩, hB1.setCell (by simpa using hX) _, hX⟩
      | false =>
        go_wp2_with fail
        go_meet
        exact ⟨Vl.mk xn xm xsA xsc xss xcA xcc xcs xvA xvc xvs, hx, hi, by rw [er_mk, vaP, mk_inj]; exact ⟨e1, e2, e3, e4, e5⟩, hB1, hX⟩
    case rest =>
      clear hx hi e1 e2 e3 e4 e5 hB1 hX hlt hne hne1 x0 x1 x2 x3 x4 f1 f2 f3 f4
      obtain ⟨⟨xn, xm, xsA, xsc, xss, xcA, xcc, xcs, xvA, xvc, xvs⟩, hx, hi, he, hB1, hX⟩ := hcut
      simp only [Vl.n, Vl.m, Vl.s1, Vl.c1, Vl.v1] at hx
      rw [er_mk, vaP, mk_inj] at he
      obtain ⟨e1, e2, e3, e4, e5⟩ := he
      have hlt := hx.lt
      have hne : Bar W.heap.size wc.heap.size := by unfold Bar; omega
      have hne1 : Bar W.heap.size (wc.heap.size + 1) := by unfold Bar; omega
      have x0 := hx.cell (i := 0) rfl
      have x1 := hx.cell (i := 1) rfl
      have x2 := hx.cell (i := 2) rfl
      have x3 := hx.cell (i := 3) rfl
      have x4 := hx.cell (i := 4) rfl
      have f1 := hx.frozen 1
      have f2 := hx.frozen 2
      have f3 := hx.frozen 3
      have f4 := hx.frozen 4
      go_upto_if 28 with fail
      go_cut [] (fun wx => XRel w W.heap.size n m s false false wx)
      case first =>
        cases s with
        | true =>
          go_wp2_with fail
          go_meet
          exact ⟨Vl.mk xn xm (some ⟨wc.heap.size, 0, none⟩) 1 [[97]] xcA xcc xcs xvA xvc xvs, (hx.set 2 _).later (allocB _ _), inp_s (inp_later (inp_set hi 2 _) (allocB _ _)) (bxd_new (by simp)) hne, by rw [er_mk, vaP, mk_inj]; exact ⟨e1, e2, rfl, e4, e5⟩, belAl (hB1.setCell (by simpa using hX) _), hX⟩
        | false =>
          go_wp2_with fail
          go_meet
          exact ⟨Vl.mk xn xm xsA xsc xss xcA xcc xcs xvA xvc xvs, hx, hi, by rw [er_mk, vaP, mk_inj]; exact ⟨e1, e2, e3, e4, e5⟩, hB1, hX⟩
      case rest =>
        clear hx hi e1 e2 e3 e4 e5 hB1 hX hlt hne hne1 x0 x1 x2 x3 x4 f1 f2 f3 f4
        obtain ⟨⟨xn, xm, xsA, xsc, xss, xcA, xcc, xcs, xvA, xvc, xvs⟩, hx, hi, he, hB1, hX⟩ := hcut
        simp only [Vl.n, Vl.m, Vl.s1, Vl.c1, Vl.v1] at hx
        rw [er_mk, vaP, mk_inj] at he
        obtain ⟨e1, e2, e3, e4, e5⟩ := he
        have hlt := hx.lt
        have hne : Bar W.heap.size wc.heap.size := by unfold Bar; omega
        have hne1 : Bar W.heap.size (wc.heap.size + 1) := by unfold Bar; omega
        have x0 := hx.cell (i := 0) rfl
        have x1 := hx.cell (i := 1) rfl
        have x2 := hx.cell (i := 2) rfl
        have x3 := hx.cell (i := 3) rfl
        have x4 := hx.cell (i := 4) rfl
        have f1 := hx.frozen 1
        have f2 := hx.frozen 2
        have f3 := hx.frozen 3
        have f4 := hx.frozen 4
        go_upto_if 31 with fail
        go_cut [] (fun wx => XRel w W.heap.size n m s c false wx)
        case first =>
          cases c with
          | true =>
            go_wp2_with fail
            go_meet
            exact ⟨Vl.mk xn xm xsA xsc xss (some ⟨wc.heap.size + 1, 0, none⟩) 1 [ckOne wc.heap.size 1 1] xvA xvc xvs, ((hx.set 3 _).later (allocB _ _)).later (allocB _ _), inp_c (inp_later (inp_later (inp_set hi 3 _) (allocB _ _)) (allocB _ _)) ((bxd_new (by simp)).later (allocB _ _)) (bxd_new (by simp)) hne hne1, by rw [er_mk, vaP, mk_inj]; exact ⟨e1, e2, e3, rfl, e5⟩, belAl (belAl (hB1.setCell (by simpa using hX) _)), hX⟩
          | false =>
            go_wp2_with fail
            go_meet
            exact ⟨Vl.mk xn xm xsA xsc xss xcA xcc xcs xvA xvc xvs, hx, hi, by rw [er_mk, vaP, mk_inj]; exact ⟨e1, e2, e3, e4, e5⟩, hB1, hX⟩
        case rest =>
          clear hx hi e1 e2 e3 e4 e5 hB1 hX hlt hne hne1 x0 x1 x2 x3 x4 f1 f2 f3 f4
          obtain ⟨⟨xn, xm, xsA, xsc, xss, xcA, xcc, xcs, xvA, xvc, xvs⟩, hx, hi, he, hB1, hX⟩ := hcut
          simp only [Vl.n, Vl.m, Vl.s1, Vl.c1, Vl.v1] at hx
          rw [er_mk, vaP, mk_inj] at he
          obtain ⟨e1, e2, e3, e4, e5⟩ := he
          have hlt := hx.lt
          have hne : Bar W.heap.size wc.heap.size := by unfold Bar; omega
          have hne1 : Bar W.heap.size (wc.heap.size + 1) := by unfold Bar; omega
          have x0 := hx.cell (i := 0) rfl
          have x1 := hx.cell (i := 1) rfl
          have x2 := hx.cell (i := 2) rfl
          have x3 := hx.cell (i := 3) rfl
          have x4 := hx.cell (i := 4) rfl
          have f1 := hx.frozen 1
          have f2 := hx.frozen 2
          have f3 := hx.frozen 3
          have f4 := hx.frozen 4
          go_upto_if 36 with fail
          go_cut [] (fun wx => XRel w W.heap.size n m s c v wx)
          case first =>
            cases v with
            | true =>
              go_wp2_with fail
              go_meet
              exact ⟨Vl.mk xn xm xsA xsc xss xcA xcc xcs (some ⟨wc.heap.size, 0, none⟩) 1 [vlNum 1], (hx.set 4 _).later (allocB _ _), inp_v (inp_later (inp_set hi 4 _) (allocB _ _)) (bxd_new (by simp)) hne, by rw [er_mk, vaP, mk_inj]; exact ⟨e1, e2, e3, e4, rfl⟩, belAl (hB1.setCell (by simpa using hX) _), hX⟩
            | false =>
              go_wp2_with fail
              go_meet
              exact ⟨Vl.mk xn xm xsA xsc xss xcA xcc xcs xvA xvc xvs, hx, hi, by rw [er_mk, vaP, mk_inj]; exact ⟨e1, e2, e3, e4, e5⟩, hB1, hX⟩
          case rest =>
            clear hx hi e1 e2 e3 e4 e5 hB1 hX hlt hne hne1 x0 x1 x2 x3 x4 f1 f2 f3 f4
            obtain ⟨⟨xn, xm, xsA, xsc, xss, xcA, xcc, xcs, xvA, xvc, xvs⟩, hx, hi, he, hB1, hX⟩ := hcut
            simp only [Vl.n, Vl.m, Vl.s1, Vl.c1, Vl.v1] at hx
            have HE := Lib.hid he
            clear he
            go_wp2_with fail
            refine (of_any (a0 % 8 + 1) none 0 0 wc).mono ?_
            rintro e w5 ⟨rfl, hb5⟩
            replace hx := hx.later hb5
            replace hi := inp_later hi hb5
            replace hB1 := hB1.trans (hb5.mono hB1.size)
            clear hb5
            generalize hk : a0 % 8 + 1 = k
            have hk8 : k = 1 ∨ k = 2 ∨ k = 3 ∨ k = 4 ∨ k = 5 ∨ k = 6 ∨ k = 7 ∨ k = 8 := by omega
            clear hk h0
            have hlt := hx.lt
            have hx5 := hx.later (allocB w5 (.cells #[.int .i64 k, .slice none 0 0] 24))
            have hi5 := inp_later hi (allocB w5 (.cells #[.int .i64 k, .slice none 0 0] 24))
            have hB5 := belAl (o := .cells #[.int .i64 k, .slice none 0 0] 24) hB1
            have hin5 : (Vl.mk xn xm xsA xsc xss xcA xcc xcs xvA xvc xvs).In w5 := hi.inn
            have hW5 := allocB w5 (.cells #[.int .i64 k, .slice none 0 0] 24)
            have hX5 : w.heap.size ≤ w5.heap.size := hB1.size
            rcases hk8 with rfl | rfl | rfl | rfl | rfl | rfl | rfl | rfl
            · have HI : Hid (Calls Try.prog 9 #[(scLeaf 1).val, (Vl.mk xn xm xsA xsc xss xcA xcc xcs xvA xvc xvs).val] (w5.alloc (.cells #[.int .i64 1, .slice none 0 0] 24)) (RetV (w5.alloc (.cells #[.int .i64 1, .slice none 0 0] 24)) (.bool (!m && (!s && (!c && !v)))))) := by
                have h := Is_any (scLeaf 1) (Vl.mk xn xm xsA xsc xss xcA xcc xcs xvA xvc xvs) _ (scLeaf_in _ _ _) hi5.inn
                rw [HE.out, show (scLeaf 1).er = .mk 1 [] from rfl, parts_1] at h
                exact h
              simp only [val_mk] at HI
              have x0 : World.cell? (w5.alloc (.cells #[.int .i64 1, .slice none 0 0] 24)) ⟨W.heap.size, 0, none⟩ = some (.int .u64 xn) := hx5.cell rfl
              have x1 : World.cell? (w5.alloc (.cells #[.int .i64 1, .slice none 0 0] 24)) ⟨W.heap.size, 1, none⟩ = some (.int .u64 xm) := hx5.cell rfl
              have x2 : World.cell? (w5.alloc (.cells #[.int .i64 1, .slice none 0 0] 24)) ⟨W.heap.size, 2, none⟩ = some (.slice xsA xss.length xsc) := hx5.cell rfl
              have x3 : World.cell? (w5.alloc (.cells #[.int .i64 1, .slice none 0 0] 24)) ⟨W.heap.size, 3, none⟩ = some (.slice xcA xcs.length xcc) := hx5.cell rfl
              have x4 : World.cell? (w5.alloc (.cells #[.int .i64 1, .slice none 0 0] 24)) ⟨W.heap.size, 4, none⟩ = some (.slice xvA xvs.length xvc) := hx5.cell rfl
              cases m with
              | true =>
                go_wp2_with fail
                refine HI.out.mono ?_
                rintro e w6 ⟨rfl, hb6⟩
                go_wp2_with fail
                go_ret
                exact ⟨by simp, hB5.trans (hb6.mono hB5.size)⟩
              | false =>
                cases s with
                | true =>
                  go_wp2_with fail
                  refine HI.out.mono ?_
                  rintro e w6 ⟨rfl, hb6⟩
                  go_wp2_with fail
                  go_ret
                  exact ⟨by simp, hB5.trans (hb6.mono hB5.size)⟩
                | false =>
                  cases c with
                  | true =>
                    go_wp2_with fail
                    refine HI.out.mono ?_
                    rintro e w6 ⟨rfl, hb6⟩
                    go_wp2_with fail
                    go_ret
                    exact ⟨by simp, hB5.trans (hb6.mono hB5.size)⟩
                  | false =>
                    cases v with
                    | true =>
                      go_wp2_with fail
                      refine HI.out.mono ?_
                      rintro e w6 ⟨rfl, hb6⟩
                      go_wp2_with fail
                      go_ret
                      exact ⟨by simp, hB5.trans (hb6.mono hB5.size)⟩
                    | false =>
                      go_wp2_with fail
                      refine HI.out.mono ?_
                      rintro e w6 ⟨rfl, hb6⟩
                      go_wp2_with fail
                      go_ret
                      exact ⟨by simp, hB5.trans (hb6.mono hB5.size)⟩
            · have HI : Hid (Calls Try.prog 9 #[(scLeaf 2).val, (Vl.mk xn xm xsA xsc xss xcA xcc xcs xvA xvc xvs).val] (w5.alloc (.cells #[.int .i64 2, .slice none 0 0] 24)) (RetV (w5.alloc (.cells #[.int .i64 2, .slice none 0 0] 24)) (.bool (!m && (!s && (!c && !v)))))) := by
                have h := Is_any (scLeaf 2) (Vl.mk xn xm xsA xsc xss xcA xcc xcs xvA xvc xvs) _ (scLeaf_in _ _ _) hi5.inn
                rw [HE.out, show (scLeaf 2).er = .mk 2 [] from rfl, parts_2] at h
                exact h
              simp only [val_mk] at HI
              have x0 : World.cell? (w5.alloc (.cells #[.int .i64 2, .slice none 0 0] 24)) ⟨W.heap.size, 0, none⟩ = some (.int .u64 xn) := hx5.cell rfl
              have x1 : World.cell? (w5.alloc (.cells #[.int .i64 2, .slice none 0 0] 24)) ⟨W.heap.size, 1, none⟩ = some (.int .u64 xm) := hx5.cell rfl
              have x2 : World.cell? (w5.alloc (.cells #[.int .i64 2, .slice none 0 0] 24)) ⟨W.heap.size, 2, none⟩ = some (.slice xsA xss.length xsc) := hx5.cell rfl
              have x3 : World.cell? (w5.alloc (.cells #[.int .i64 2, .slice none 0 0] 24)) ⟨W.heap.size, 3, none⟩ = some (.slice xcA xcs.length xcc) := hx5.cell rfl
              have x4 : World.cell? (w5.alloc (.cells #[.int .i64 2, .slice none 0 0] 24)) ⟨W.heap.size, 4, none⟩ = some (.slice xvA xvs.length xvc) := hx5.cell rfl
              cases m with
              | true =>
                go_wp2_with fail
                refine HI.out.mono ?_
                rintro e w6 ⟨rfl, hb6⟩
                go_wp2_with fail
                go_ret
                exact ⟨by simp, hB5.trans (hb6.mono hB5.size)⟩
              | false =>
                cases s with
                | true =>
                  go_wp2_with fail
                  refine HI.out.mono ?_
                  rintro e w6 ⟨rfl, hb6⟩
                  go_wp2_with fail
                  go_ret
                  exact ⟨by simp, hB5.trans (hb6.mono hB5.size)⟩
                | false =>
                  cases c with
                  | true =>
                    go_wp2_with fail
                    refine HI.out.mono ?_
                    rintro e w6 ⟨rfl, hb6⟩
                    go_wp2_with fail
                    go_ret
                    exact ⟨by simp, hB5.trans (hb6.mono hB5.size)⟩
                  | false =>
                    cases v with
                    | true =>
                      go_wp2_with fail
                      refine HI.out.mono ?_
                      rintro e w6 ⟨rfl, hb6⟩
                      go_wp2_with fail
                      go_ret
                      exact ⟨by simp, hB5.trans (hb6.mono hB5.size)⟩
                    | false =>
                      go_wp2_with fail
                      refine HI.out.mono ?_
                      rintro e w6 ⟨rfl, hb6⟩
                      go_wp2_with fail
                      go_ret
                      exact ⟨by simp, hB5.trans (hb6.mono hB5.size)⟩
            · have HI : Hid (Calls Try.prog 9 #[(scLeaf 3).val, (Vl.mk xn xm xsA xsc xss xcA xcc xcs xvA xvc xvs).val] (w5.alloc (.cells #[.int .i64 3, .slice none 0 0] 24)) (RetV (w5.alloc (.cells #[.int .i64 3, .slice none 0 0] 24)) (.bool (!n && (!m && (!c && !v)))))) := by
                have h := Is_any (scLeaf 3) (Vl.mk xn xm xsA xsc xss xcA xcc xcs xvA xvc xvs) _ (scLeaf_in _ _ _) hi5.inn
                rw [HE.out, show (scLeaf 3).er = .mk 3 [] from rfl, parts_3] at h
                exact h
              simp only [val_mk] at HI
              have x0 : World.cell? (w5.alloc (.cells #[.int .i64 3, .slice none 0 0] 24)) ⟨W.heap.size, 0, none⟩ = some (.int .u64 xn) := hx5.cell rfl
              have x1 : World.cell? (w5.alloc (.cells #[.int .i64 3, .slice none 0 0] 24)) ⟨W.heap.size, 1, none⟩ = some (.int .u64 xm) := hx5.cell rfl
              have x2 : World.cell? (w5.alloc (.cells #[.int .i64 3, .slice none 0 0] 24)) ⟨W.heap.size, 2, none⟩ = some (.slice xsA xss.length xsc) := hx5.cell rfl
              have x3 : World.cell? (w5.alloc (.cells #[.int .i64 3, .slice none 0 0] 24)) ⟨W.heap.size, 3, none⟩ = some (.slice xcA xcs.length xcc) := hx5.cell rfl
              have x4 : World.cell? (w5.alloc (.cells #[.int .i64 3, .slice none 0 0] 24)) ⟨W.heap.size, 4, none⟩ = some (.slice xvA xvs.length xvc) := hx5.cell rfl
              cases n with
              | true =>
                go_wp2_with fail
                refine HI.out.mono ?_
                rintro e w6 ⟨rfl, hb6⟩
                go_wp2_with fail
                go_ret
                exact ⟨by simp, hB5.trans (hb6.mono hB5.size)⟩
              | false =>
                cases m with
                | true =>
                  go_wp2_with fail
                  refine HI.out.mono ?_
                  rintro e w6 ⟨rfl, hb6⟩
                  go_wp2_with fail
                  go_ret
                  exact ⟨by simp, hB5.trans (hb6.mono hB5.size)⟩
                | false =>
                  cases c with
                  | true =>
                    go_wp2_with fail
                    refine HI.out.mono ?_
                    rintro e w6 ⟨rfl, hb6⟩
                    go_wp2_with fail
                    go_ret
                    exact ⟨by simp, hB5.trans (hb6.mono hB5.size)⟩
                  | false =>
                    cases v with
                    | true =>
                      go_wp2_with fail
                      refine HI.out.mono ?_
                      rintro e w6 ⟨rfl, hb6⟩
                      go_wp2_with fail
                      go_ret
                      exact ⟨by simp, hB5.trans (hb6.mono hB5.size)⟩
                    | false =>
                      go_wp2_with fail
                      refine HI.out.mono ?_
                      rintro e w6 ⟨rfl, hb6⟩
                      go_wp2_with fail
                      go_ret
                      exact ⟨by simp, hB5.trans (hb6.mono hB5.size)⟩
            · have ht5 := Blk.new w5 24 #[.int .i64 4, .slice none 0 0]
              go_wp2_with fail
              refine (of_any 1 none 0 0 _).mono ?_
              rintro e w6 ⟨rfl, hb6⟩
              replace hx5 := hx5.later hb6
              replace hi5 := inp_later hi5 hb6
              replace hB5 := hB5.trans (hb6.mono hB5.size)
              replace ht5 := ht5.later hb6
              replace hW5 := hW5.trans (hb6.mono hW5.size)
              clear hb6
              go_wp2_with fail
              have hq : Bxd (w6.alloc (.cells #[.int .i64 1, .slice none 0 0] 24)) w6.heap.size #[.int .i64 1, .slice none 0 0] := Bxd.new
              replace hx5 := hx5.later (allocB w6 (.cells #[.int .i64 1, .slice none 0 0] 24))
              replace hi5 := inp_later hi5 (allocB w6 (.cells #[.int .i64 1, .slice none 0 0] 24))
              replace hB5 := belAl (o := .cells #[.int .i64 1, .slice none 0 0] 24) hB5
              replace hW5 := belAl (o := .cells #[.int .i64 1, .slice none 0 0] 24) hW5
              have hbt := ht5.lt
              replace ht5 := ht5.later (allocB w6 (.cells #[.int .i64 1, .slice none 0 0] 24))
              refine (of_any 4 (some ⟨w6.heap.size, 0, none⟩) 1 1 _).mono ?_
              rintro e w8 ⟨rfl, hb6⟩
              replace hx5 := hx5.later hb6
              replace hi5 := inp_later hi5 hb6
              replace hB5 := hB5.trans (hb6.mono hB5.size)
              replace ht5 := ht5.later hb6
              replace hq := hq.later hb6
              replace hW5 := hW5.trans (hb6.mono hW5.size)
              clear hb6
              have hXT : W.heap.size ≠ w5.heap.size := by omega
              have hXT' : w5.heap.size ≠ W.heap.size := by omega
              have hQT : w6.heap.size ≠ w5.heap.size := by omega
              have t0 : World.cell? w8 ⟨w5.heap.size, 0, none⟩ = some (.int .i64 4) := ht5.cell rfl
              have t1 : World.cell? w8 ⟨w5.heap.size, 1, none⟩ = some (.slice none 0 0) := ht5.cell rfl
              have g0 := ht5.frozen 0
              have g1 := ht5.frozen 1
              have x0 : World.cell? w8 ⟨W.heap.size, 0, none⟩ = some (.int .u64 xn) := hx5.cell rfl
              have x1 : World.cell? w8 ⟨W.heap.size, 1, none⟩ = some (.int .u64 xm) := hx5.cell rfl
              have x2 : World.cell? w8 ⟨W.heap.size, 2, none⟩ = some (.slice xsA xss.length xsc) := hx5.cell rfl
              have x3 : World.cell? w8 ⟨W.heap.size, 3, none⟩ = some (.slice xcA xcs.length xcc) := hx5.cell rfl
              have x4 : World.cell? w8 ⟨W.heap.size, 4, none⟩ = some (.slice xvA xvs.length xvc) := hx5.cell rfl
              have hxz := (hx5.setOther hXT 0 (.int .i64 4)).setOther hXT 1 (.slice (some ⟨w6.heap.size, 0, none⟩) 1 1)
              have hwl := hq.1
              have hz : ∀ b, b ≠ w5.heap.size → ((w8.setCell ⟨w5.heap.size, 0, none⟩ (.int .i64 4)).setCell ⟨w5.heap.size, 1, none⟩ (.slice (some ⟨w6.heap.size, 0, none⟩) 1 1)).heap[b]? = w8.heap[b]? := fun b hb => (Below.heap_setCell _ _ _ _ (by simpa using hb)).trans (Below.heap_setCell _ _ _ _ (by simpa using hb))
              have HIW : Hid (Calls Try.prog 9 #[(scRow 4 w6.heap.size [scLeaf 1]).val, (Vl.mk xn xm xsA xsc xss xcA xcc xcs xvA xvc xvs).val] ((w8.setCell ⟨w5.heap.size, 0, none⟩ (.int .i64 4)).setCell ⟨w5.heap.size, 1, none⟩ (.slice (some ⟨w6.heap.size, 0, none⟩) 1 1)) (RetV ((w8.setCell ⟨w5.heap.size, 0, none⟩ (.int .i64 4)).setCell ⟨w5.heap.size, 1, none⟩ (.slice (some ⟨w6.heap.size, 0, none⟩) 1 1)) (.bool (!n && (!m && (!c && (s == v))))))) := by
                have hq2 : Bxd ((w8.setCell ⟨w5.heap.size, 0, none⟩ (.int .i64 4)).setCell ⟨w5.heap.size, 1, none⟩ (.slice (some ⟨w6.heap.size, 0, none⟩) 1 1)) w6.heap.size #[.int .i64 1, .slice none 0 0] := ⟨by simpa using hq.1, fun i u h => (World.cell?_of_block (hz w6.heap.size hQT)).trans (hq.2 i u h)⟩
                have h := Is_any (scRow 4 w6.heap.size [scLeaf 1]) (Vl.mk xn xm xsA xsc xss xcA xcc xcs xvA xvc xvs) _ (scRow_in 4 hq2 rfl (by simp) (fun t ht => by
                  simp at ht
                  subst ht
                  exact scLeaf_in _ _ _)) (Vl.Inp.inn (Vl.Inp.keep hin5 fun b hb => (hz b (by omega)).trans (hW5.block b hb)))
                rw [HE.out, show (scRow 4 w6.heap.size [scLeaf 1]).er = .mk 4 [.mk 1 []] from rfl, parts_4] at h
                exact h
              have hBZ : Below w.heap.size w ((w8.setCell ⟨w5.heap.size, 0, none⟩ (.int .i64 4)).setCell ⟨w5.heap.size, 1, none⟩ (.slice (some ⟨w6.heap.size, 0, none⟩) 1 1)) := (hB5.setCell (by simpa using hX5) _).setCell (by simpa using hX5) _
              clear hz hq hin5 hW5 ht5 hi5 hxz hwl
              cases n with
              | true =>
                go_wp2_with fail
                refine HIW.out.mono ?_
                rintro e w9 ⟨rfl, hb9⟩
                go_wp2_with fail
                go_ret
                exact ⟨by simp, hBZ.trans (hb9.mono hBZ.size)⟩
              | false =>
                cases m with
                | true =>
                  go_wp2_with fail
                  refine HIW.out.mono ?_
                  rintro e w9 ⟨rfl, hb9⟩
                  go_wp2_with fail
                  go_ret
                  exact ⟨by simp, hBZ.trans (hb9.mono hBZ.size)⟩
                | false =>
                  cases c with
                  | true =>
                    go_wp2_with fail
                    refine HIW.out.mono ?_
                    rintro e w9 ⟨rfl, hb9⟩
                    go_wp2_with fail
                    go_ret
                    exact ⟨by simp, hBZ.trans (hb9.mono hBZ.size)⟩
                  | false =>
                    go_wp2_with fail
                    refine HIW.out.mono ?_
                    rintro e w9 ⟨rfl, hb9⟩
                    go_wp2_with fail
                    go_ret
                    exact ⟨by simp, hBZ.trans (hb9.mono hBZ.size)⟩
            · have ht5 := Blk.new w5 24 #[.int .i64 5, .slice none 0 0]
              go_wp2_with fail
              refine (of_any 1 none 0 0 _).mono ?_
              rintro e w6 ⟨rfl, hb6⟩
              replace hx5 := hx5.later hb6
              replace hi5 := inp_later hi5 hb6
              replace hB5 := hB5.trans (hb6.mono hB5.size)
              replace ht5 := ht5.later hb6
              replace hW5 := hW5.trans (hb6.mono hW5.size)
              clear hb6
              go_wp2_with fail
              refine (of_any 1 none 0 0 _).mono ?_
              clear hx hi hB1
              rintro e w7 ⟨rfl, hb6⟩
              replace hx5 := hx5.later hb6
              replace hi5 := inp_later hi5 hb6
              replace hB5 := hB5.trans (hb6.mono hB5.size)
              replace ht5 := ht5.later hb6
              replace hW5 := hW5.trans (hb6.mono hW5.size)
              clear hb6
              go_wp2_with fail
              have hq : Bxd (w7.alloc (.cells #[.int .i64 1, .slice none 0 0, .int .i64 1, .slice none 0 0] 24)) w7.heap.size #[.int .i64 1, .slice none 0 0, .int .i64 1, .slice none 0 0] := Bxd.new
              replace hx5 := hx5.later (allocB w7 (.cells #[.int .i64 1, .slice none 0 0, .int .i64 1, .slice none 0 0] 24))
              replace hi5 := inp_later hi5 (allocB w7 (.cells #[.int .i64 1, .slice none 0 0, .int .i64 1, .slice none 0 0] 24))
              replace hB5 := belAl (o := .cells #[.int .i64 1, .slice none 0 0, .int .i64 1, .slice none 0 0] 24) hB5
              replace hW5 := belAl (o := .cells #[.int .i64 1, .slice none 0 0, .int .i64 1, .slice none 0 0] 24) hW5
              have hbt := ht5.lt
              replace ht5 := ht5.later (allocB w7 (.cells #[.int .i64 1, .slice none 0 0, .int .i64 1, .slice none 0 0] 24))
              refine (of_any 5 (some ⟨w7.heap.size, 0, none⟩) 2 2 _).mono ?_
              rintro e w8 ⟨rfl, hb6⟩
              replace hx5 := hx5.later hb6
              replace hi5 := inp_later hi5 hb6
              replace hB5 := hB5.trans (hb6.mono hB5.size)
              replace ht5 := ht5.later hb6
              replace hq := hq.later hb6
              replace hW5 := hW5.trans (hb6.mono hW5.size)
              clear hb6
              have hXT : W.heap.size ≠ w5.heap.size := by omega
              have hXT' : w5.heap.size ≠ W.heap.size := by omega
              have hQT : w7.heap.size ≠ w5.heap.size := by omega
              have t0 : World.cell? w8 ⟨w5.heap.size, 0, none⟩ = some (.int .i64 5) := ht5.cell rfl
              have t1 : World.cell? w8 ⟨w5.heap.size, 1, none⟩ = some (.slice none 0 0) := ht5.cell rfl
              have g0 := ht5.frozen 0
              have g1 := ht5.frozen 1
              have x0 : World.cell? w8 ⟨W.heap.size, 0, none⟩ = some (.int .u64 xn) := hx5.cell rfl
              have x1 : World.cell? w8 ⟨W.heap.size, 1, none⟩ = some (.int .u64 xm) := hx5.cell rfl
              have x2 : World.cell? w8 ⟨W.heap.size, 2, none⟩ = some (.slice xsA xss.length xsc) := hx5.cell rfl
              have x3 : World.cell? w8 ⟨W.heap.size, 3, none⟩ = some (.slice xcA xcs.length xcc) := hx5.cell rfl
              have x4 : World.cell? w8 ⟨W.heap.size, 4, none⟩ = some (.slice xvA xvs.length xvc) := hx5.cell rfl
              have hxz := (hx5.setOther hXT 0 (.int .i64 5)).setOther hXT 1 (.slice (some ⟨w7.heap.size, 0, none⟩) 2 2)
              have hwl := hq.1
              have hz : ∀ b, b ≠ w5.heap.size → ((w8.setCell ⟨w5.heap.size, 0, none⟩ (.int .i64 5)).setCell ⟨w5.heap.size, 1, none⟩ (.slice (some ⟨w7.heap.size, 0, none⟩) 2 2)).heap[b]? = w8.heap[b]? := fun b hb => (Below.heap_setCell _ _ _ _ (by simpa using hb)).trans (Below.heap_setCell _ _ _ _ (by simpa using hb))
              have HIW : Hid (Calls Try.prog 9 #[(scRow 5 w7.heap.size [scLeaf 1, scLeaf 1]).val, (Vl.mk xn xm xsA xsc xss xcA xcc xcs xvA xvc xvs).val] ((w8.setCell ⟨w5.heap.size, 0, none⟩ (.int .i64 5)).setCell ⟨w5.heap.size, 1, none⟩ (.slice (some ⟨w7.heap.size, 0, none⟩) 2 2)) (RetV ((w8.setCell ⟨w5.heap.size, 0, none⟩ (.int .i64 5)).setCell ⟨w5.heap.size, 1, none⟩ (.slice (some ⟨w7.heap.size, 0, none⟩) 2 2)) (.bool (false)))) := by
                have hq2 : Bxd ((w8.setCell ⟨w5.heap.size, 0, none⟩ (.int .i64 5)).setCell ⟨w5.heap.size, 1, none⟩ (.slice (some ⟨w7.heap.size, 0, none⟩) 2 2)) w7.heap.size #[.int .i64 1, .slice none 0 0, .int .i64 1, .slice none 0 0] := ⟨by simpa using hq.1, fun i u h => (World.cell?_of_block (hz w7.heap.size hQT)).trans (hq.2 i u h)⟩
                have h := Is_any (scRow 5 w7.heap.size [scLeaf 1, scLeaf 1]) (Vl.mk xn xm xsA xsc xss xcA xcc xcs xvA xvc xvs) _ (scRow_in 5 hq2 rfl (by simp) (fun t ht => by
                  simp at ht
                  subst ht
                  exact scLeaf_in _ _ _)) (Vl.Inp.inn (Vl.Inp.keep hin5 fun b hb => (hz b (by omega)).trans (hW5.block b hb)))
                rw [HE.out, show (scRow 5 w7.heap.size [scLeaf 1, scLeaf 1]).er = .mk 5 [.mk 1 [], .mk 1 []] from rfl, parts_5] at h
                exact h
              have hBZ : Below w.heap.size w ((w8.setCell ⟨w5.heap.size, 0, none⟩ (.int .i64 5)).setCell ⟨w5.heap.size, 1, none⟩ (.slice (some ⟨w7.heap.size, 0, none⟩) 2 2)) := (hB5.setCell (by simpa using hX5) _).setCell (by simpa using hX5) _
              clear hz hq hin5 hW5 ht5 hi5 hxz hwl
              go_wp2_with fail
              refine HIW.out.mono ?_
              rintro e w9 ⟨rfl, hb9⟩
              go_wp2_with fail
              go_ret
              exact ⟨by simp, hBZ.trans (hb9.mono hBZ.size)⟩
            · have HI : Hid (Calls Try.prog 9 #[(scLeaf 6).val, (Vl.mk xn xm xsA xsc xss xcA xcc xcs xvA xvc xvs).val] (w5.alloc (.cells #[.int .i64 6, .slice none 0 0] 24)) (RetV (w5.alloc (.cells #[.int .i64 6, .slice none 0 0] 24)) (.bool (!c && (!v && (s || (!n && !m))))))) := by
                have h := Is_any (scLeaf 6) (Vl.mk xn xm xsA xsc xss xcA xcc xcs xvA xvc xvs) _ (scLeaf_in _ _ _) hi5.inn
                rw [HE.out, show (scLeaf 6).er = .mk 6 [] from rfl, parts_6] at h
                exact h
              simp only [val_mk] at HI
              have x0 : World.cell? (w5.alloc (.cells #[.int .i64 6, .slice none 0 0] 24)) ⟨W.heap.size, 0, none⟩ = some (.int .u64 xn) := hx5.cell rfl
              have x1 : World.cell? (w5.alloc (.cells #[.int .i64 6, .slice none 0 0] 24)) ⟨W.heap.size, 1, none⟩ = some (.int .u64 xm) := hx5.cell rfl
              have x2 : World.cell? (w5.alloc (.cells #[.int .i64 6, .slice none 0 0] 24)) ⟨W.heap.size, 2, none⟩ = some (.slice xsA xss.length xsc) := hx5.cell rfl
              have x3 : World.cell? (w5.alloc (.cells #[.int .i64 6, .slice none 0 0] 24)) ⟨W.heap.size, 3, none⟩ = some (.slice xcA xcs.length xcc) := hx5.cell rfl
              have x4 : World.cell? (w5.alloc (.cells #[.int .i64 6, .slice none 0 0] 24)) ⟨W.heap.size, 4, none⟩ = some (.slice xvA xvs.length xvc) := hx5.cell rfl
              cases c with
              | true =>
                go_wp2_with fail
                refine HI.out.mono ?_
                rintro e w6 ⟨rfl, hb6⟩
                go_wp2_with fail
                go_ret
                exact ⟨by simp, hB5.trans (hb6.mono hB5.size)⟩
              | false =>
                cases v with
                | true =>
                  go_wp2_with fail
                  refine HI.out.mono ?_
                  rintro e w6 ⟨rfl, hb6⟩
                  go_wp2_with fail
                  go_ret
                  exact ⟨by simp, hB5.trans (hb6.mono hB5.size)⟩
                | false =>
                  cases s with
                  | true =>
                    go_wp2_with fail
                    refine HI.out.mono ?_
                    rintro e w6 ⟨rfl, hb6⟩
                    go_wp2_with fail
                    go_ret
                    exact ⟨by simp, hB5.trans (hb6.mono hB5.size)⟩
                  | false =>
                    cases n with
                    | true =>
                      go_wp2_with fail
                      refine HI.out.mono ?_
                      rintro e w6 ⟨rfl, hb6⟩
                      go_wp2_with fail
                      go_ret
                      exact ⟨by simp, hB5.trans (hb6.mono hB5.size)⟩
                    | false =>
                      cases m with
                      | true =>
                        go_wp2_with fail
                        refine HI.out.mono ?_
                        rintro e w6 ⟨rfl, hb6⟩
                        go_wp2_with fail
                        go_ret
                        exact ⟨by simp, hB5.trans (hb6.mono hB5.size)⟩
                      | false =>
                        go_wp2_with fail
                        refine HI.out.mono ?_
                        rintro e w6 ⟨rfl, hb6⟩
                        go_wp2_with fail
                        go_ret
                        exact ⟨by simp, hB5.trans (hb6.mono hB5.size)⟩
            · have HI : Hid (Calls Try.prog 9 #[(scLeaf 7).val, (Vl.mk xn xm xsA xsc xss xcA xcc xcs xvA xvc xvs).val] (w5.alloc (.cells #[.int .i64 7, .slice none 0 0] 24)) (RetV (w5.alloc (.cells #[.int .i64 7, .slice none 0 0] 24)) (.bool (!n && (!m && (!s && !v)))))) := by
                have h := Is_any (scLeaf 7) (Vl.mk xn xm xsA xsc xss xcA xcc xcs xvA xvc xvs) _ (scLeaf_in _ _ _) hi5.inn
                rw [HE.out, show (scLeaf 7).er = .mk 7 [] from rfl, parts_7] at h
                exact h
              simp only [val_mk] at HI
              have x0 : World.cell? (w5.alloc (.cells #[.int .i64 7, .slice none 0 0] 24)) ⟨W.heap.size, 0, none⟩ = some (.int .u64 xn) := hx5.cell rfl
              have x1 : World.cell? (w5.alloc (.cells #[.int .i64 7, .slice none 0 0] 24)) ⟨W.heap.size, 1, none⟩ = some (.int .u64 xm) := hx5.cell rfl
              have x2 : World.cell? (w5.alloc (.cells #[.int .i64 7, .slice none 0 0] 24)) ⟨W.heap.size, 2, none⟩ = some (.slice xsA xss.length xsc) := hx5.cell rfl
              have x3 : World.cell? (w5.alloc (.cells #[.int .i64 7, .slice none 0 0] 24)) ⟨W.heap.size, 3, none⟩ = some (.slice xcA xcs.length xcc) := hx5.cell rfl
              have x4 : World.cell? (w5.alloc (.cells #[.int .i64 7, .slice none 0 0] 24)) ⟨W.heap.size, 4, none⟩ = some (.slice xvA xvs.length xvc) := hx5.cell rfl
              cases n with
              | true =>
                go_wp2_with fail
                refine HI.out.mono ?_
                rintro e w6 ⟨rfl, hb6⟩
                go_wp2_with fail
                go_ret
                exact ⟨by simp, hB5.trans (hb6.mono hB5.size)⟩
              | false =>
                cases m with
                | true =>
                  go_wp2_with fail
                  refine HI.out.mono ?_
                  rintro e w6 ⟨rfl, hb6⟩
                  go_wp2_with fail
                  go_ret
                  exact ⟨by simp, hB5.trans (hb6.mono hB5.size)⟩
                | false =>
                  cases s with
                  | true =>
                    go_wp2_with fail
                    refine HI.out.mono ?_
                    rintro e w6 ⟨rfl, hb6⟩
                    go_wp2_with fail
                    go_ret
                    exact ⟨by simp, hB5.trans (hb6.mono hB5.size)⟩
                  | false =>
                    cases v with
                    | true =>
                      go_wp2_with fail
                      refine HI.out.mono ?_
                      rintro e w6 ⟨rfl, hb6⟩
                      go_wp2_with fail
                      go_ret
                      exact ⟨by simp, hB5.trans (hb6.mono hB5.size)⟩
                    | false =>
                      go_wp2_with fail
                      refine HI.out.mono ?_
                      rintro e w6 ⟨rfl, hb6⟩
                      go_wp2_with fail
                      go_ret
                      exact ⟨by simp, hB5.trans (hb6.mono hB5.size)⟩
            · have ht5 := Blk.new w5 24 #[.int .i64 8, .slice none 0 0]
              go_wp2_with fail
              refine (of_any 1 none 0 0 _).mono ?_
              rintro e w6 ⟨rfl, hb6⟩
              replace hx5 := hx5.later hb6
              replace hi5 := inp_later hi5 hb6
              replace hB5 := hB5.trans (hb6.mono hB5.size)
              replace ht5 := ht5.later hb6
              replace hW5 := hW5.trans (hb6.mono hW5.size)
              clear hb6
              go_wp2_with fail
              have hq : Bxd (w6.alloc (.cells #[.int .i64 1, .slice none 0 0] 24)) w6.heap.size #[.int .i64 1, .slice none 0 0] := Bxd.new
              replace hx5 := hx5.later (allocB w6 (.cells #[.int .i64 1, .slice none 0 0] 24))
              replace hi5 := inp_later hi5 (allocB w6 (.cells #[.int .i64 1, .slice none 0 0] 24))
              replace hB5 := belAl (o := .cells #[.int .i64 1, .slice none 0 0] 24) hB5
              replace hW5 := belAl (o := .cells #[.int .i64 1, .slice none 0 0] 24) hW5
              have hbt := ht5.lt
              replace ht5 := ht5.later (allocB w6 (.cells #[.int .i64 1, .slice none 0 0] 24))
              refine (of_any 8 (some ⟨w6.heap.size, 0, none⟩) 1 1 _).mono ?_
              rintro e w8 ⟨rfl, hb6⟩
              replace hx5 := hx5.later hb6
              replace hi5 := inp_later hi5 hb6
              replace hB5 := hB5.trans (hb6.mono hB5.size)
              replace ht5 := ht5.later hb6
              replace hq := hq.later hb6
              replace hW5 := hW5.trans (hb6.mono hW5.size)
              clear hb6
              have hXT : W.heap.size ≠ w5.heap.size := by omega
              have hXT' : w5.heap.size ≠ W.heap.size := by omega
              have hQT : w6.heap.size ≠ w5.heap.size := by omega
              have t0 : World.cell? w8 ⟨w5.heap.size, 0, none⟩ = some (.int .i64 8) := ht5.cell rfl
              have t1 : World.cell? w8 ⟨w5.heap.size, 1, none⟩ = some (.slice none 0 0) := ht5.cell rfl
              have g0 := ht5.frozen 0
              have g1 := ht5.frozen 1
              have x0 : World.cell? w8 ⟨W.heap.size, 0, none⟩ = some (.int .u64 xn) := hx5.cell rfl
              have x1 : World.cell? w8 ⟨W.heap.size, 1, none⟩ = some (.int .u64 xm) := hx5.cell rfl
              have x2 : World.cell? w8 ⟨W.heap.size, 2, none⟩ = some (.slice xsA xss.length xsc) := hx5.cell rfl
              have x3 : World.cell? w8 ⟨W.heap.size, 3, none⟩ = some (.slice xcA xcs.length xcc) := hx5.cell rfl
              have x4 : World.cell? w8 ⟨W.heap.size, 4, none⟩ = some (.slice xvA xvs.length xvc) := hx5.cell rfl
              have hxz := (hx5.setOther hXT 0 (.int .i64 8)).setOther hXT 1 (.slice (some ⟨w6.heap.size, 0, none⟩) 1 1)
              have hwl := hq.1
              have hz : ∀ b, b ≠ w5.heap.size → ((w8.setCell ⟨w5.heap.size, 0, none⟩ (.int .i64 8)).setCell ⟨w5.heap.size, 1, none⟩ (.slice (some ⟨w6.heap.size, 0, none⟩) 1 1)).heap[b]? = w8.heap[b]? := fun b hb => (Below.heap_setCell _ _ _ _ (by simpa using hb)).trans (Below.heap_setCell _ _ _ _ (by simpa using hb))
              have HIW : Hid (Calls Try.prog 9 #[(scRow 8 w6.heap.size [scLeaf 1]).val, (Vl.mk xn xm xsA xsc xss xcA xcc xcs xvA xvc xvs).val] ((w8.setCell ⟨w5.heap.size, 0, none⟩ (.int .i64 8)).setCell ⟨w5.heap.size, 1, none⟩ (.slice (some ⟨w6.heap.size, 0, none⟩) 1 1)) (RetV ((w8.setCell ⟨w5.heap.size, 0, none⟩ (.int .i64 8)).setCell ⟨w5.heap.size, 1, none⟩ (.slice (some ⟨w6.heap.size, 0, none⟩) 1 1)) (.bool (!n && (!m && (!s && (c == v))))))) := by
                have hq2 : Bxd ((w8.setCell ⟨w5.heap.size, 0, none⟩ (.int .i64 8)).setCell ⟨w5.heap.size, 1, none⟩ (.slice (some ⟨w6.heap.size, 0, none⟩) 1 1)) w6.heap.size #[.int .i64 1, .slice none 0 0] := ⟨by simpa using hq.1, fun i u h => (World.cell?_of_block (hz w6.heap.size hQT)).trans (hq.2 i u h)⟩
                have h := Is_any (scRow 8 w6.heap.size [scLeaf 1]) (Vl.mk xn xm xsA xsc xss xcA xcc xcs xvA xvc xvs) _ (scRow_in 8 hq2 rfl (by simp) (fun t ht => by
                  simp at ht
                  subst ht
                  exact scLeaf_in _ _ _)) (Vl.Inp.inn (Vl.Inp.keep hin5 fun b hb => (hz b (by omega)).trans (hW5.block b hb)))
                rw [HE.out, show (scRow 8 w6.heap.size [scLeaf 1]).er = .mk 8 [.mk 1 []] from rfl, parts_8] at h
                exact h
              have hBZ : Below w.heap.size w ((w8.setCell ⟨w5.heap.size, 0, none⟩ (.int .i64 8)).setCell ⟨w5.heap.size, 1, none⟩ (.slice (some ⟨w6.heap.size, 0, none⟩) 1 1)) := (hB5.setCell (by simpa using hX5) _).setCell (by simpa using hX5) _
              clear hz hq hin5 hW5 ht5 hi5 hxz hwl
              cases n with
              | true =>
                go_wp2_with fail
                refine HIW.out.mono ?_
                rintro e w9 ⟨rfl, hb9⟩
                go_wp2_with fail
                go_ret
                exact ⟨by simp, hBZ.trans (hb9.mono hBZ.size)⟩
              | false =>
                cases m with
                | true =>
                  go_wp2_with fail
                  refine HIW.out.mono ?_
                  rintro e w9 ⟨rfl, hb9⟩
                  go_wp2_with fail
                  go_ret
                  exact ⟨by simp, hBZ.trans (hb9.mono hBZ.size)⟩
                | false =>
                  cases s with
                  | true =>
                    go_wp2_with fail
                    refine HIW.out.mono ?_
                    rintro e w9 ⟨rfl, hb9⟩
                    go_wp2_with fail
                    go_ret
                    exact ⟨by simp, hBZ.trans (hb9.mono hBZ.size)⟩
                  | false =>
                    go_wp2_with fail
                    refine HIW.out.mono ?_
                    rintro e w9 ⟨rfl, hb9⟩
                    go_wp2_with fail
                    go_ret
                    exact ⟨by simp, hBZ.trans (hb9.mono hBZ.size)⟩
end Go.Proofs.Ytcpfjjimbnmaoaa.V4
