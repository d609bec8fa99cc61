/- What clock.merged does. No condition but that the ticks lie in memory, at most 1000. -/
import Derived.Test.YtahjlckdjlafpaaPce
namespace Go.Proofs.Ytahjlckdjlafpaa
open Go.RowKit

def lenV : Value → Nat | .slice _ n _ => n | _ => 0

/-- The cells of a new row of zero ticks. -/
def madeT (n : Nat) : Array Value := madeCells #[.int .i64 0, .int .u64 0] n
theorem size_madeT (n : Nat) : (madeT n).size = n := size_madeCells _ _

theorem run_make0 (W : World) (t : TypeId) (ht : Try.prog.underlying t = some (.slice 35)) (m : Nat) (k : Int) (hk : k = m) (hm : m ≤ 1000000) :
    (Instr.makeSlice t (.int .i64 0) (.int .i64 k)).run Try.prog W = .ok (.slice (some ⟨W.heap.size, 0, none⟩) 0 m) (W.alloc (.cells (madeT (m * 2)) 35)) := by
  subst hk
  obtain ⟨i0, hi, hz0, hz1, hz2⟩ := info_parts Try.infoTick
  have hr := run_make (P := Try.prog) W t _ i0 _ ht hi hz0 .i64 .i64 0 m (Int.le_refl _) (by omega) (by rw [hz2]; omega) (by omega)
  simp only [Int.toNat_zero, Int.toNat_natCast, hz1] at hr
  exact hr

theorem OwnT.made (w : World) (m : Nat) (hm : m ≤ 1000000) : OwnT (w.alloc (.cells (madeT (m * 2)) 35)) w.heap.size (.slice (some ⟨w.heap.size, 0, none⟩) 0 m) [] :=
  World.ownsRow_made w (madeT (m * 2)) m (Nat.le_refl _) (by unfold maxLen; omega) (by rw [size_madeT])

theorem merge_done {M zs xs ys : List Tk} (h : M = zs ++ mergeC xs ys) (he : xs = [] ∨ ys = []) : M = (zs ++ xs) ++ ys := by
  rcases he with rfl | rfl
  · rw [h, mergeC_nil_left]; simp
  · rw [h, mergeC_nil_right]; simp
theorem merge_lt {M zs xs ys : List Tk} {x y : Tk} (h : M = zs ++ mergeC (x :: xs) (y :: ys)) (hlt : x.k < y.k) : M = (zs ++ [x]) ++ mergeC xs (y :: ys) := by
  rw [h, mergeC_lt _ _ hlt]; simp
theorem merge_gt {M zs xs ys : List Tk} {x y : Tk} (h : M = zs ++ mergeC (x :: xs) (y :: ys)) (hlt : y.k < x.k) : M = (zs ++ [y]) ++ mergeC (x :: xs) ys := by
  rw [h, mergeC_gt _ _ hlt]; simp
theorem merge_eq {M zs xs ys : List Tk} {x y : Tk} (h : M = zs ++ mergeC (x :: xs) (y :: ys)) (hlt : x.k = y.k) : M = (zs ++ [laterC x y]) ++ mergeC xs ys := by
  rw [h, mergeC_eq _ _ hlt]; simp

theorem LiesB.head {m : Nat} {w : World} {A : Option Addr} {x : Tk} {xs : List Tk} (h : LiesB m w A (x :: xs)) : ∃ b off, A = some ⟨b, off, none⟩ ∧ b < m ∧ w.cell? ⟨b, off, none⟩ = some (.int .i64 x.k) ∧ w.cell? ⟨b, off + 1, none⟩ = some (.int .u64 x.n) := by
  obtain ⟨b, off, rfl, hb, hc⟩ := h.get (k := 0) (by simp)
  have := hc 0 x rfl
  exact ⟨b, off, rfl, hb, by simpa using this⟩

/-- A call that answers the ticks ys, in new memory, and leaves all that was there. -/
def RetF (w : World) (ys : List Tk) (e : Ending) (w' : World) : Prop :=
  ∃ A c, e = .returned (.slice A ys.length c) ∧ In w' A c ys ∧ (∀ a, A = some a → w.heap.size ≤ a.block) ∧ Below w.heap.size w w'
theorem RetF.toT {w w' : World} {ys : List Tk} {e : Ending} (h : RetF w ys e w') : RetT w ys e w' := by
  obtain ⟨A, c, h1, h2, _, h3⟩ := h
  exact ⟨A, c, h1, h2, h3⟩
theorem retF_of_own {w w' : World} {v : Value} {ys zs : List Tk} (h : OwnT w' w.heap.size v ys) (e : ys = zs) (hn : Nok zs) (hb : Below w.heap.size w w') : RetF w zs (.returned v) w' := by
  subst e
  obtain ⟨A, c, rfl, h1⟩ := h.form hn
  refine ⟨A, c, rfl, h1, fun a ha => ?_, hb⟩
  subst ha
  exact (h.lt (k := a.block) rfl).1

theorem later_at (xk xn yk yn tk tn : Int) (w : World) (h : laterC ⟨xk, xn⟩ ⟨yk, yn⟩ = ⟨tk, tn⟩) : Calls Try.prog 26 #[.agg #[.int .i64 xk, .int .u64 xn], .agg #[.int .i64 yk, .int .u64 yn]] w (RetV w (.agg #[.int .i64 tk, .int .u64 tn])) := by
  have := later_any xk xn yk yn w
  rw [h] at this
  exact this

set_option maxRecDepth 100000 in
set_option maxHeartbeats 4000000 in
theorem merged_new (A B : Option Addr) (c d : Nat) (l l' : List Tk) (w : World) (h : In w A c l) (h' : In w B d l') (hn : Nok (mergeC l l')) (hlen : l.length ≤ 1000) (hlen' : l'.length ≤ 1000) :
    Calls Try.prog 25 #[.slice A l.length c, .slice B l'.length d, .func (.func 19) #[] #[], .func (.func 26) #[] #[]] w (RetF w (mergeC l l')) := by
  obtain ⟨hl, hcap, htop, -⟩ := h
  obtain ⟨hl', hcap', htop', -⟩ := h'
  have HN := Lib.hid hn
  have hmk : ∀ W : World, (Instr.makeSlice 22 (.int .i64 0) (.int .i64 ((l.length : Int) + l'.length))).run Try.prog W = .ok (.slice (some ⟨W.heap.size, 0, none⟩) 0 (l.length + l'.length)) (W.alloc (.cells (madeT ((l.length + l'.length) * 2)) 35)) :=
    fun W => run_make0 W _ Try.underlying22 (l.length + l'.length) _ (by omega) (by omega)
  clear hn
  go_enter Try.func25, Try.ntmps25
  go_wp2_with fail
  clear hmk
  go_loopw [0, 1, 9] (fun av bv ov wr => ∃ (xs ys zs : List Tk) (A' B' : Option Addr) (c' d' : Nat), av = .slice A' xs.length c' ∧ bv = .slice B' ys.length d' ∧ xs.length ≤ c' ∧ ys.length ≤ d' ∧ c' ≤ maxLen ∧ d' ≤ maxLen ∧ LiesB w.heap.size wr A' xs ∧ LiesB w.heap.size wr B' ys ∧
    OwnT wr w.heap.size ov zs ∧ Hid (mergeC l l' = zs ++ mergeC xs ys) ∧ zs.length + xs.length + ys.length ≤ l.length + l'.length ∧ Below w.heap.size w wr) (fun av bv _ _ => lenV av + lenV bv)
  case atStart => exact ⟨l, l', [], A, B, c, d, rfl, rfl, hcap, hcap', htop, htop', hl.below (allocB _ _), hl'.below (allocB _ _), OwnT.made w _ (by omega), by simp [Hid], by simp, allocB _ _⟩
  case round =>
    obtain ⟨xs, ys, zs, A', B', c', d', rfl, rfl, hc1, hd1, hcm, hdm, hl1, hm1, hown, h0, hsum, hbw⟩ := hrel
    unfold maxLen at hcm hdm
    clear hl hl' hcap hcap' htop htop'
    cases xs with
    | nil =>
      have hz1 : zs.length + ([] : List Tk).length ≤ 1000000 := by simp at hsum ⊢; omega
      have hz2 : (zs ++ ([] : List Tk)).length + ys.length ≤ 1000000 := by simp at hsum ⊢; omega
      have HO := Lib.hid hown
      have HL := Lib.hid hl1
      have HM := Lib.hid hm1
      have HB := Lib.hid hbw
      clear hown hl1 hm1 hbw
      go_wp2_with (first
        | (at_builtin; refine wpList_app _ rfl (.tmp 70) (.tmp 71) 22 rfl w.heap.size Try.underlying22 u9 zs rfl HO.out _ A' 0 c' [] rfl rfl HL.out hz1 HB.out.size ?_; intro v1 w1 hown1 hg1 hat1; have hbw0 : Below w.heap.size wr w1 := (Below.refl w.heap.size wr).grown hg1 HB.out.size (fun k hk => (HO.out.lt hk).1); have hbw1 : Below w.heap.size w w1 := HB.out.trans hbw0)
        | (at_builtin; refine wpList_app _ rfl (.tmp 72) (.tmp 73) 22 rfl w.heap.size Try.underlying22 v1 (zs ++ []) rfl hown1 _ B' ys.length d' ys rfl rfl (HM.out.below hbw0) hz2 hbw1.size ?_; intro v2 w2 hown2 hg2 hat2; have hbw2 : Below w.heap.size w w2 := hbw1.grown hg2 hbw1.size (fun k hk => (hown1.lt hk).1)))
      go_ret
      exact retF_of_own hown2 (merge_done h0.out (.inl rfl)).symm HN.out hbw2
    | cons x xs =>
      cases ys with
      | nil =>
        have hz1 : zs.length + (x :: xs).length ≤ 1000000 := by simp at hsum ⊢; omega
        have hz2 : (zs ++ (x :: xs)).length + ([] : List Tk).length ≤ 1000000 := by simp at hsum ⊢; omega
        have HO := Lib.hid hown
        have HL := Lib.hid hl1
        have HM := Lib.hid hm1
        have HB := Lib.hid hbw
        clear hown hl1 hm1 hbw
        go_wp2_with (first
          | (at_builtin; refine wpList_app _ rfl (.tmp 70) (.tmp 71) 22 rfl w.heap.size Try.underlying22 u9 zs rfl HO.out _ A' (xs.length + 1) c' (x :: xs) rfl rfl HL.out hz1 HB.out.size ?_; intro v1 w1 hown1 hg1 hat1; have hbw0 : Below w.heap.size wr w1 := (Below.refl w.heap.size wr).grown hg1 HB.out.size (fun k hk => (HO.out.lt hk).1); have hbw1 : Below w.heap.size w w1 := HB.out.trans hbw0)
          | (at_builtin; refine wpList_app _ rfl (.tmp 72) (.tmp 73) 22 rfl w.heap.size Try.underlying22 v1 (zs ++ (x :: xs)) rfl hown1 _ B' 0 d' [] rfl rfl (HM.out.below hbw0) hz2 hbw1.size ?_; intro v2 w2 hown2 hg2 hat2; have hbw2 : Below w.heap.size w w2 := hbw1.grown hg2 hbw1.size (fun k hk => (hown1.lt hk).1)))
        go_ret
        exact retF_of_own hown2 (merge_done h0.out (.inr rfl)).symm HN.out hbw2
      | cons y ys =>
        obtain ⟨b, off, rfl, hb, hx0, hx1⟩ := hl1.head
        obtain ⟨b', off', rfl, hb', hy0, hy1⟩ := hm1.head
        have HL := Lib.hid hl1
        have HM := Lib.hid hm1
        have HO := Lib.hid hown
        have HB := Lib.hid hbw
        have hbb : b < wr.heap.size := Nat.lt_of_lt_of_le hb hbw.size
        have hbb' : b' < wr.heap.size := Nat.lt_of_lt_of_le hb' hbw.size
        clear hl1 hm1 hown hbw
        obtain ⟨xk, xn⟩ := x
        obtain ⟨yk, yn⟩ := y
        dsimp only at hx0 hx1 hy0 hy1
        have q1 : xs.length + 1 ≤ c' := hc1
        have q2 : ys.length + 1 ≤ d' := hd1
        have hx9 : xs.length ≤ 2000 := by simp at hsum; omega
        have hy9 : ys.length ≤ 2000 := by simp at hsum; omega
        have hz9 : zs.length ≤ 100000 := by simp at hsum; omega
        have hs1 : (1 : Int) ≤ (xs.length : Int) + 1 := by omega
        have hs2 : (1 : Int) ≤ (ys.length : Int) + 1 := by omega
        go_wp2_with fail
        go_still_tail 7, (by kernel_rfl)
        change wpList _ _ _ _ _ wr.drew
        go_wp2_with fail
        refine (byWho_any xk xn yk yn _).mono ?_
        rintro e w4 ⟨rfl, hb4⟩
        have hbd : Below wr.heap.size wr w4 := ((Below.refl _ wr).drew).trans hb4
        replace hx0 := (hbd.cell (p := ⟨b, off, none⟩) hbb).trans hx0
        replace hx1 := (hbd.cell (p := ⟨b, off + 1, none⟩) hbb).trans hx1
        replace hy0 := (hbd.cell (p := ⟨b', off', none⟩) hbb').trans hy0
        replace hy1 := (hbd.cell (p := ⟨b', off' + 1, none⟩) hbb').trans hy1
        replace hbb := Nat.lt_of_lt_of_le hbb hbd.size
        replace hbb' := Nat.lt_of_lt_of_le hbb' hbd.size
        replace HL := Lib.hid (HL.out.below (hbd.mono HB.out.size))
        replace HM := Lib.hid (HM.out.below (hbd.mono HB.out.size))
        replace HO := Lib.hid (HO.out.below hbd)
        replace HB : Hid (Below w.heap.size w w4) := HB.out.trans (hbd.mono HB.out.size)
        clear hb4 hbd
        rcases Int.lt_trichotomy xk yk with hxy | hxy | hxy
        · have HXY := Lib.hid hxy
          rw [cmpI_lt hxy]
          clear hxy
          by_cases hcc : c' = 1
          all_goals
            go_wp2_with fail
            go_region_held3 (fun w' => w'.cell? ⟨b, off, none⟩ = some (.int .i64 xk) ∧ w'.cell? ⟨b, off + 1, none⟩ = some (.int .u64 xn) ∧ w'.cell? ⟨b', off', none⟩ = some (.int .i64 yk) ∧ w'.cell? ⟨b', off' + 1, none⟩ = some (.int .u64 yn))
              (first
                | exact ⟨hx0, hx1, hy0, hy1⟩
                | (refine ⟨?_, ?_, ?_, ?_⟩ <;> go_simp))
              (first
              | (refine step_app _ rfl (.tmp 51) (.tmp 55) 22 rfl w.heap.size Try.underlying22 u9 zs ?qs ?qo (w4.heap.size + 1) (some ⟨w4.heap.size, 0, none⟩) 1 1 [⟨xk, xn⟩] rfl ?qx ?ql ?qn ?qb ?_
                 case qs => go_simp
                 case qo => exact HO.out.below ((allocB w4 (.cells #[.int .i64 xk, .int .u64 xn] 35)).drew)
                 case qx => go_simp
                 case ql => exact LiesB.one (by omega) (by simp) (by simp)
                 case qn => exact len1 hz9
                 case qb => (have := HB.out.size; simp; omega)
                 intro v1 w1 hown1 hg1 hat1
                 have hbw0 : Below w.heap.size w4 w1 := (((Below.refl w.heap.size w4).alloc HB.out.size _).drew).grown hg1 (by have := HB.out.size; simp; omega) (fun k hk => (HO.out.lt hk).1)
                 have hbw1 : Below w.heap.size w w1 := HB.out.trans hbw0
                 replace hx0 := (hbw0.cell (p := ⟨b, off, none⟩) hb).trans hx0
                 replace hx1 := (hbw0.cell (p := ⟨b, off + 1, none⟩) hb).trans hx1
                 replace hy0 := (hbw0.cell (p := ⟨b', off', none⟩) hb').trans hy0
                 replace hy1 := (hbw0.cell (p := ⟨b', off' + 1, none⟩) hb').trans hy1))
            all_goals
              go_wp2_with fail
              go_roundw
              case rel =>
                refine ⟨xs, ⟨yk, yn⟩ :: ys, zs ++ [Tk.mk xk xn], _, _, _, _, rfl, rfl, ?_, ?_, ?_, ?_, ?_, ?_, hown1, merge_lt h0.out HXY.out, ?_, hbw1⟩
                all_goals first
                  | exact HL.out.below hbw0
                  | exact HM.out.below hbw0
                  | exact HL.out.tail.below hbw0
                  | exact HM.out.tail.below hbw0
                  | (refine Or.inl (List.eq_nil_of_length_eq_zero ?_); omega)
                  | (unfold maxLen; omega)
                  | omega
                  | (simp only [List.length_cons]; omega)
                  | (simp at hsum ⊢; omega)
              case measure => first | (simp [lenV]; done) | (simp [lenV]; omega)
        · have HXY := Lib.hid hxy
          rw [hxy, cmpI_eq]
          clear hxy
          obtain ⟨tk, tn, ht⟩ : ∃ tk tn, laterC ⟨xk, xn⟩ ⟨yk, yn⟩ = ⟨tk, tn⟩ := ⟨_, _, rfl⟩
          have HT := Lib.hid ht
          clear ht
          by_cases hcc : c' = 1 <;> by_cases hdd : d' = 1
          all_goals
            go_wp2_with fail
            go_region_held3 (fun w' => w'.cell? ⟨b, off, none⟩ = some (.int .i64 xk) ∧ w'.cell? ⟨b, off + 1, none⟩ = some (.int .u64 xn) ∧ w'.cell? ⟨b', off', none⟩ = some (.int .i64 yk) ∧ w'.cell? ⟨b', off' + 1, none⟩ = some (.int .u64 yn))
              (first
                | exact ⟨hx0, hx1, hy0, hy1⟩
                | (refine ⟨?_, ?_, ?_, ?_⟩ <;> go_simp))
              (first
              | (go_at_call 26; refine (later_at xk xn yk yn tk tn _ HT.out).mono ?_; rintro e w5 ⟨rfl, hb5⟩; (have hbd : Below w4.heap.size w4 w5 := ((Below.refl _ w4).drew).trans hb5; replace HL := Lib.hid (HL.out.below (hbd.mono HB.out.size)); replace HM := Lib.hid (HM.out.below (hbd.mono HB.out.size)); replace HO := Lib.hid (HO.out.below hbd); replace HB : Hid (Below w.heap.size w w5) := HB.out.trans (hbd.mono HB.out.size); replace hx0 := (hbd.cell (p := ⟨b, off, none⟩) hbb).trans hx0; replace hx1 := (hbd.cell (p := ⟨b, off + 1, none⟩) hbb).trans hx1; replace hy0 := (hbd.cell (p := ⟨b', off', none⟩) hbb').trans hy0; replace hy1 := (hbd.cell (p := ⟨b', off' + 1, none⟩) hbb').trans hy1; replace hbb := Nat.lt_of_lt_of_le hbb hbd.size; replace hbb' := Nat.lt_of_lt_of_le hbb' hbd.size; clear hb5 hbd))
              | (refine step_app _ rfl (.tmp 33) (.tmp 42) 22 rfl w.heap.size Try.underlying22 u9 zs ?qs ?qo (w5.heap.size + 1) (some ⟨w5.heap.size, 0, none⟩) 1 1 [⟨tk, tn⟩] rfl ?qx ?ql ?qn ?qb ?_
                 case qs => go_simp
                 case qo => exact HO.out.below (allocB w5 (.cells #[.int .i64 tk, .int .u64 tn] 35))
                 case qx => go_simp
                 case ql => exact LiesB.one (by omega) (by simp) (by simp)
                 case qn => exact len1 hz9
                 case qb => (have := HB.out.size; simp; omega)
                 intro v1 w1 hown1 hg1 hat1
                 have hbw0 : Below w.heap.size w5 w1 := ((Below.refl w.heap.size w5).alloc HB.out.size _).grown hg1 (by have := HB.out.size; simp; omega) (fun k hk => (HO.out.lt hk).1)
                 have hbw1 : Below w.heap.size w w1 := HB.out.trans hbw0
                 replace hx0 := (hbw0.cell (p := ⟨b, off, none⟩) hb).trans hx0
                 replace hx1 := (hbw0.cell (p := ⟨b, off + 1, none⟩) hb).trans hx1
                 replace hy0 := (hbw0.cell (p := ⟨b', off', none⟩) hb').trans hy0
                 replace hy1 := (hbw0.cell (p := ⟨b', off' + 1, none⟩) hb').trans hy1))
            all_goals
              go_wp2_with fail
              go_roundw
              case rel =>
                refine ⟨xs, ys, zs ++ [Tk.mk tk tn], _, _, _, _, rfl, rfl, ?_, ?_, ?_, ?_, ?_, ?_, hown1, HT.out ▸ merge_eq h0.out HXY.out, ?_, hbw1⟩
                all_goals first
                  | exact HL.out.below hbw0
                  | exact HM.out.below hbw0
                  | exact HL.out.tail.below hbw0
                  | exact HM.out.tail.below hbw0
                  | (refine Or.inl (List.eq_nil_of_length_eq_zero ?_); omega)
                  | (unfold maxLen; omega)
                  | omega
                  | (simp only [List.length_cons]; omega)
                  | (simp at hsum ⊢; omega)
              case measure => first | (simp [lenV]; done) | (simp [lenV]; omega)
        · have HXY := Lib.hid hxy
          rw [cmpI_gt hxy]
          clear hxy
          by_cases hdd : d' = 1
          all_goals
            go_wp2_with fail
            go_region_held3 (fun w' => w'.cell? ⟨b, off, none⟩ = some (.int .i64 xk) ∧ w'.cell? ⟨b, off + 1, none⟩ = some (.int .u64 xn) ∧ w'.cell? ⟨b', off', none⟩ = some (.int .i64 yk) ∧ w'.cell? ⟨b', off' + 1, none⟩ = some (.int .u64 yn))
              (first
                | exact ⟨hx0, hx1, hy0, hy1⟩
                | (refine ⟨?_, ?_, ?_, ?_⟩ <;> go_simp))
              (first
              | (refine step_app _ rfl (.tmp 62) (.tmp 66) 22 rfl w.heap.size Try.underlying22 u9 zs ?qs ?qo (w4.heap.size + 1) (some ⟨w4.heap.size, 0, none⟩) 1 1 [⟨yk, yn⟩] rfl ?qx ?ql ?qn ?qb ?_
                 case qs => go_simp
                 case qo => exact HO.out.below ((allocB w4 (.cells #[.int .i64 yk, .int .u64 yn] 35)).drew)
                 case qx => go_simp
                 case ql => exact LiesB.one (by omega) (by simp) (by simp)
                 case qn => exact len1 hz9
                 case qb => (have := HB.out.size; simp; omega)
                 intro v1 w1 hown1 hg1 hat1
                 have hbw0 : Below w.heap.size w4 w1 := (((Below.refl w.heap.size w4).alloc HB.out.size _).drew).grown hg1 (by have := HB.out.size; simp; omega) (fun k hk => (HO.out.lt hk).1)
                 have hbw1 : Below w.heap.size w w1 := HB.out.trans hbw0
                 replace hx0 := (hbw0.cell (p := ⟨b, off, none⟩) hb).trans hx0
                 replace hx1 := (hbw0.cell (p := ⟨b, off + 1, none⟩) hb).trans hx1
                 replace hy0 := (hbw0.cell (p := ⟨b', off', none⟩) hb').trans hy0
                 replace hy1 := (hbw0.cell (p := ⟨b', off' + 1, none⟩) hb').trans hy1))
            all_goals
              go_wp2_with fail
              go_roundw
              case rel =>
                refine ⟨⟨xk, xn⟩ :: xs, ys, zs ++ [Tk.mk yk yn], _, _, _, _, rfl, rfl, ?_, ?_, ?_, ?_, ?_, ?_, hown1, merge_gt h0.out HXY.out, ?_, hbw1⟩
                all_goals first
                  | exact HL.out.below hbw0
                  | exact HM.out.below hbw0
                  | exact HL.out.tail.below hbw0
                  | exact HM.out.tail.below hbw0
                  | (refine Or.inl (List.eq_nil_of_length_eq_zero ?_); omega)
                  | (unfold maxLen; omega)
                  | omega
                  | (simp only [List.length_cons]; omega)
                  | (simp at hsum ⊢; omega)
              case measure => first | (simp [lenV]; done) | (simp [lenV]; omega)
end Go.Proofs.Ytahjlckdjlafpaa
