/- What the reference's with does. No condition but that the ticks lie in memory, at most 1000, and that the number is not 0. -/
import Derived.Test.YtahjlckdjlafpaaRefCc
namespace Go.Proofs.Ytahjlckdjlafpaa
open Go.RowKit

theorem drop_at {l : List Tk} {i : Nat} {x : Tk} (hx : l[i]? = some x) : l.drop i = x :: l.drop (i + 1) := by
  obtain ⟨hi, he⟩ := List.getElem?_eq_some_iff.1 hx
  rw [List.drop_eq_getElem_cons hi, he]

/-- What is still to come: with the tick, or, if it is in, without. -/
def restC (d : Bool) (l : List Tk) (q n : Int) : List Tk := if d then l else withC l q n

theorem restC_true {l ys : List Tk} {W : List Tk} {k : Nat} {x : Tk} {q n : Int} (h : W = ys ++ restC true (l.drop k) q n) (hx : l[k]? = some x) : W = (ys ++ [x]) ++ restC true (l.drop (k + 1)) q n := by
  rw [h, drop_at hx]; simp [restC]
theorem restC_lt {l ys : List Tk} {W : List Tk} {k : Nat} {x : Tk} {q n : Int} (h : W = ys ++ restC false (l.drop k) q n) (hx : l[k]? = some x) (hlt : x.k < q) : W = (ys ++ [x]) ++ restC false (l.drop (k + 1)) q n := by
  rw [h, drop_at hx]; simp [restC, withC, hlt]
theorem restC_eq {l ys : List Tk} {W : List Tk} {k : Nat} {x : Tk} {q n : Int} (h : W = ys ++ restC false (l.drop k) q n) (hx : l[k]? = some x) (hlt : x.k = q) : W = (ys ++ [⟨q, max n x.n⟩]) ++ restC true (l.drop (k + 1)) q n := by
  rw [h, drop_at hx]; simp [restC, withC, hlt]
theorem restC_gt {l ys : List Tk} {W : List Tk} {k : Nat} {x : Tk} {q n : Int} (h : W = ys ++ restC false (l.drop k) q n) (hx : l[k]? = some x) (hlt : q < x.k) : W = ((ys ++ [⟨q, n⟩]) ++ [x]) ++ restC true (l.drop (k + 1)) q n := by
  rw [h, drop_at hx, restC, if_neg (by simp), withC, if_neg (by omega), if_neg (by omega)]; simp [restC]

theorem LiesB.new {w : World} {x : Tk} {t : TypeId} : LiesB (w.heap.size + 1) (w.alloc (.cells #[.int .i64 x.k, .int .u64 x.n] t)) (some ⟨w.heap.size, 0, none⟩) [x] :=
  LiesB.one (by omega) (by simp) (by simp)

theorem len1 {ys : List Tk} {x : Tk} (h : ys.length ≤ 100000) : ys.length + [x].length ≤ 1000000 := by simp; omega
theorem len_snoc {ys : List Tk} {x : Tk} {m : Nat} (h : ys.length + 1 ≤ m) : (ys ++ [x]).length ≤ m := by simp; omega

set_option maxRecDepth 100000 in
set_option maxHeartbeats 1000000 in
theorem refWith_any (A : Option Addr) (c : Nat) (l : List Tk) (q n : Int) (w : World) (h : In w A c l) (hn : n ≠ 0) (hn0 : 0 ≤ n) (hn1 : n ≤ 18446744073709551615) (hlen : l.length ≤ 1000) :
    Calls Try.prog 24 #[.slice A l.length c, .int .i64 q, .int .u64 n] w (RetT w (withC l q n)) := by
  obtain ⟨hl, -, -, hnok⟩ := h
  have HN : Hid (Nok (withC l q n)) := withC_nok hnok ⟨hn0, hn1⟩
  have hnb : (n == 0) = false := by simp [hn]
  clear hnok hn
  go_enter Try.func24, Try.ntmps24
  go_wp2_with fail
  go_loopw [7, 8, 9] (fun ov dv iv wr => ∃ (k : Nat) (d : Bool) (ys : List Tk), k ≤ l.length ∧ iv = .int .i64 k ∧ dv = .bool d ∧ ys.length ≤ 2 * k ∧ OwnT wr w.heap.size ov ys ∧ Hid (withC l q n = ys ++ restC d (l.drop k) q n) ∧ Below w.heap.size w wr) (fun _ _ iv _ => l.length - (intOf iv).toNat)
  case atStart => exact ⟨0, false, [], Nat.zero_le _, rfl, rfl, by simp, OwnT.nil _ _, by simp [Hid, restC], Below.refl _ _⟩
  case round =>
    obtain ⟨k, d, ys, hk, rfl, rfl, hyk, hown, h0, hbw⟩ := hrel
    by_cases hlt : k < l.length
    · obtain ⟨b, off, rfl, hb, hc⟩ := hl.get hlt
      obtain ⟨x, hx⟩ : ∃ x, l[k]? = some x := ⟨_, List.getElem?_eq_getElem hlt⟩
      obtain ⟨x0, x1⟩ := hc k x hx
      have HX := Lib.hid hx
      have hc0 := (hbw.cell (p := ⟨b, off + k * 2, none⟩) hb).trans x0
      have hc1 := (hbw.cell (p := ⟨b, off + k * 2 + 1, none⟩) hb).trans x1
      have HC0 := Lib.hid x0
      have HC1 := Lib.hid x1
      clear hx hc hl x0 x1
      obtain ⟨xk, xn⟩ := x
      dsimp only at hc0 hc1 HC0 HC1
      have hbb : b < wr.heap.size := Nat.lt_of_lt_of_le hb hbw.size
      cases d with
      | true =>
        have HO := Lib.hid (hown.below (allocB (wr) (.cells #[.int .i64 xk, .int .u64 xn] 35)))
        have HBA : Hid (Below w.heap.size w (wr.alloc (.cells #[.int .i64 xk, .int .u64 xn] 35))) := (belAl hbw)
        clear hown hbw
        go_wp2_with (at_builtin; refine wpList_app _ rfl (.tmp 59) (.tmp 64) 22 rfl w.heap.size Try.underlying22 _ ys rfl HO.out (wr.heap.size + 1) (some ⟨wr.heap.size, 0, none⟩) 1 1 [⟨xk, xn⟩] rfl rfl (LiesB.one (by omega) (by simp) (by simp)) (len1 (by omega)) HBA.out.size ?_; intro v2 w2 hown3 hg3 _; have hbw5 : Below w.heap.size w w2 := HBA.out.grown hg3 HBA.out.size (fun k hk => (World.ownsRow.lt HO.out k hk).1); clear hg3)
        go_roundw
        case rel => exact ⟨k + 1, true, ys ++ [⟨xk, xn⟩], by omega, by go_num, rfl, by simp; omega, hown3, restC_true h0.out HX.out, hbw5⟩
        case measure => simp [intOf]; omega
      | false =>
        by_cases c1 : xk < q
        · have HO := Lib.hid (hown.below (allocB (wr) (.cells #[.int .i64 xk, .int .u64 xn] 35)))
          have HBA : Hid (Below w.heap.size w (wr.alloc (.cells #[.int .i64 xk, .int .u64 xn] 35))) := (belAl hbw)
          have HC := Lib.hid c1
          have d1 : decide (q ≤ xk) = false := decide_eq_false (by omega)
          clear hown hbw c1
          go_wp2_with (at_builtin; refine wpList_app _ rfl (.tmp 59) (.tmp 64) 22 rfl w.heap.size Try.underlying22 _ ys rfl HO.out (wr.heap.size + 1) (some ⟨wr.heap.size, 0, none⟩) 1 1 [⟨xk, xn⟩] rfl rfl (LiesB.one (by omega) (by simp) (by simp)) (len1 (by omega)) HBA.out.size ?_; intro v2 w2 hown3 hg3 _; have hbw5 : Below w.heap.size w w2 := HBA.out.grown hg3 HBA.out.size (fun k hk => (World.ownsRow.lt HO.out k hk).1); clear hg3)
          go_roundw
          case rel => exact ⟨k + 1, false, ys ++ [⟨xk, xn⟩], by omega, by go_num, rfl, by simp; omega, hown3, restC_lt h0.out HX.out HC.out, hbw5⟩
          case measure => simp [intOf]; omega
        · by_cases c2 : xk = q
          · subst c2
            have HO := Lib.hid ((hown.below (allocB (wr) (.cells #[.int .i64 xk, .int .u64 (max n xn)] 35))).below (allocB (wr.alloc (.cells #[.int .i64 xk, .int .u64 (max n xn)] 35)) (.cells #[.int .i64 xk, .int .u64 (max n xn)] 35)))
            have HBA : Hid (Below w.heap.size w ((wr.alloc (.cells #[.int .i64 xk, .int .u64 (max n xn)] 35)).alloc (.cells #[.int .i64 xk, .int .u64 (max n xn)] 35))) := (belAl (belAl hbw))
            clear c1 hown hbw
            go_wp2_with (at_builtin; refine wpList_app _ rfl (.tmp 48) (.tmp 50) 22 rfl w.heap.size Try.underlying22 _ ys rfl HO.out (wr.heap.size + 1 + 1) (some ⟨wr.heap.size + 1, 0, none⟩) 1 1 [⟨xk, max n xn⟩] rfl rfl (LiesB.one (by omega) (by simp) (by simp)) (len1 (by omega)) HBA.out.size ?_; intro v2 w2 hown3 hg3 _; have hbw5 : Below w.heap.size w w2 := HBA.out.grown hg3 HBA.out.size (fun k hk => (World.ownsRow.lt HO.out k hk).1); clear hg3; have hd0 := (hbw5.cell (p := ⟨b, off + k * 2, none⟩) hb).trans HC0.out)
            go_roundw
            case rel => exact ⟨k + 1, true, ys ++ [Tk.mk xk (max n xn)], by omega, by go_num, rfl, by simp; omega, hown3, restC_eq h0.out HX.out rfl, hbw5⟩
            case measure => simp [intOf]; omega
          · have c3 : q ≤ xk := by omega
            have HC : Hid (q < xk) := by show q < xk; omega
            have c2' : (xk == q) = false := by simp [c2]
            have HO := Lib.hid ((hown.below (allocB (wr) (.cells #[.int .i64 q, .int .u64 n] 35))).below (allocB (wr.alloc (.cells #[.int .i64 q, .int .u64 n] 35)) (.cells #[.int .i64 q, .int .u64 n] 35)))
            have HBA : Hid (Below w.heap.size w ((wr.alloc (.cells #[.int .i64 q, .int .u64 n] 35)).alloc (.cells #[.int .i64 q, .int .u64 n] 35))) := (belAl (belAl hbw))
            clear c1 c2 hown hbw
            go_wp2_with (first | (at_builtin; refine wpList_app _ rfl (.tmp 48) (.tmp 50) 22 rfl w.heap.size Try.underlying22 _ ys rfl HO.out (wr.heap.size + 1 + 1) (some ⟨wr.heap.size + 1, 0, none⟩) 1 1 [⟨q, n⟩] rfl rfl (LiesB.one (by omega) (by simp) (by simp)) (len1 (by omega)) HBA.out.size ?_; intro v2 w2 hown3 hg3 _; have hbw5 : Below w.heap.size w w2 := HBA.out.grown hg3 HBA.out.size (fun k hk => (World.ownsRow.lt HO.out k hk).1); clear hg3; have hd0 := (hbw5.cell (p := ⟨b, off + k * 2, none⟩) hb).trans HC0.out; have hd1 := (hbw5.cell (p := ⟨b, off + k * 2 + 1, none⟩) hb).trans HC1.out; have hb2 : b < w2.heap.size := Nat.lt_of_lt_of_le hb hbw5.size; have HO2 := Lib.hid (hown3.below (allocB w2 (.cells #[.int .i64 xk, .int .u64 xn] 35))); have HB2 : Hid (Below w.heap.size w (w2.alloc (.cells #[.int .i64 xk, .int .u64 xn] 35))) := belAl hbw5) | (at_builtin; refine wpList_app _ rfl (.tmp 59) (.tmp 64) 22 rfl w.heap.size Try.underlying22 v2 (ys ++ [⟨q, n⟩]) rfl HO2.out (w2.heap.size + 1) (some ⟨w2.heap.size, 0, none⟩) 1 1 [⟨xk, xn⟩] rfl rfl (LiesB.one (by omega) (by simp) (by simp)) (len1 (len_snoc (by omega))) HB2.out.size ?_; intro v3 w3 hown6 hg3 _; have hbw8 : Below w.heap.size w w3 := HB2.out.grown hg3 HB2.out.size (fun k hk => (World.ownsRow.lt HO2.out k hk).1); clear hg3))
            go_roundw
            case rel => exact ⟨k + 1, true, (ys ++ [Tk.mk q n]) ++ [Tk.mk xk xn], by omega, by go_num, rfl, by simp; omega, hown6, restC_gt h0.out HX.out HC.out, hbw8⟩
            case measure => simp [intOf]; omega
    · cases d with
      | true =>
        go_wp2_with fail
        go_ret
        refine retT_of_own hown ?_ HN.out hbw
        rw [h0.out, List.drop_eq_nil_of_le (by omega)]
        simp [restC]
      | false =>
        have HO := Lib.hid (hown.below (allocB wr (.cells #[.int .i64 q, .int .u64 n] 35)))
        have HBA : Hid (Below w.heap.size w (wr.alloc (.cells #[.int .i64 q, .int .u64 n] 35))) := belAl hbw
        clear hown hbw
        go_wp2_with (at_builtin
                     refine wpList_app _ rfl (.tmp 68) (.tmp 72) 22 rfl w.heap.size Try.underlying22 _ ys rfl HO.out _ (some ⟨wr.heap.size, 0, none⟩) 1 1 [⟨q, n⟩] rfl rfl LiesB.new ?ql ?qs ?_
                     case ql => (simp only [List.length_cons, List.length_nil]; omega)
                     case qs => exact HBA.out.size
                     intro v2 w2 hown3 hg3 _
                     have hbw5 : Below w.heap.size w w2 := HBA.out.grown hg3 HBA.out.size (fun k hk => (World.ownsRow.lt HO.out k hk).1))
        go_ret
        refine retT_of_own hown3 ?_ HN.out hbw5
        rw [h0.out, List.drop_eq_nil_of_le (by omega)]
        simp [restC, withC]
end Go.Proofs.Ytahjlckdjlafpaa
