/- What schema.renewed and schema.fresh do. No condition but that the schema lies in memory. -/
import Derived.Test.YtohmgidmfabimaaPsc
namespace Go.Proofs.Ytohmgidmfabimaa
open Go.RowKit

/-- A call that answers a slice of schemas, all in new memory. -/
def RetNL (w : World) (ts : List Tr) (e : Ending) (w' : World) : Prop :=
  ∃ v ys, e = .returned v ∧ ys.map Sc.er = ts ∧ OwnS w' w.heap.size v ys ∧ Below w.heap.size w w'

theorem cell_two {w : World} {t : TypeId} {u v : Value} : ∀ j x, [u, v][j]? = some x → (w.alloc (.cells #[u, v] t)).cell? ((⟨w.heap.size, 0, none⟩ : Addr).add j) = some x := by
  intro j x hx
  rw [Addr.add_lit]
  match j, hx with
  | 0, hx => simp at hx; subst hx; simp
  | 1, hx => simp at hx; subst hx; simp

theorem map_er_snoc {l ys : List Sc} {k : Nat} {x s : Sc} (h : ys.map Sc.er = (l.take k).map Sc.er) (hx : l[k]? = some x) (hs : s.er = x.er) : (ys ++ [s]).map Sc.er = (l.take (k + 1)).map Sc.er := by
  obtain ⟨hk, he⟩ := List.getElem?_eq_some_iff.1 hx
  rw [List.take_succ_eq_append_getElem hk, he, List.map_append, List.map_append, h]
  simp [hs]

theorem er_len {l ys : List Sc} {k : Nat} (h : ys.map Sc.er = (l.take k).map Sc.er) (hk : k ≤ l.length) : ys.length = k := by
  have := congrArg List.length h
  simp at this
  omega

set_option maxRecDepth 100000 in
set_option maxHeartbeats 1000000 in
theorem renewed_any (A : Option Addr) (c : Nat) (l : List Sc) (w : World) (hl : LiesS w.heap.size w A l) (hc32 : l.length * 32 ≤ 140737488351232) (hall : ∀ x ∈ l, x.In w.heap.size w)
    (ih : ∀ x ∈ l, ∀ (w : World), x.In w.heap.size w → Calls Try.prog 24 #[x.val] w (RetN w x.er)) :
    Calls Try.prog 28 #[.slice A l.length c, .func (.func 24) #[] #[]] w (RetNL w (l.map Sc.er)) := by
  obtain ⟨i0, hi, hz0, hz1, hz2⟩ := info_parts Try.infoSch
  have IH := Lib.hid ih
  have HALL := Lib.hid hall
  clear ih hall
  go_enter Try.func28, Try.ntmps28
  go_wp2_with fail
  go_loopw [5, 10] (fun ov iv wr => ∃ (k : Nat) (ys : List Sc), k ≤ l.length ∧ iv = .int .i64 k ∧ ys.length = k ∧ OwnS wr w.heap.size ov ys ∧ Hid (ys.map Sc.er = (l.take k).map Sc.er) ∧ Below w.heap.size w wr) (fun _ iv _ => l.length - (intOf iv).toNat)
  case atStart => exact ⟨0, [], Nat.zero_le _, rfl, rfl, OwnS.nil _ _, by simp [Hid], Below.refl _ _⟩
  case round =>
    obtain ⟨k, ys, hk, rfl, hyk, hown, h0, hbw⟩ := hrel
    by_cases hlt : k < l.length
    · obtain ⟨b, off, rfl, hb, hc⟩ := (hl.below hbw).get hlt
      obtain ⟨x, hx⟩ : ∃ x, l[k]? = some x := ⟨_, List.getElem?_eq_getElem hlt⟩
      obtain ⟨hc0, hc1⟩ := hc k x hx
      have hxin : x.In wr.heap.size wr := ((HALL.out x (List.mem_of_getElem? hx)).later hbw)
      have HX := Lib.hid hx
      clear hx hc hl
      have HM := Lib.hid (List.mem_of_getElem? HX.out)
      have hbb : b < wr.heap.size := Nat.lt_of_lt_of_le hb hbw.size
      obtain ⟨xk, xA, xc, xl⟩ := x
      simp only [Sc.v1, Sc.k] at hc0 hc1
      go_wp2_with fail
      have hbr : Below wr.heap.size wr (wr.alloc (.cells #[.int .i64 xk, .slice xA xl.length xc] 24)) := belAl (Below.refl _ _)
      refine (IH.out _ HM.out _ (hxin.later hbr)).mono ?_
      rintro e w1 ⟨⟨sk, sA, sc, sl⟩, rfl, hse, hsi, hb2⟩
      simp only [val_mk]
      have HSE := Lib.hid hse
      have hb3 : Below wr.heap.size wr w1 := hbr.trans (hb2.mono hbr.size)
      have hsz1 : wr.heap.size < w1.heap.size := Nat.lt_of_lt_of_le (by simp) hb2.size
      have hbw3 : Below w.heap.size w w1 := hbw.trans (hb3.mono hbw.size)
      have hown1 := hown.below hb3
      have hob : ∀ g, u5.ownBlock = some g → g < wr.heap.size := fun g hg => (World.ownsRow.lt hown.row g hg).2
      have hsi1 : (Sc.mk sk sA sc sl).Inp (fun b => w.heap.size ≤ b ∧ b < w1.heap.size ∧ some b ≠ u5.ownBlock) w1 := Sc.Inp.mono hsi fun b hP => ⟨by have := hbw.size; have := hP.1; simp at this; omega, hP.2, fun e => by have := hob b e.symm; have := hP.1; simp at this; omega⟩
      have hba : Below w1.heap.size w1 (w1.alloc (.cells #[.int .i64 sk, .slice sA sl.length sc] 24)) := allocB _ _
      have hown2 := hown1.below hba
      have hsi2 : (Sc.mk sk sA sc sl).Inp (fun b => w.heap.size ≤ b ∧ b < (w1.alloc (.cells #[.int .i64 sk, .slice sA sl.length sc] 24)).heap.size ∧ some b ≠ u5.ownBlock) (w1.alloc (.cells #[.int .i64 sk, .slice sA sl.length sc] 24)) :=
        (hsi1.keep fun b hP => hba.block b hP.2.1).mono fun b hP => ⟨hP.1, Nat.lt_of_lt_of_le hP.2.1 hba.size, hP.2.2⟩
      have hbw4 : Below w.heap.size w (w1.alloc (.cells #[.int .i64 sk, .slice sA sl.length sc] 24)) := belAl hbw3
      clear hse hsi hb2 hbr hb3 hown1 hsi1 hc0 hc1 hxin hba
      go_wp2_with (at_builtin
                   refine wpList_appAt _ rfl (.tmp 14) (.tmp 18) 22 rfl w.heap.size 24 i0 (.agg #[.int .i64 0, .slice none 0 0]) 2 32 Try.underlying22 hi hz0 hz1 hz2 rfl (by decide) u5 ys.length (cellsS ys) rfl hown2.row ⟨w1.heap.size, 0, none⟩ 1 1 [.int .i64 sk, .slice sA sl.length sc] rfl rfl cell_two ?qo ?qn ?qb ?qs ?_
                   case qo => (intro u hu; simp at hu; rcases hu with rfl | rfl <;> rfl)
                   case qn => (unfold maxLen; omega)
                   case qb => omega
                   case qs => exact hbw4.size
                   intro v2 w2 hown3 hg3 hat3
                   have hown4 := hown2.appended hsi2 hown3 hg3 hat3
                   have hbw5 : Below w.heap.size w w2 := hbw4.grown hg3 hbw4.size (fun k hk => (World.ownsRow.lt hown2.row k hk).1))
      go_roundw
      case rel => exact ⟨k + 1, ys ++ [.mk sk sA sc sl], by omega, by go_num, by simp; omega, hown4, map_er_snoc h0.out HX.out HSE.out, hbw5⟩
      case measure => simp [intOf]; omega
    · go_wp2_with fail
      go_ret
      refine ⟨_, ys, rfl, ?_, hown, hbw⟩
      have := h0.out
      rwa [List.take_of_length_le (by omega)] at this
end Go.Proofs.Ytohmgidmfabimaa
