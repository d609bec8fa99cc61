/- What ClockSteps does: it answers true. No condition but that the bytes lie in memory. -/
import Derived.Test.YtahjlckdjlafpaaPch
import Derived.Test.YtahjlckdjlafpaaPcl
namespace Go.Proofs.Ytahjlckdjlafpaa
open Go.RowKit

/-- The bytes bs lie, one behind the other, from A on (where there are any). -/
def LiesU (w : World) (A : Option Addr) (bs : List Int) : Prop :=
  bs = [] ∨ ∃ b off, A = some ⟨b, off, none⟩ ∧ b < w.heap.size ∧ ∀ i x, bs[i]? = some x → w.cell? ⟨b, off + i, none⟩ = some (.int .u8 x)

theorem LiesU.get {w : World} {A : Option Addr} {bs : List Int} (h : LiesU w A bs) {k : Nat} (hk : k < bs.length) :
    ∃ b off, A = some ⟨b, off, none⟩ ∧ b < w.heap.size ∧ ∀ i x, bs[i]? = some x → w.cell? ⟨b, off + i, none⟩ = some (.int .u8 x) := by
  rcases h with h | h
  · subst h; simp at hk
  · exact h
theorem LiesU.later {w w' : World} {A : Option Addr} {bs : List Int} (h : LiesU w A bs) (hb : Below w.heap.size w w') : LiesU w' A bs := by
  rcases h with h | ⟨b, off, hA, hlt, h⟩
  · exact .inl h
  · exact .inr ⟨b, off, hA, Nat.lt_of_lt_of_le hlt hb.size, fun i x hx => (hb.cell (p := ⟨b, off + i, none⟩) hlt).trans (h i x hx)⟩

theorem In.set {w : World} {A : Option Addr} {c : Nat} {xs : List Tk} (h : In w A c xs) (a : Addr) (v : Value) (hne : ∀ x, A = some x → x.block ≠ a.block) : In (w.setCell a v) A c xs := by
  refine ⟨?_, h.cap, h.top, h.nok⟩
  rw [World.size_setCell]
  rcases h.lies with h | ⟨b, off, hA, hlt, h⟩
  · exact .inl h
  · have hn : b ≠ a.block := hne _ hA
    refine .inr ⟨b, off, hA, hlt, fun i x hx => ⟨?_, ?_⟩⟩
    · exact (World.cell?_setCell_far w a ⟨b, off + i * 2, none⟩ v (fun e => hn e.symm)).trans (h i x hx).1
    · exact (World.cell?_setCell_far w a ⟨b, off + i * 2 + 1, none⟩ v (fun e => hn e.symm)).trans (h i x hx).2

/-- The eight numbers lie in block B, as the clock's. -/
def Nums (w : World) (B : Nat) (l : List Tk) : Prop := ∀ j : Nat, j < 8 → w.cell? ⟨B, j, none⟩ = some (.int .u64 (ofC l j)) ∧ w.frozen? ⟨B, j, none⟩ = false

theorem Nums.later {w w' : World} {B : Nat} {l : List Tk} (h : Nums w B l) (hB : B < w.heap.size) (hb : Below w.heap.size w w') : Nums w' B l := fun j hj =>
  ⟨(hb.cell (p := ⟨B, j, none⟩) hB).trans (h j hj).1, (hb.frozen (p := ⟨B, j, none⟩) hB).trans (h j hj).2⟩

theorem Nums.set {w : World} {B : Nat} {l : List Tk} (h : Nums w B l) {q : Nat} (hq : q < 8) : Nums (w.setCell ⟨B, q, none⟩ (.int .u64 (ofC l q + 1))) B (withC l q (ofC l q + 1)) := by
  intro j hj
  refine ⟨?_, by rw [World.frozen?_setCell]; exact (h j hj).2⟩
  by_cases e : j = q
  · subst e
    rw [World.cell?_setCell_same w _ _ (h j hj).1, Good.self]
  · rw [World.cell?_setCell_other w _ _ _ (by intro h'; cases h'; exact e rfl), ofC_with_other (by omega)]
    exact (h j hj).1

theorem nums_new (w : World) (t : TypeId) : Nums (w.alloc (.cells #[.int .u64 0, .int .u64 0, .int .u64 0, .int .u64 0, .int .u64 0, .int .u64 0, .int .u64 0, .int .u64 0] t)) w.heap.size [] := by
  intro j hj
  have hj' : j = 0 ∨ j = 1 ∨ j = 2 ∨ j = 3 ∨ j = 4 ∨ j = 5 ∨ j = 6 ∨ j = 7 := by omega
  rcases hj' with rfl | rfl | rfl | rfl | rfl | rfl | rfl | rfl <;> exact ⟨by go_simp; rfl, by go_simp⟩

set_option maxRecDepth 100000 in
set_option maxHeartbeats 4000000 in
theorem clockSteps_all (A : Option Addr) (c : Nat) (bs : List Int) (w : World) (h : LiesU w A bs) (hby : ∀ x ∈ bs, 0 ≤ x ∧ x ≤ 255) (hlm : bs.length ≤ 9223372036854775807) :
    Calls Try.prog 4 #[.slice A bs.length c] w (RetV w (.bool true)) := by
  have HBY := Lib.hid hby
  have HL := Lib.hid h
  clear hby h
  go_enter Try.func4, Try.ntmps4
  go_wp2_with fail
  refine (known_any _).mono ?_
  rintro e w1 ⟨rfl, hb1⟩
  by_cases h60 : 60 < bs.length
  · go_wp2_with fail
    go_ret
    exact ⟨rfl, hb1⟩
  · have d60 : decide (60 < (bs.length : Int)) = false := decide_eq_false (by omega)
    have h60' : bs.length ≤ 60 := by omega
    clear h60
    go_wp2_with fail
    have hN0 := nums_new w1 33
    have hW0 : Below w.heap.size w (w1.alloc (.cells #[.int .u64 0, .int .u64 0, .int .u64 0, .int .u64 0, .int .u64 0, .int .u64 0, .int .u64 0, .int .u64 0] 33)) := belAl hb1
    have hNB : w1.heap.size < (w1.alloc (.cells #[.int .u64 0, .int .u64 0, .int .u64 0, .int .u64 0, .int .u64 0, .int .u64 0, .int .u64 0, .int .u64 0] 33)).heap.size := by simp
    have hBw : w.heap.size ≤ w1.heap.size := hb1.size
    generalize (w1.alloc (.cells #[.int .u64 0, .int .u64 0, .int .u64 0, .int .u64 0, .int .u64 0, .int .u64 0, .int .u64 0, .int .u64 0] 33)) = W0 at *
    generalize w1.heap.size = NB at *
    clear hb1
    go_loopw [3, 5] (fun cv iv wr => ∃ (k : Nat) (A2 : Option Addr) (c2 : Nat) (cs : List Tk), k ≤ bs.length ∧ iv = .int .i64 k ∧ cv = .slice A2 cs.length c2 ∧ In wr A2 c2 cs ∧ Hid (∀ a, A2 = some a → a.block ≠ NB) ∧ Hid (Good cs k) ∧ Hid (Nums wr NB cs) ∧ NB < wr.heap.size ∧ Below w.heap.size w wr) (fun _ iv _ => bs.length - (intOf iv).toNat)
    case atStart => exact ⟨0, none, 0, [], Nat.zero_le _, rfl, rfl, In.nil _, (fun a ha => by cases ha), Good.nil, hN0, hNB, hW0⟩
    case round =>
      obtain ⟨k, A2, c2, cs, hk, rfl, rfl, hin, hne, hG, hN, hB, hbw⟩ := hrel
      clear hN0 hW0 hNB
      by_cases hlt : k < bs.length
      · obtain ⟨b, off, rfl, hb, hc⟩ := (HL.out.later hbw).get hlt
        obtain ⟨x, hx⟩ : ∃ x, bs[k]? = some x := ⟨_, List.getElem?_eq_getElem hlt⟩
        have hc0 := hc k x hx
        obtain ⟨hx0, hx1⟩ := HBY.out x (List.mem_of_getElem? hx)
        have HI := Lib.hid hin
        have HB := Lib.hid hbw
        clear hc hx hin hbw
        go_wp2_with fail
        obtain ⟨q, hq, hq8⟩ : ∃ q : Nat, x % 8 = q ∧ q < 8 := ⟨(x % 8).toNat, by omega, by omega⟩
        rw [hq]
        clear hq hx0 hx1 hc0
        have hqi : (q : Int) < 8 := by omega
        refine (Up_new A2 c2 cs q wr HI.out hG.out.asc (by have := hG.out.len; omega)).mono ?_
        rintro e w3 ⟨A3, c3, rfl, hin3, hf3, hb3⟩
        rw [hG.out.up (by omega)] at hin3 ⊢
        have ho := hG.out.of q
        have hN3 := hN.out.later hB hb3
        have HGd : Hid (Good (withC cs q (ofC cs q + 1)) (k + 1)) := hG.out.step ⟨by omega, by omega⟩
        have HCM : Hid (cmpC cs (withC cs q (ofC cs q + 1)) = -1) := hG.out.cmp
        have HOF : Hid (ofC (withC cs q (ofC cs q + 1)) q = ofC cs q + 1) := Good.self
        have hN4 := hN3.set hq8
        have hcell := (hN3 q hq8).1
        have hfroz := (hN3 q hq8).2
        have hI2 := (HI.out.later hb3).set ⟨NB, q, none⟩ (.int .u64 (ofC cs q + 1)) hne.out
        have hI3 := hin3.set ⟨NB, q, none⟩ (.int .u64 (ofC cs q + 1)) (fun a ha => by have := hf3 a ha; show a.block ≠ NB; omega)
        have hne3 : Hid (∀ a, A3 = some a → a.block ≠ NB) := fun a ha => by have := hf3 a ha; omega
        have hb4 : Below w.heap.size w (w3.setCell ⟨NB, q, none⟩ (.int .u64 (ofC cs q + 1))) := (HB.out.trans (hb3.mono HB.out.size)).setCell hBw _
        have hB4 : NB < (w3.setCell ⟨NB, q, none⟩ (.int .u64 (ofC cs q + 1))).heap.size := by rw [World.size_setCell]; exact Nat.lt_of_lt_of_le hB hb3.size
        have hB3 : NB < w3.heap.size := Nat.lt_of_lt_of_le hB hb3.size
        generalize withC cs q (ofC cs q + 1) = ds at *
        generalize ofC cs q = z at *
        have hz : 0 ≤ z ∧ z ≤ 60 := ⟨ho.1, by omega⟩
        obtain ⟨hz0, hz1⟩ := hz
        have HN4 := Lib.hid hN4
        have HI2 := Lib.hid hI2
        have HI3 := Lib.hid hI3
        have HB4 := Lib.hid hb4
        clear ho hin3 hf3 hb3 hN3 hN4 hI2 hI3 hb4 hne
        go_wp2_with fail
        have e0 : (w3.setCell ⟨NB, q, none⟩ (.int .u64 (z + 1))).cell? ⟨NB, q, none⟩ = some (.int .u64 (z + 1)) := World.cell?_setCell_same _ _ _ hcell
        generalize w3.setCell ⟨NB, q, none⟩ (.int .u64 (z + 1)) = w4 at *
        clear hcell hfroz hB3 hN HI HB HL hb hB
        have HAc := Lib.hid hG.out.asc
        have HAd := Lib.hid HGd.out.asc
        have HLc : Hid (cs.length ≤ 1000) := Nat.le_trans hG.out.len (by omega)
        have HLd : Hid (ds.length ≤ 1000) := Nat.le_trans HGd.out.len (by omega)
        have HIS := Lib.hid HGd.out.isC
        replace HN4 := Lib.hid (HN4.out.later hB4 (drewB w4))
        replace HI2 := Lib.hid (HI2.out.later (drewB w4))
        replace HI3 := Lib.hid (HI3.out.later (drewB w4))
        replace HB4 : Hid (Below w.heap.size w w4.drew) := HB4.out.drew
        have hzz : ((z + 1) == (z + 1)) = true := by simp
        go_region_held3 (fun w' => w'.cell? ⟨NB, q, none⟩ = some (.int .u64 (z + 1)))
          (first
            | exact e0)
          (first
            | (go_at_call 16; refine (Cmp_at A2 A3 c2 c3 cs ds (-1) _ HI2.out HI3.out HAc.out HAd.out HLc.out HLd.out HCM.out).mono ?_; rintro e w5 ⟨rfl, hb5⟩; (replace e0 := (hb5.cell (p := ⟨NB, q, none⟩) hB4).trans e0; replace HN4 := Lib.hid (HN4.out.later hB4 hb5); replace HI2 := Lib.hid (HI2.out.later hb5); replace HI3 := Lib.hid (HI3.out.later hb5); replace HB4 := Lib.hid (HB4.out.trans (hb5.mono HB4.out.size)); replace hB4 : NB < w5.heap.size := Nat.lt_of_lt_of_le hB4 hb5.size; clear hb5))
            | (go_at_call 6; refine (Is_at A3 c3 ds true _ HI3.out HIS.out).mono ?_; rintro e w6 ⟨rfl, hb5⟩; (replace e0 := (hb5.cell (p := ⟨NB, q, none⟩) hB4).trans e0; replace HN4 := Lib.hid (HN4.out.later hB4 hb5); replace HI2 := Lib.hid (HI2.out.later hb5); replace HI3 := Lib.hid (HI3.out.later hb5); replace HB4 := Lib.hid (HB4.out.trans (hb5.mono HB4.out.size)); replace hB4 : NB < w6.heap.size := Nat.lt_of_lt_of_le hB4 hb5.size; clear hb5))
            | (go_at_call 10; refine (Of_at A3 c3 ds q (z + 1) _ HI3.out HAd.out HLd.out HOF.out).mono ?_; rintro e w7 ⟨rfl, hb5⟩; (replace e0 := (hb5.cell (p := ⟨NB, q, none⟩) hB4).trans e0; replace HN4 := Lib.hid (HN4.out.later hB4 hb5); replace HI2 := Lib.hid (HI2.out.later hb5); replace HI3 := Lib.hid (HI3.out.later hb5); replace HB4 := Lib.hid (HB4.out.trans (hb5.mono HB4.out.size)); replace hB4 : NB < w7.heap.size := Nat.lt_of_lt_of_le hB4 hb5.size; clear hb5)))
        go_wp2_with fail
        go_roundw
        case rel => exact ⟨k + 1, A3, c3, ds, by omega, by go_num, rfl, HI3.out, hne3, HGd, HN4, hB4, HB4.out⟩
        case measure => simp [intOf]; omega
      · have hke : k = bs.length := by omega
        subst hke
        have HG8 := hG.out.len
        have hcl := hin.lies
        have HB := Lib.hid hbw
        clear hne hN hB hin hbw HL
        go_wp2_with fail
        go_loop [8, 9] (fun sv iv => ∃ m : Nat, m ≤ cs.length ∧ iv = .int .i64 m ∧ sv = .int .u64 (sumC (cs.take m)) ∧ Hid (0 ≤ sumC (cs.take m) ∧ sumC (cs.take m) ≤ 60 * m)) (fun _ iv => cs.length - (intOf iv).toNat)
        case atStart => exact ⟨0, Nat.zero_le _, rfl, by simp [sumC], by simp [Hid, sumC]⟩
        case round =>
          obtain ⟨m, hm, rfl, rfl, hs⟩ := hrel
          obtain ⟨hs0, hs1⟩ := hs.out
          by_cases hlt2 : m < cs.length
          · obtain ⟨b, off, rfl, hb, hc⟩ := hcl.get hlt2
            obtain ⟨x, hx⟩ : ∃ x, cs[m]? = some x := ⟨_, List.getElem?_eq_getElem hlt2⟩
            obtain ⟨hc0, hc1⟩ := hc m x hx
            have hg := hG.out.all x (List.mem_of_getElem? hx)
            have HT : Hid (sumC (cs.take (m + 1)) = sumC (cs.take m) + x.n) := by
              show sumC (cs.take (m + 1)) = _
              obtain ⟨hi, he⟩ := List.getElem?_eq_some_iff.1 hx
              rw [List.take_succ_eq_append_getElem hi, sumC_append, he]
              simp [sumC]
            obtain ⟨xk, xn⟩ := x
            dsimp only at hc0 hc1 hg HT
            obtain ⟨-, -, hg0, hg1⟩ := hg
            generalize hsv : sumC (cs.take m) = sv at *
            clear hc hx hsv
            go_wp2_with fail
            go_round
            case rel => exact ⟨m + 1, by omega, by go_num, by rw [HT.out], by show _ ∧ _; rw [HT.out]; omega⟩
            case measure => simp [intOf]; omega
          · have e : sumC (cs.take m) = bs.length := by rw [List.take_of_length_le (by omega)]; exact hG.out.sum
            rw [e]
            have hee : (((bs.length : Nat) : Int) == ((bs.length : Nat) : Int)) = true := by simp
            clear e hs hs0 hs1
            go_wp2_with fail
            go_ret
            exact ⟨rfl, HB.out⟩
end Go.Proofs.Ytahjlckdjlafpaa
