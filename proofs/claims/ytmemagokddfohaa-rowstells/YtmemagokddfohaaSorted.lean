/- What rows.Sort does. No condition but that the slice reads as strings, at most 400000. -/
import Derived.Test.YtmemagokddfohaaNorm
import Derived.Test.YtmemagokddfohaaShelf
namespace Go.Proofs.Ytmemagokddfohaa
open Go.RowKit
open Go.Sort (Holds putRow grow holds_grow holds_putRow holds_ahead mapBlock heap_grow_old)

theorem holds_of_own {w : World} {base g n cap : Nat} {xs : List Str} (h : w.ownsRow base 9 1 (.slice (some ⟨g, 0, none⟩) n cap) n (cellsOf xs)) : Holds encStr w g 0 xs.toArray := by
  intro j hj
  have hj' : j < xs.length := by simpa using hj
  rcases h.2 with ⟨h0, _⟩ | ⟨g', cap', cur, hv, _, hg, _⟩
  · cases h0
  · cases hv
    refine ⟨?_, by simp [World.frozen?, hg]⟩
    have := World.ownsRow.cells h (g := g) rfl j _ (cellsOf_at (List.getElem?_eq_getElem hj'))
    rw [Addr.add_lit] at this
    rw [this]
    simp [S, getElem!_pos, hj']

theorem below_putRow {B : Nat} {w : World} {blk off : Nat} {d : Array Str} (h : B ≤ blk) : Below B w (putRow encStr w blk off d) :=
  ⟨rfl, rfl, rfl, by simp, fun k hk => by simp [putRow, mapBlock, Array.getElem?_modify, show ¬ blk = k by omega]⟩

theorem below_grow {B : Nat} {w : World} (os : Array Obj) (h : B ≤ w.heap.size) : Below B w (grow w os) :=
  ⟨rfl, rfl, rfl, by simp, fun _ hk => heap_grow_old w os (Nat.lt_of_lt_of_le hk h)⟩

theorem below_ahead {B : Nat} {w : World} (n : Nat) : Below B w (Sort.ahead w n) := ⟨rfl, rfl, rfl, Nat.le_refl _, fun _ _ => rfl⟩

theorem lies_of_holds {w : World} {g : Nat} {zs ys : List Str} (h : Holds encStr w g 0 (zs ++ ys).toArray) (hg : g < w.heap.size) : Lies w (some ⟨g, 0, none⟩) zs := by
  refine .inr ⟨g, 0, rfl, hg, fun i x hx => ?_⟩
  have hi : i < zs.length := (List.getElem?_eq_some_iff.1 hx).1
  have := (h i (by simp; omega)).1
  rw [this]
  simp [S, List.getElem?_append_left hi, hx]

theorem map_cells (xs : List Str) : (xs.map S).map Value.string = cellsOf xs := by simp [cellsOf]

set_option maxHeartbeats 1000000 in
theorem sorted_any (A : Option Addr) (c : Nat) (xs : List Str) (w : World) (hl : Lies w A xs) (hn : xs.length ≤ 400000) :
    Calls Try.prog 22 #[.slice A xs.length c] w (RetL w (sortL xs)) := by
  by_cases h0 : xs = []
  · subst h0
    cases A with
    | none =>
      go_enter Try.func22, Try.ntmps22
      go_wp2_with fail
      refine (Try.slices_Clone_string_nil 0 c w).mono ?_
      rintro e w' ⟨rfl, rfl⟩
      go_wp2_with fail
      refine (Try.slices_Sort_string_none none 0 _).mono ?_
      rintro e w' ⟨rfl, rfl⟩
      go_wp2_with fail
      refine (Try.slices_Compact_string_empty none 0 _).mono ?_
      rintro e w' ⟨rfl, rfl⟩
      go_wp2
      go_ret
      exact ⟨none, 0, rfl, Nat.le_refl _, Nat.zero_le _, Lies.nil, Below.refl _ _⟩
    | some a =>
      go_enter Try.func22, Try.ntmps22
      go_wp2_with fail
      refine (Try.slices_Clone_string_zero a c w).mono ?_
      rintro e w' ⟨v', rfl, hown, -, hbw⟩
      obtain ⟨A', c', rfl, hc1, hc2, -⟩ := Own.form (ys := []) hown
      clear hown
      go_wp2_with fail
      refine (Try.slices_Sort_string_none A' c' _).mono ?_
      rintro e w2 ⟨rfl, rfl⟩
      go_wp2_with fail
      refine (Try.slices_Compact_string_empty A' c' _).mono ?_
      rintro e w2 ⟨rfl, rfl⟩
      go_wp2
      go_ret
      exact ⟨A', c', rfl, hc1, hc2, Lies.nil, hbw⟩
  · rcases hl with h | ⟨b, off, rfl, hb, hc⟩
    · exact absurd h h0
    have hpos : 0 < xs.length := List.length_pos_iff.2 h0
    have Hc : Hid (∀ j, j < (xs.map S).length → w.cell? ⟨b, off + j, none⟩ = some (.string ((xs.map S).getD j ByteArray.empty))) := by
      intro j hj
      have hj' : j < xs.length := by simpa using hj
      rw [hc j _ (List.getElem?_eq_getElem hj')]
      simp [List.getD, hj']
    clear hc h0
    go_enter Try.func22, Try.ntmps22
    go_wp2_with fail
    refine (Try.slices_Clone_string b off xs.length c (xs.map S) w (by simp) (by omega) Hc.out).mono ?_
    rintro e w1 ⟨v', rfl, hown, -, hbw1⟩
    rw [show (xs.map S).take xs.length = xs.map S from List.take_of_length_le (by simp), map_cells] at hown
    obtain ⟨g, cap, rfl, hg, hg2⟩ := hown.form hpos
    have hH := Lib.hid (holds_of_own hown)
    have hcap : xs.length ≤ cap ∧ cap ≤ maxLen := by
      rcases hown.2 with ⟨h, _⟩ | ⟨_, _, _, h, _, _, h1, h2, _⟩
      · cases h
      · cases h; exact ⟨h1, h2⟩
    obtain ⟨hcap1, hcap2⟩ := hcap
    clear hown
    go_wp2_with fail
    refine (Try.slices_Sort_string g 0 cap xs w1 hH.out hg2 (by omega)).mono ?_
    rintro e w2 ⟨rfl, n, os, rfl⟩
    obtain ⟨zs, hzs⟩ : ∃ zs, xs.mergeSort (fun x y => decide (x ≤ y)) = zs := ⟨_, rfl⟩
    have hlen : zs.length = xs.length := by rw [← hzs]; exact List.length_mergeSort _
    have hH2 : Holds encStr (grow (putRow encStr (Sort.ahead w1 n) g 0 zs.toArray) os) g 0 zs.toArray :=
      holds_grow _ _ _ _ _ _ (by simpa using hg2) (holds_putRow _ _ _ _ xs.toArray _ (holds_ahead _ _ _ _ _ _ hH.out) (by simpa using hlen))
    have hb2 : Below w.heap.size w (grow (putRow encStr (Sort.ahead w1 n) g 0 zs.toArray) os) :=
      ((hbw1.trans (below_ahead n)).trans (below_putRow hg)).trans (below_grow os (by simpa using hbw1.size))
    have hg3 : g < (grow (putRow encStr (Sort.ahead w1 n) g 0 zs.toArray) os).heap.size := by simp; omega
    rw [hzs]
    generalize grow (putRow encStr (Sort.ahead w1 n) g 0 zs.toArray) os = w2 at *
    have HZ := Lib.hid hzs
    have HL := Lib.hid hlen
    have HH2 := Lib.hid hH2
    rw [← hlen]
    have hz4 : zs.length ≤ 400000 := by omega
    have hz5 : zs.length ≤ cap := by omega
    clear hzs hlen hH2 hH
    go_wp2_with fail
    refine (Try.slices_Compact_string g 0 cap zs w2 HH2.out (by omega) hz5).mono ?_
    rintro e w3 ⟨rfl, q, rfl⟩
    have hcl : (Lib.compact zs).length ≤ zs.length := Lib.compact_length_le zs
    have hH3 : Holds encStr (putRow encStr (Sort.ahead w2 q) g 0 (Lib.compact zs ++ List.replicate (zs.length - (Lib.compact zs).length) []).toArray) g 0 (Lib.compact zs ++ List.replicate (zs.length - (Lib.compact zs).length) []).toArray :=
      holds_putRow _ _ _ _ zs.toArray _ (holds_ahead _ _ _ _ _ _ HH2.out) (by simp; omega)
    have hL3 := lies_of_holds hH3 (by simpa using hg3)
    have hb3 : Below w.heap.size w (putRow encStr (Sort.ahead w2 q) g 0 (Lib.compact zs ++ List.replicate (zs.length - (Lib.compact zs).length) []).toArray) :=
      (hb2.trans (below_ahead q)).trans (below_putRow hg)
    generalize putRow encStr (Sort.ahead w2 q) g 0 (Lib.compact zs ++ List.replicate (zs.length - (Lib.compact zs).length) []).toArray = w3 at *
    clear hH3
    have HE : Hid (sortL xs = Lib.compact zs) := by
      show sortL xs = Lib.compact zs
      rw [← HZ.out]
      exact (sorted_eq xs).symm
    go_wp2
    go_ret
    rw [HE.out]
    exact ⟨_, cap, rfl, by omega, hcap2, hL3, hb3⟩

set_option maxHeartbeats 400000 in
theorem sort_any (A : Option Addr) (c : Nat) (xs : List Str) (w : World) (hl : Lies w A xs) (hn : xs.length ≤ 400000) :
    Calls Try.prog 9 #[.slice A xs.length c] w (RetL w (sortL xs)) := by
  go_enter Try.func9, Try.ntmps9
  go_wp2_with fail
  refine (sorted_any A c xs w hl hn).mono ?_
  rintro e w' ⟨A', c', rfl, h1, h2, h3, h4⟩
  go_wp2
  go_ret
  exact ⟨A', c', rfl, h1, h2, h3, h4⟩
end Go.Proofs.Ytmemagokddfohaa
