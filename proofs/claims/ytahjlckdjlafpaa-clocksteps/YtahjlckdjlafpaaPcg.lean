/- What clock.Join and clock.Up do. No condition but that the ticks lie in memory, at most 1000 (Up: and rise). -/
import Derived.Test.YtahjlckdjlafpaaPcf
namespace Go.Proofs.Ytahjlckdjlafpaa
open Go.RowKit

theorem mergeC_nok {a b : List Tk} (ha : Nok a) (hb : Nok b) : Nok (mergeC a b) := by
  induction a, b using mergeC.induct with
  | case1 b => rw [mergeC_nil_left]; exact hb
  | case2 x a => rw [mergeC_nil_right]; exact ha
  | case3 x a y b hlt ih =>
    rw [mergeC_lt _ _ hlt]
    intro z hz
    rcases List.mem_cons.1 hz with rfl | hz
    · exact ha z (by simp)
    · exact ih (fun u hu => ha u (by simp [hu])) hb z hz
  | case4 x a y b hlt hgt ih =>
    rw [mergeC_gt _ _ hgt]
    intro z hz
    rcases List.mem_cons.1 hz with rfl | hz
    · exact hb z (by simp)
    · exact ih ha (fun u hu => hb u (by simp [hu])) z hz
  | case5 x a y b hlt hgt ih =>
    rw [mergeC_eq _ _ (by omega)]
    intro z hz
    rcases List.mem_cons.1 hz with rfl | hz
    · unfold laterC
      split
      · exact hb y (by simp)
      · exact ha x (by simp)
    · exact ih (fun u hu => ha u (by simp [hu])) (fun u hu => hb u (by simp [hu])) z hz

set_option maxHeartbeats 400000 in
theorem Join_new (A B : Option Addr) (c d : Nat) (l l' : List Tk) (w : World) (h : In w A c l) (h' : In w B d l') (hlen : l.length ≤ 1000) (hlen' : l'.length ≤ 1000) :
    Calls Try.prog 14 #[.slice A l.length c, .slice B l'.length d] w (RetF w (mergeC l l')) := by
  have HJ := Lib.hid (merged_new A B c d l l' w h h' (mergeC_nok h.nok h'.nok) hlen hlen')
  clear h h'
  go_enter Try.func14, Try.ntmps14
  go_wp2_with fail
  refine HJ.out.mono ?_
  rintro e w' ⟨A2, c2, rfl, hin, hf, hb⟩
  go_wp2_with fail
  go_ret
  exact ⟨A2, c2, rfl, hin, hf, hb⟩

set_option maxHeartbeats 400000 in
theorem Up_new (A : Option Addr) (c : Nat) (l : List Tk) (q : Int) (w : World) (h : In w A c l) (ha : Asc l) (hlen : l.length ≤ 1000) :
    Calls Try.prog 12 #[.slice A l.length c, .int .i64 q] w (RetF w (upC l q)) := by
  obtain ⟨n, hn⟩ : ∃ n, ofC l q = n := ⟨_, rfl⟩
  have hb := ofC_nok h.nok q
  rw [hn] at hb
  obtain ⟨hb0, hb1⟩ := hb
  have hu := upN_nok ⟨hb0, hb1⟩
  have HA := Lib.hid h
  have HS := Lib.hid ha
  have HN := Lib.hid hn
  have HU : Hid (upC l q = mergeC l [⟨q, upN n⟩]) := by show upC l q = _; rw [mergeC_one]; unfold upC; rw [hn]
  have HUN := Lib.hid hu
  clear h hn ha hu
  rw [HU.out]
  by_cases hm : n < 18446744073709551615
  · have hu : upN n = n + 1 := by unfold upN; rw [if_pos hm]
    rw [hu] at HUN ⊢
    clear hu
    go_enter Try.func12, Try.ntmps12
    go_wp2_with fail
    refine (Of_any A c l q w HA.out HS.out hlen).mono ?_
    rintro e w1 ⟨rfl, hb2⟩
    rw [HN.out]
    go_wp2_with fail
    refine (Join_new A (some ⟨w1.heap.size, 0, none⟩) c 1 l [⟨q, n + 1⟩] _ ((HA.out.later hb2).later (allocB _ _)) ⟨LiesB.one (by simp) (by simp) (by simp), by simp, (by unfold maxLen; omega), fun x hx => by rw [List.mem_singleton.1 hx]; exact ⟨Int.le_of_lt HUN.out.1, HUN.out.2⟩⟩ hlen (by simp)).mono ?_
    rintro e w2 ⟨A2, c2, rfl, hin, hf, hb3⟩
    have hb4 : Below w.heap.size w w2 := (belAl hb2).trans (hb3.mono (belAl hb2).size)
    go_wp2_with fail
    go_ret
    exact ⟨A2, c2, rfl, hin, fun a ha => Nat.le_trans (belAl hb2).size (hf a ha), hb4⟩
  · have hu : upN n = n := by unfold upN; rw [if_neg hm]
    rw [hu] at HUN ⊢
    have e : n = 18446744073709551615 := by omega
    subst e
    clear hu hm
    go_enter Try.func12, Try.ntmps12
    go_wp2_with fail
    refine (Of_any A c l q w HA.out HS.out hlen).mono ?_
    rintro e w1 ⟨rfl, hb2⟩
    rw [HN.out]
    go_wp2_with fail
    refine (Join_new A (some ⟨w1.heap.size, 0, none⟩) c 1 l [⟨q, 18446744073709551615⟩] _ ((HA.out.later hb2).later (allocB _ _)) ⟨LiesB.one (by simp) (by simp) (by simp), by simp, (by unfold maxLen; omega), fun x hx => by rw [List.mem_singleton.1 hx]; exact ⟨Int.le_of_lt HUN.out.1, HUN.out.2⟩⟩ hlen (by simp)).mono ?_
    rintro e w2 ⟨A2, c2, rfl, hin, hf, hb3⟩
    have hb4 : Below w.heap.size w w2 := (belAl hb2).trans (hb3.mono (belAl hb2).size)
    go_wp2_with fail
    go_ret
    exact ⟨A2, c2, rfl, hin, fun a ha => Nat.le_trans (belAl hb2).size (hf a ha), hb4⟩
theorem Join_any (A B : Option Addr) (c d : Nat) (l l' : List Tk) (w : World) (h : In w A c l) (h' : In w B d l') (hlen : l.length ≤ 1000) (hlen' : l'.length ≤ 1000) :
    Calls Try.prog 14 #[.slice A l.length c, .slice B l'.length d] w (RetT w (mergeC l l')) := (Join_new A B c d l l' w h h' hlen hlen').mono fun _ _ h => h.toT
theorem Up_any (A : Option Addr) (c : Nat) (l : List Tk) (q : Int) (w : World) (h : In w A c l) (ha : Asc l) (hlen : l.length ≤ 1000) :
    Calls Try.prog 12 #[.slice A l.length c, .int .i64 q] w (RetT w (upC l q)) := (Up_new A c l q w h ha hlen).mono fun _ _ h => h.toT
end Go.Proofs.Ytahjlckdjlafpaa
