/- What the reference's deep does. No condition but that the schema lies in memory. -/
import Derived.Test.YtohmgidmfabimaaRefSa
namespace Go.Proofs.Ytohmgidmfabimaa
open Go.RowKit

/-- The deepest of them so far. -/
def dmax (n : Nat) (l : List Sc) (k : Nat) : Nat := ((l.take k).map fun x => deepT n x.er).foldl max 0

theorem dmax_succ {n : Nat} {l : List Sc} {k : Nat} {x : Sc} (hx : l[k]? = some x) : dmax n l (k + 1) = max (dmax n l k) (deepT n x.er) := by
  obtain ⟨hk, he⟩ := List.getElem?_eq_some_iff.1 hx
  unfold dmax
  rw [List.take_succ_eq_append_getElem hk, he, List.map_append, List.foldl_append]
  rfl

theorem dmax_le (n : Nat) (l : List Sc) (k : Nat) : dmax n l k ≤ n := foldl_max_le.2 ⟨by omega, fun x hx => by
  obtain ⟨y, _, rfl⟩ := List.mem_map.1 hx
  exact deepT_le n _⟩

theorem dmax_all {n : Nat} {k0 : Int} {A : Option Addr} {c : Nat} {l : List Sc} {k : Nat} (hk : l.length ≤ k) : dmax n l k + 1 = deepT (n + 1) (Sc.mk k0 A c l).er := by
  unfold dmax
  rw [List.take_of_length_le hk, deepT, er_ins, List.map_map]
  rfl

set_option maxHeartbeats 400000 in
theorem refdeep_any (n : Nat) (hn : n ≤ 1000) : ∀ (N : Int) (s : Sc) (w : World), N = n → s.In w.heap.size w →
    Calls Try.prog 20 #[s.val, .int .i64 N] w (RetV w (.int .i64 (deepT n s.er))) := by
  induction n with
  | zero =>
    rintro N ⟨k, A, c, l⟩ w rfl -
    go_enter Try.func20, Try.ntmps20
    go_wp2_with fail
    go_ret
    exact ⟨rfl, allocB _ _⟩
  | succ n ih =>
    rintro N ⟨k0, A, c, l⟩ w hN hin
    have hN0 : 0 < N := by omega
    have hN1 : N ≤ 1000 := by omega
    have HN : Hid (N - 1 = n) := by show N - 1 = n; omega
    clear hN
    obtain ⟨hl, hlc, hc32, hall⟩ := hin.out
    clear hin
    have IH := Lib.hid (ih (by omega))
    have HALL := Lib.hid hall
    clear ih hall
    simp only [val_mk]
    go_enter Try.func20, Try.ntmps20
    go_wp2_with fail
    have hbw0 : Below w.heap.size w (w.alloc (.cells #[.int .i64 k0, .slice A l.length c] 24)) := allocB _ _
    go_loopw [5, 6] (fun nv iv wr => ∃ (k m : Nat), k ≤ l.length ∧ iv = .int .i64 k ∧ nv = .int .i64 m ∧ m ≤ n ∧ Hid (m = dmax n l k) ∧ Below w.heap.size w wr ∧ wr.cell? ⟨w.heap.size, 1, none⟩ = some (.slice A l.length c) ∧ w.heap.size < wr.heap.size) (fun _ iv _ => l.length - (intOf iv).toNat)
    case atStart => exact ⟨0, 0, Nat.zero_le _, rfl, rfl, Nat.zero_le _, rfl, hbw0, by simp, by simp⟩
    case round =>
      obtain ⟨k, m, hk, rfl, rfl, hm, h0, hbw, hbox, hsz⟩ := hrel
      clear hbw0
      by_cases hlt : k < l.length
      · obtain ⟨b, off, rfl, hb, hc⟩ := (hl.below hbw).get hlt
        obtain ⟨x, hx⟩ : ∃ x, l[k]? = some x := ⟨_, List.getElem?_eq_getElem hlt⟩
        obtain ⟨hc0, hc1⟩ := hc k x hx
        have hxin : x.In wr.heap.size wr := ((HALL.out x (List.mem_of_getElem? hx)).later hbw)
        have HX := Lib.hid hx
        clear hx hc hl
        obtain ⟨xk, xA, xc, xl⟩ := x
        simp only [Sc.v1, Sc.k] at hc0 hc1
        go_wp2_with fail
        refine (IH.out _ (.mk xk xA xc xl) wr HN.out hxin).mono ?_
        rintro e w' ⟨rfl, hb2⟩
        have hbox2 := (hb2.cell (p := ⟨w.heap.size, 1, none⟩) hsz).trans hbox
        have hd := deepT_le n (Sc.mk xk xA xc xl).er
        go_wp2_with fail
        go_roundw
        case rel => exact ⟨k + 1, max m (deepT n (Sc.mk xk xA xc xl).er), by omega, by go_num, by go_num, by omega, by show _ = _; rw [dmax_succ HX.out, ← h0.out], hbw.trans (hb2.mono hbw.size), hbox2, Nat.lt_of_lt_of_le hsz hb2.size⟩
        case measure => simp [intOf]; omega
      · go_wp2_with fail
        go_ret
        exact ⟨ret_int (by rw [← dmax_all (k := k) (by omega), ← h0.out]; rfl), hbw⟩
end Go.Proofs.Ytohmgidmfabimaa
