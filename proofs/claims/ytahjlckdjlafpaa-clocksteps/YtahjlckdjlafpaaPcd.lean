/- What clock.found and clock.Of do. No condition but that the ticks lie in memory and rise, at most 1000. -/
import Derived.Test.YtahjlckdjlafpaaPcc
namespace Go.Proofs.Ytahjlckdjlafpaa
open Go.RowKit

@[go_sem] theorem run_field_n (k n : Int) (w : World) : (Instr.field 35 (.agg #[.int .i64 k, .int .u64 n]) 1).run Try.prog w = .ok (.int .u64 n) w := by
  have h := run_underlying (P := Try.prog) (w := w) Try.underlying35
  have h2 := run_underlying (P := Try.prog) (w := w) Try.underlying26
  simp [Instr.field, h, h2, part, asAgg, isAgg]

/-- A call that answers a tick whose number is n. -/
def RetFn (w : World) (n : Int) (e : Ending) (w' : World) : Prop := ∃ k : Int, e = .returned (.agg #[.int .i64 k, .int .u64 n]) ∧ Below w.heap.size w w'

set_option maxRecDepth 100000 in
set_option maxHeartbeats 1000000 in
theorem found_any (A : Option Addr) (c : Nat) (l : List Tk) (q : Int) (w : World) (h : In w A c l) (ha : Asc l) (hlen : l.length ≤ 1000) :
    Calls Try.prog 23 #[.slice A l.length c, .agg #[.int .i64 q, .int .u64 0], .func (.func 19) #[] #[]] w (RetFn w (ofC l q)) := by
  have HB0 : Hid (Below w.heap.size w (((w.alloc (.cells #[.int .i64 q, .int .u64 0] 35)).alloc (.cells #[.int .i64 0, .int .u64 0] 35)).alloc (.cells #[.int .i64 0, .int .u64 0] 35))) := belAl (belAl (belAl (Below.refl _ _)))
  have HA := Lib.hid (h.later HB0.out)
  have HS := Lib.hid ha
  clear h ha
  go_enter Try.func23, Try.ntmps23
  go_wp2_with fail
  refine (search_any A c l q 0 _ HA.out HS.out hlen).mono ?_
  rintro e w4 ⟨m, p, rfl, hy, hn, hb2⟩
  have HB4 : Hid (Below w.heap.size w w4) := HB0.out.trans (hb2.mono HB0.out.size)
  have hq0 : w4.cell? ⟨w.heap.size + 1, 0, none⟩ = some (.int .i64 0) := (hb2.cell (p := ⟨w.heap.size + 1, 0, none⟩) (by simp)).trans (by go_simp)
  have hq1 : w4.cell? ⟨w.heap.size + 1, 1, none⟩ = some (.int .u64 0) := (hb2.cell (p := ⟨w.heap.size + 1, 1, none⟩) (by simp)).trans (by go_simp)
  have hp0 : w4.cell? ⟨w.heap.size + 1 + 1, 0, none⟩ = some (.int .i64 0) := (hb2.cell (p := ⟨w.heap.size + 1 + 1, 0, none⟩) (by simp)).trans (by go_simp)
  have hp1 : w4.cell? ⟨w.heap.size + 1 + 1, 1, none⟩ = some (.int .u64 0) := (hb2.cell (p := ⟨w.heap.size + 1 + 1, 1, none⟩) (by simp)).trans (by go_simp)
  have hf0 : w4.frozen? ⟨w.heap.size + 1, 0, none⟩ = false := (hb2.frozen (p := ⟨w.heap.size + 1, 0, none⟩) (by simp)).trans (by go_simp)
  have hf1 : w4.frozen? ⟨w.heap.size + 1, 1, none⟩ = false := (hb2.frozen (p := ⟨w.heap.size + 1, 1, none⟩) (by simp)).trans (by go_simp)
  have hs4 : w.heap.size + 1 < w4.heap.size := Nat.lt_of_lt_of_le (by simp) hb2.size
  cases p with
  | true =>
    obtain ⟨x, hx, he⟩ := hy rfl
    have HV : Hid (ofC l q = x.n) := by show ofC l q = x.n; rw [← he]; exact ofC_mem HS.out (List.mem_of_getElem? hx)
    have hm : m < l.length := (List.getElem?_eq_some_iff.1 hx).1
    have hin4 := HA.out.later hb2
    obtain ⟨b, off, rfl, hb, hc⟩ := hin4.lies.get hm
    obtain ⟨hc0, hc1⟩ := hc m x hx
    obtain ⟨xk, xn⟩ := x
    dsimp only at hc0 hc1 HV
    clear hx he hy hn hc hin4 hb2 HA HB0
    go_wp2_with fail
    refine bodyPost_ret (results_cellT rfl _ _ (w.heap.size + 1) (.int .i64 xk) (.int .u64 xn) rfl (by go_simp) (by go_simp)) rfl ?_
    exact ⟨xk, by rw [HV.out], (HB4.out.setCell (by simp) _).setCell (by simp) _⟩
  | false =>
    have HV : Hid (ofC l q = 0) := ofC_none (hn rfl)
    clear hy hn hb2 HA HB0
    go_wp2_with fail
    refine bodyPost_ret (results_cellT rfl _ _ (w.heap.size + 1) (.int .i64 0) (.int .u64 0) rfl (by go_simp) (by go_simp)) rfl ?_
    exact ⟨0, by rw [HV.out], (HB4.out.setCell (by simp) _).setCell (by simp) _⟩

set_option maxHeartbeats 400000 in
theorem Of_any (A : Option Addr) (c : Nat) (l : List Tk) (q : Int) (w : World) (h : In w A c l) (ha : Asc l) (hlen : l.length ≤ 1000) :
    Calls Try.prog 10 #[.slice A l.length c, .int .i64 q] w (RetV w (.int .u64 (ofC l q))) := by
  have HA := Lib.hid h
  have HS := Lib.hid ha
  clear h ha
  go_enter Try.func10, Try.ntmps10
  go_wp2_with fail
  refine (found_any A c l q w HA.out HS.out hlen).mono ?_
  rintro e w' ⟨k, rfl, hb⟩
  go_wp2_with fail
  go_ret
  exact ⟨rfl, hb⟩
end Go.Proofs.Ytahjlckdjlafpaa
