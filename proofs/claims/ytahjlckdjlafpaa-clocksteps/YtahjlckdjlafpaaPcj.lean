/- A slice of ticks that came in, opened. No condition. -/
import Derived.Test.YtahjlckdjlafpaaTck
import Derived.Deep.SlicePairs
import Derived.ProofKit
import Derived.OpenShut
import Derived.ChangeOld
namespace Go.Proofs.Ytahjlckdjlafpaa
open Go.ChangeShapes Go.WideShapes Go.ChangeAt Go.RowKit Go.Deep

theorem Try.own : ownKnob Try.prog.godebug = none := by kernel_rfl
theorem Try.laidOut : laidOutB Try.prog = true := by kernel_rfl
theorem Try.cellsInt : Try.prog.cellsOf 3 = 1 := by kernel_rfl
theorem Try.cellsU64 : Try.prog.cellsOf 26 = 1 := by kernel_rfl
theorem Try.cellsTick : Try.prog.cellsOf 35 = 2 := by kernel_rfl

instance : Inhabited Tk := ⟨⟨0, 0⟩⟩

theorem u64_wf {n : Int} (h : (Lit.int .u64 n).wf = true) : 0 ≤ n ∧ n ≤ 18446744073709551615 := by
  simp [Lit.wf] at h
  have e1 : IntKind.u64.min = 0 := by decide
  have e2 : IntKind.u64.max = 18446744073709551615 := by decide
  omega

theorem open_ticks {H : Type} {enc : TypeId × Value → H} {W : World} {a0 : Option Addr} {len0 cap0 : Nat} {d0 : DataW H} {p0 : List MemPlace}
    (h0 : DataW.Trod enc Try.prog W 0 (fun _ => true) true 22 (.slice a0 len0 cap0) d0 p0) : ∃ l : List Tk, l.length = len0 ∧ In W a0 cap0 l := by
  obtain ⟨fuel, hf⟩ := h0
  rcases open_slice_pairs Try.underlying22 Try.underlying35 Try.cellsTick rfl rfl Try.cellsInt Try.cellsU64 hf with ⟨h1, h2⟩ | ⟨a, len, cap, mm, n, V0, V1, D0, D1, P0, P1, h1, hb, hl, hcm, hmm, h2, hx⟩
  · simp [Value.cells] at h1
    obtain ⟨rfl, rfl, rfl⟩ := h1
    exact ⟨[], rfl, In.nil W⟩
  · simp [Value.cells] at h1
    obtain ⟨rfl, rfl, rfl⟩ := h1
    rw [if_pos rfl] at hmm
    subst hmm
    have each : ∀ i, i < len0 → ∃ t : Tk, V0 i = .int .i64 t.k ∧ V1 i = .int .u64 t.n ∧ 0 ≤ t.n ∧ t.n ≤ 18446744073709551615 := by
      intro i hi
      obtain ⟨-, -, t0, t1⟩ := hx i (by omega)
      obtain ⟨k, hk, -, -⟩ := DataW.trod_int Try.underlying3 t0
      obtain ⟨m, hm, -, hw⟩ := DataW.trod_int Try.underlying26 t1
      exact ⟨⟨k, m⟩, by simpa using hk, by simpa using hm, u64_wf hw⟩
    obtain ⟨f, hg⟩ := choose_lt each
    refine ⟨(List.range len0).map f, by simp, ?_, by simpa using hl, hcm, ?_⟩
    · by_cases h0 : len0 = 0
      · subst h0; exact .inl rfl
      · obtain ⟨b, off, spot⟩ := a
        have hc0 := (hx 0 (by omega)).1
        have hspot : spot = none := by simpa [Addr.add] using World.cell?_spot hc0
        subst hspot
        have hblt : b < W.heap.size := World.block_lt_of_cell? W _ (by simpa [Addr.add] using hc0)
        refine .inr ⟨b, off, rfl, hblt, fun i x hx' => ?_⟩
        rw [List.getElem?_map] at hx'
        have hi : i < len0 := by
          rcases Nat.lt_or_ge i len0 with h | h
          · exact h
          · rw [List.getElem?_eq_none (by simpa using h)] at hx'; cases hx'
        rw [List.getElem?_range hi] at hx'
        have hxe : f i = x := by simpa using hx'
        obtain ⟨g0, g1, -, -⟩ := hx i (by omega)
        rw [Addr.add_lit] at g0 g1
        obtain ⟨e0, e1, -⟩ := hg i hi
        rw [← hxe, ← e0, ← e1]
        exact ⟨g0, by rw [Nat.add_assoc]; exact g1⟩
    · intro x hx'
      obtain ⟨i, hi, rfl⟩ := List.mem_map.1 hx'
      exact (hg i (List.mem_range.1 hi)).2.2
end Go.Proofs.Ytahjlckdjlafpaa
