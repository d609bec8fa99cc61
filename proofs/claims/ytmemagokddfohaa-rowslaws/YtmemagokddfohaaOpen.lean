/- A slice of strings that came in, opened. No condition. -/
import Derived.Test.YtmemagokddfohaaWords
import Derived.Test.YtmemagokddfohaaRows
import Derived.ProofKit
import Derived.OpenShut
import Derived.ShutString
import Derived.ChangeOld
namespace Go.Proofs.Ytmemagokddfohaa
open Go.ChangeShapes Go.WideShapes Go.ChangeAt Go.RowKit
open Go.ChangeMaps (open_string shut_string)

theorem Try.own : ownKnob Try.prog.godebug = none := by kernel_rfl
theorem Try.laidOut : laidOutB Try.prog = true := by kernel_rfl

theorem open_strs {H : Type} {enc : TypeId × Value → H} {W : World} {sp : Nat → Bool} {hd : Bool} {a0 : Option Addr} {len0 cap0 : Nat} {d0 : DataW H} {p0 : List MemPlace}
    (h0 : DataW.Trod enc Try.prog W 0 sp hd 22 (.slice a0 len0 cap0) d0 p0) : ∃ xs : List Str, xs.length = len0 ∧ len0 ≤ cap0 ∧ cap0 ≤ maxLen ∧ Lies W a0 xs := by
  obtain ⟨fuel, hf⟩ := h0
  rcases open_strings Try.underlying22 Try.underlying9 (by kernel_rfl) hf with ⟨hcs, _⟩ | ⟨x, l, c, ss, hcs, _, hl, hm, hz, _, hcell, hws⟩
  · simp [Value.cells] at hcs
    obtain ⟨rfl, rfl, rfl⟩ := hcs
    exact ⟨[], rfl, Nat.le_refl _, Nat.zero_le _, .inl rfl⟩
  · simp [Value.cells] at hcs
    obtain ⟨rfl, rfl, rfl⟩ := hcs
    have hlen : len0 ≤ ss.length := by
      rw [hz]
      split
      · exact hl
      · exact Nat.le_refl _
    refine ⟨(ss.take len0).map fun s => s.data.toList, by simp; omega, hl, hm, ?_⟩
    by_cases hpos : len0 = 0
    · subst hpos
      exact .inl (by simp)
    · obtain ⟨b, off, spot⟩ := x
      have hspot : spot = none := by simpa [Addr.add] using World.cell?_spot (hcell 0 (by omega))
      subst hspot
      have hb : b < W.heap.size := World.block_lt_of_cell? W _ (by simpa [Addr.add] using hcell 0 (by omega))
      refine .inr ⟨b, off, rfl, hb, fun i y hy => ?_⟩
      rw [List.getElem?_map] at hy
      cases hs : (ss.take len0)[i]? with
      | none => rw [hs] at hy; cases hy
      | some t =>
        rw [hs] at hy
        have hy' : t.data.toList = y := by simpa using hy
        have hi : i < len0 ∧ ss[i]? = some t := by
          rw [List.getElem?_take] at hs
          split at hs
          · exact ⟨‹_›, hs⟩
          · cases hs
        have hc := hcell i (by omega)
        rw [Addr.add_lit] at hc
        rw [hc, ← hy']
        simp [List.getD, hi.2, S]
end Go.Proofs.Ytmemagokddfohaa
