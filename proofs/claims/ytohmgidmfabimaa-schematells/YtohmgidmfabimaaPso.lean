/- A schema that came in, opened. No condition. -/
import Derived.Test.YtohmgidmfabimaaSch
import Derived.Deep.SlicePairs
import Derived.ProofKit
import Derived.SizedLaws
import Derived.OpenShut
import Derived.ChangeOld
namespace Go.Proofs.Ytohmgidmfabimaa
open Go.ChangeShapes Go.WideShapes Go.ChangeAt Go.RowKit Go.Deep

theorem Try.own : ownKnob Try.prog.godebug = none := by kernel_rfl
theorem Try.laidOut : laidOutB Try.prog = true := by kernel_rfl
theorem Try.cellsInt : Try.prog.cellsOf 3 = 1 := by kernel_rfl
theorem Try.cellsSl : Try.prog.cellsOf 22 = 1 := by kernel_rfl
theorem Try.cellsSch : Try.prog.cellsOf 24 = 2 := by kernel_rfl
theorem Try.bytesSch : Try.prog.bytesOf 24 = 32 := by kernel_rfl

instance : Inhabited Sc := ⟨.mk 0 none 0 []⟩

theorem weightsAll_mem {H : Type} {P : Program} {e : TypeId} {d : DataW H} {n : Nat} : ∀ {ds : List (DataW H)}, d ∈ ds → n ∈ d.weights P e → n ∈ DataW.weightsAll P e ds
  | x :: ds, h, hn => by
    rw [DataW.weightsAll, List.mem_append]
    rcases List.mem_cons.1 h with rfl | h
    · exact .inl hn
    · exact .inr (weightsAll_mem h hn)

section
variable {H : Type} {enc : TypeId × Value → H} {W : World}

theorem open_schL (m : Nat) : ∀ (d : DataW H) (fuel : Nat) (v : Value) (ps : List MemPlace), SizeOf.sizeOf d ≤ m → DataW.trod enc Try.prog W 0 (fun _ => true) true fuel 22 [v] = some (d, ps) →
    (∀ n ∈ d.weights Try.prog 22, n ≤ reachBytes) → ∃ A c l, v = .slice A l.length c ∧ ∀ k, (Sc.mk k A c l).In W.heap.size W := by
  induction m with
  | zero =>
    intro d fuel v ps hm
    cases d <;> simp at hm
  | succ m ih =>
    intro d fuel v ps hm h hw
    rcases open_slice_pairs Try.underlying22 Try.underlying24 Try.cellsSch rfl rfl Try.cellsInt Try.cellsSl h with ⟨h1, h2⟩ | ⟨a, len, cap, mm, n, V0, V1, D0, D1, P0, P1, h1, hb, hl, hcm, hmm, h2, hx⟩
    · cases h1
      exact ⟨none, 0, [], rfl, fun k => .mk _ _ _ _ LiesP.nil (by simp) (by simp) (by simp) (by simp)⟩
    · cases h1
      rw [if_pos rfl] at hmm
      subst hmm
      have hd : d = .slice ((List.range len).map fun i => .agg [D0 i, D1 i]) ((List.range (mm - len)).map fun j => .agg [D0 (len + j), D1 (len + j)]) := (Prod.mk.inj h2).1
      have hel : ∀ i, i < len → (DataW.agg [D0 i, D1 i]) ∈ (List.range len).map fun i => (DataW.agg [D0 i, D1 i] : DataW H) := fun i hi => List.mem_map.2 ⟨i, List.mem_range.2 hi, rfl⟩
      have hsz : len * 32 ≤ 140737488351232 := by
        have := hw ((len + (mm - len)) * 32) (by rw [hd, DataW.weights, Try.underlying22]; simp [Try.bytesSch])
        unfold reachBytes at this
        omega
      have each : ∀ i, i < len → ∃ s : Sc, V0 i = .int .i64 s.k ∧ V1 i = s.v1 ∧ s.In W.heap.size W := by
        intro i hi
        obtain ⟨-, -, t0, t1⟩ := hx i (by omega)
        obtain ⟨k, hk, -, -⟩ := DataW.trod_int Try.underlying3 t0
        have hlt : SizeOf.sizeOf (D1 i) ≤ m := by
          have h3 := List.sizeOf_lt_of_mem (hel i hi)
          have h4 : SizeOf.sizeOf (D1 i) < SizeOf.sizeOf (DataW.agg [D0 i, D1 i]) := by simp; omega
          have h5 : SizeOf.sizeOf ((List.range len).map fun i => (DataW.agg [D0 i, D1 i] : DataW H)) < SizeOf.sizeOf d := by rw [hd]; simp; omega
          omega
        obtain ⟨A, c, l, hv, hin⟩ := ih (D1 i) n (V1 i) (P1 i) hlt t1 (fun q hq => hw q (by
          rw [hd, DataW.weights, Try.underlying22]
          refine List.mem_cons_of_mem _ (List.mem_append.2 (.inl (weightsAll_mem (hel i hi) ?_)))
          rw [DataW.weights, Try.underlying24]
          simp [DataW.weightsEach, hq]))
        exact ⟨.mk k A c l, by simpa [Sc.k] using hk, hv, hin k⟩
      obtain ⟨f, hf⟩ := choose_lt each
      refine ⟨some a, mm, (List.range len).map f, by simp, fun k => ?_⟩
      refine .mk _ _ _ _ ?_ (by simpa using hl) (by unfold maxLen at hcm; omega) (by simpa using hsz) ?_
      · by_cases h0 : len = 0
        · subst h0; exact .inl rfl
        · obtain ⟨b, off, spot⟩ := a
          have hc0 := (hx 0 (by omega)).1
          have hspot : spot = none := by simpa [Addr.add] using World.cell?_spot hc0
          subst hspot
          have hblt : b < W.heap.size := World.block_lt_of_cell? W _ (by simpa [Addr.add] using hc0)
          refine .inr ⟨b, off, rfl, hblt, fun i x hx' => ?_⟩
          rw [List.getElem?_map] at hx'
          have hi : i < len := by
            rcases Nat.lt_or_ge i len with h | h
            · exact h
            · rw [List.getElem?_eq_none (by simpa using h)] at hx'; cases hx'
          rw [List.getElem?_range hi] at hx'
          have hxe : f i = x := by simpa using hx'
          obtain ⟨g0, g1, -, -⟩ := hx i (by omega)
          rw [Addr.add_lit] at g0 g1
          obtain ⟨e0, e1, -⟩ := hf i hi
          rw [← hxe, ← e0, ← e1]
          exact ⟨g0, by rw [Nat.add_assoc]; exact g1⟩
      · intro x hx'
        obtain ⟨i, hi, rfl⟩ := List.mem_map.1 hx'
        exact (hf i (List.mem_range.1 hi)).2.2

theorem open_sch {base : Nat} {v : Value} {d : DataW H} {ps : List MemPlace} (hok : Value.okWide Try.prog W .any base 24 v) (h : DataW.Trod enc Try.prog W 0 (fun _ => true) true 24 v d ps)
    (hw : ∀ n ∈ d.weights Try.prog 24, n ≤ reachBytes) : ∃ s : Sc, v = s.val ∧ s.In W.heap.size W := by
  obtain ⟨cs, rfl, hcs⟩ := okWide_struct Try.underlying24 hok
  rw [Try.cellsSch] at hcs
  obtain ⟨fuel, hf⟩ := h
  obtain ⟨xs, n, -, hx, -, hxl, hfs⟩ := DataW.trod_struct Try.underlying24 hf
  obtain ⟨cl⟩ := cs
  match cl, hcs, xs, hxl with
  | [v0, v1], _, [y0, y1], _ =>
    have g0 := hfs 0 _ rfl
    have g1 := hfs 1 _ rfl
    simp [Try.cellsInt, Try.cellsSl, Value.cells] at g0 g1
    obtain ⟨k, hk, -, -⟩ := DataW.trod_int Try.underlying3 g0
    have hd : d = .agg [y0.1, y1.1] := by simpa using (Prod.mk.inj hx).1
    obtain ⟨A, c, l, hv, hin⟩ := open_schL (SizeOf.sizeOf y1.1) y1.1 n v1 y1.2 (Nat.le_refl _) g1 (fun q hq => hw q (by
      rw [hd, DataW.weights, Try.underlying24]
      simp [DataW.weightsEach, hq]))
    have hk' : v0 = .int .i64 k := by simpa using hk
    exact ⟨.mk k A c l, by rw [hk', hv]; rfl, hin k⟩
end
end Go.Proofs.Ytohmgidmfabimaa
