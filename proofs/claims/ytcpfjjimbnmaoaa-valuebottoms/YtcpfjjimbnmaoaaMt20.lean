/- ValueBottomsSaid is proved: at every input the law returns true, and each argument reads afterwards as it read before. No condition. A value that came in, opened. No condition. Rows of whatever that came in, opened; schemas and values among them. No condition. A schema that came in, opened. No condition. -/
import Derived.Test.YtcpfjjimbnmaoaaMt02
import Derived.Deep.SlicePairs
import Derived.ProofKit
import Derived.SizedLaws
import Derived.OpenShut
import Derived.ChangeOld
import Derived.Deep.Slices
import Derived.Test.YtcpfjjimbnmaoaaMt19
namespace Go.Proofs.Ytcpfjjimbnmaoaa.S2
open Go.ChangeShapes Go.WideShapes Go.ChangeAt Go.RowKit Go.Deep

theorem Try.own : ownKnob Try.prog.godebug = none := by kernel_rfl
theorem Try.laidOut : laidOutB Try.prog = true := by kernel_rfl
theorem Try.cellsInt : Try.prog.cellsOf 3 = 1 := by kernel_rfl
theorem Try.cellsSl : Try.prog.cellsOf 22 = 1 := by kernel_rfl
theorem Try.cellsSch : Try.prog.cellsOf 24 = 2 := by kernel_rfl
theorem Try.bytesSch : Try.prog.bytesOf 24 = 32 := by kernel_rfl

instance : Inhabited Sc := ⟨.mk 0 none 0 []⟩

theorem weightsAll_mem {H : Type} {P : Program} {e : TypeId} {d : DataW H} {n : Nat} : ∀ {ds : List (DataW H)}, d ∈ ds → n ∈ d.weights P e → n ∈ DataW.weightsAll P e ds
  | x :: ds, h, hn => by
    rw [DataW.weightsAll, List.mem_append]
    rcases List.mem_cons.1 h with rfl | h
    · exact .inl hn
    · exact .inr (weightsAll_mem h hn)

section
variable {H : Type} {enc : TypeId × Value → H} {W : World}

theorem open_schL (m : Nat) : ∀ (d : DataW H) (fuel : Nat) (v : Value) (ps : List MemPlace), SizeOf.sizeOf d ≤ m → DataW.trod enc Try.prog W 0 (fun _ => true) true fuel 22 [v] = some (d, ps) →
    (∀ n ∈ d.weights Try.prog 22, n ≤ reachBytes) → ∃ A c l, v = .slice A l.length c ∧ ∀ k, (Sc.mk k A c l).In W.heap.size W := by
  induction m with
  | zero =>
    intro d fuel v ps hm
    cases d <;> simp at hm
  | succ m ih =>
    intro d fuel v ps hm h hw
    rcases open_slice_pairs Try.underlying22 Try.underlying24 Try.cellsSch rfl rfl Try.cellsInt Try.cellsSl h with ⟨h1, h2⟩ | ⟨a, len, cap, mm, n, V0, V1, D0, D1, P0, P1, h1, hb, hl, hcm, hmm, h2, hx⟩
    · cases h1
      exact ⟨none, 0, [], rfl, fun k => .mk _ _ _ _ LiesP.nil (by simp) (by simp) (by simp) (by simp)⟩
    · cases h1
      rw [if_pos rfl] at hmm
      subst hmm
      have hd : d = .slice ((List.range len).map fun i => .agg [D0 i, D1 i]) ((List.range (mm - len)).map fun j => .agg [D0 (len + j), D1 (len + j)]) := (Prod.mk.inj h2).1
      have hel : ∀ i, i < len → (DataW.agg [D0 i, D1 i]) ∈ (List.range len).map fun i => (DataW.agg [D0 i, D1 i] : DataW H) := fun i hi => List.mem_map.2 ⟨i, List.mem_range.2 hi, rfl⟩
      have hsz : len * 32 ≤ 140737488351232 := by
        have := hw ((len + (mm - len)) * 32) (by rw [hd, DataW.weights, Try.underlying22]; simp [Try.bytesSch])
        unfold reachBytes at this
        omega
      have each : ∀ i, i < len → ∃ s : Sc, V0 i = .int .i64 s.k ∧ V1 i = s.v1 ∧ s.In W.heap.size W := by
        intro i hi
        obtain ⟨-, -, t0, t1⟩ := hx i (by omega)
        obtain ⟨k, hk, -, -⟩ := DataW.trod_int Try.underlying3 t0
        have hlt : SizeOf.sizeOf (D1 i) ≤ m := by
          have h3 := List.sizeOf_lt_of_mem (hel i hi)
          have h4 : SizeOf.sizeOf (D1 i) < SizeOf.sizeOf (DataW.agg [D0 i, D1 i]) := by simp; omega
          have h5 : SizeOf.sizeOf ((List.range len).map fun i => (DataW.agg [D0 i, D1 i] : DataW H)) < SizeOf.sizeOf d := by rw [hd]; simp; omega
          omega
        obtain ⟨A, c, l, hv, hin⟩ := ih (D1 i) n (V1 i) (P1 i) hlt t1 (fun q hq => hw q (by
          rw [hd, DataW.weights, Try.underlying22]
          refine List.mem_cons_of_mem _ (List.mem_append.2 (.inl (weightsAll_mem (hel i hi) ?_)))
          rw [DataW.weights, Try.underlying24]
          simp [DataW.weightsEach, hq]))
        exact ⟨.mk k A c l, by simpa [Sc.k] using hk, hv, hin k⟩
      obtain ⟨f, hf⟩ := choose_lt each
      refine ⟨some a, mm, (List.range len).map f, by simp, fun k => ?_⟩
      refine .mk _ _ _ _ ?_ (by simpa using hl) (by unfold maxLen at hcm; omega) (by simpa using hsz) ?_
      · by_cases h0 : len = 0
        · subst h0; exact .inl rfl
        · obtain ⟨b, off, spot⟩ := a
          have hc0 := (hx 0 (by omega)).1
          have hspot : spot = none := by simpa [Addr.add] using World.cell?_spot hc0
          subst hspot
          have hblt : b < W.heap.size := World.block_lt_of_cell? W _ (by simpa [Addr.add] using hc0)
          refine .inr ⟨b, off, rfl, hblt, fun i x hx' => ?_⟩
          rw [List.getElem?_map] at hx'
          have hi : i < len := by
            rcases Nat.lt_or_ge i len with h | h
            · exact h
            · rw [List.getElem?_eq_none (by simpa using h)] at hx'; cases hx'
          rw [List.getElem?_range hi] at hx'
          have hxe : f i = x := by simpa using hx'
          obtain ⟨g0, g1, -, -⟩ := hx i (by omega)
          rw [Addr.add_lit] at g0 g1
          obtain ⟨e0, e1, -⟩ := hf i hi
          rw [← hxe, ← e0, ← e1]
          exact ⟨g0, by rw [Nat.add_assoc]; exact g1⟩
      · intro x hx'
        obtain ⟨i, hi, rfl⟩ := List.mem_map.1 hx'
        exact (hf i (List.mem_range.1 hi)).2.2

set_option maxRecDepth 100000 in
theorem open_sch {base : Nat} {v : Value} {d : DataW H} {ps : List MemPlace} (hok : Value.okWide Try.prog W .any base 24 v) (h : DataW.Trod enc Try.prog W 0 (fun _ => true) true 24 v d ps)
    (hw : ∀ n ∈ d.weights Try.prog 24, n ≤ reachBytes) : ∃ s : Sc, v = s.val ∧ s.In W.heap.size W := by
  obtain ⟨cs, rfl, hcs⟩ := okWide_struct Try.underlying24 hok
  rw [Try.cellsSch] at hcs
  obtain ⟨fuel, hf⟩ := h
  obtain ⟨xs, n, -, hx, -, hxl, hfs⟩ := DataW.trod_struct Try.underlying24 hf
  obtain ⟨cl⟩ := cs
  match cl, hcs, xs, hxl with
  | [v0, v1], _, [y0, y1], _ =>
    have g0 := hfs 0 _ rfl
    have g1 := hfs 1 _ rfl
    simp [Try.cellsInt, Try.cellsSl, Value.cells] at g0 g1
    obtain ⟨k, hk, -, -⟩ := DataW.trod_int Try.underlying3 g0
    have hd : d = .agg [y0.1, y1.1] := by simpa using (Prod.mk.inj hx).1
    obtain ⟨A, c, l, hv, hin⟩ := open_schL (SizeOf.sizeOf y1.1) y1.1 n v1 y1.2 (Nat.le_refl _) g1 (fun q hq => hw q (by
      rw [hd, DataW.weights, Try.underlying24]
      simp [DataW.weightsEach, hq]))
    have hk' : v0 = .int .i64 k := by simpa using hk
    exact ⟨.mk k A c l, by rw [hk', hv]; rfl, hin k⟩
end
end Go.Proofs.Ytcpfjjimbnmaoaa.S2

namespace Go.Proofs.Ytcpfjjimbnmaoaa.V4
open Go.ChangeShapes Go.WideShapes Go.ChangeAt Go.RowKit Go.Deep
open C3 (Tk Nok)

theorem flatMap_at {α β : Type} {f : α → List β} {k : Nat} (hk : ∀ x, (f x).length = k) (h0 : 0 < k) : ∀ {l : List α} {p : Nat} {u : β}, (l.flatMap f)[p]? = some u → ∃ x, l[p / k]? = some x ∧ (f x)[p % k]? = some u
  | [], p, u, h => by simp at h
  | x :: l, p, u, h => by
    rw [List.flatMap_cons] at h
    by_cases hp : p < k
    · rw [List.getElem?_append_left (by rw [hk]; exact hp)] at h
      refine ⟨x, ?_, by rw [Nat.mod_eq_of_lt hp]; exact h⟩
      rw [Nat.div_eq_of_lt hp]
      rfl
    · rw [List.getElem?_append_right (by rw [hk]; omega), hk] at h
      obtain ⟨y, h1, h2⟩ := flatMap_at hk h0 h
      have e1 : p / k = (p - k) / k + 1 := by rw [Nat.div_eq_sub_div h0 (by omega)]
      have e2 : p % k = (p - k) % k := by rw [Nat.mod_eq_sub_mod (by omega)]
      exact ⟨y, by rw [e1]; simpa using h1, by rw [e2]; exact h2⟩

theorem wAll_mem {H : Type} {P : Program} {e : TypeId} {d : DataW H} {n : Nat} : ∀ {ds : List (DataW H)}, d ∈ ds → n ∈ d.weights P e → n ∈ DataW.weightsAll P e ds
  | x :: ds, h, hn => by
    rw [DataW.weightsAll, List.mem_append]
    rcases List.mem_cons.1 h with rfl | h
    · exact .inl hn
    · exact .inr (wAll_mem h hn)

section
variable {H : Type} {enc : TypeId × Value → H} {W : World}

set_option maxRecDepth 100000 in
/-- A slice that came in: what lies in it, one by one. -/
theorem open_row {α : Type} [Inhabited α] {t e : TypeId} (k bytes : Nat) (f : α → List Value) (hk : ∀ x, (f x).length = k) (h0 : 0 < k) (ht : Try.prog.underlying t = some (.slice e)) (hc : Try.prog.cellsOf e = k) (hby : Try.prog.bytesOf e = bytes) (Q : α → Prop)
    {d : DataW H} {fuel : Nat} {v : Value} {ps : List MemPlace} (h : DataW.trod enc Try.prog W 0 (fun _ => true) true fuel t [v] = some (d, ps)) (hw : ∀ n ∈ d.weights Try.prog t, n ≤ reachBytes)
    (each : ∀ (dd : DataW H) (fuel' : Nat) (cs' : List Value) (ps' : List MemPlace), SizeOf.sizeOf dd < SizeOf.sizeOf d → cs'.length = k → DataW.trod enc Try.prog W 0 (fun _ => true) true fuel' e cs' = some (dd, ps') → (∀ n ∈ dd.weights Try.prog e, n ≤ reachBytes) → ∃ x : α, cs' = f x ∧ Q x) :
    ∃ (A : Option Addr) (c : Nat) (l : List α), v = .slice A l.length c ∧ LiesC (fun b => b < W.heap.size) W A (l.flatMap f) ∧ (l.length ≤ c ∧ c ≤ maxLen ∧ l.length * bytes ≤ 140737488351232) ∧ ∀ x ∈ l, Q x := by
  rcases open_slice ht h with ⟨h1, _⟩ | ⟨a, len, cap, mm, n, D, Pl, h1, hb, hl, hcm, hmm, h2, hx⟩
  · cases h1
    exact ⟨none, 0, [], rfl, .inl rfl, ⟨by simp, by simp [maxLen], by simp⟩, by simp⟩
  · cases h1
    rw [if_pos rfl] at hmm
    subst hmm
    have hd : d = .slice ((List.range len).map D) ((List.range (mm - len)).map fun j => D (len + j)) := (Prod.mk.inj h2).1
    have hel : ∀ i, i < len → D i ∈ (List.range len).map D := fun i hi => List.mem_map.2 ⟨i, List.mem_range.2 hi, rfl⟩
    have hsz : len * bytes ≤ 140737488351232 := by
      have := hw ((len + (mm - len)) * bytes) (by rw [hd, DataW.weights, ht]; simp [hby])
      unfold reachBytes at this
      have h3 : len * bytes ≤ (len + (mm - len)) * bytes := Nat.mul_le_mul_right _ (by omega)
      omega
    have all : ∀ i, i < len → ∃ x : α, W.cells? 0 (a.add (i * k)) k = some (f x) ∧ Q x := by
      intro i hi
      obtain ⟨cs', hcc, htr⟩ := hx i (by omega)
      rw [hc] at hcc
      obtain ⟨x, rfl, hq⟩ := each (D i) n cs' (Pl i) (by
        have h3 := List.sizeOf_lt_of_mem (hel i hi)
        rw [hd]
        simp
        omega) (World.cells?_some hcc).2.1 htr (fun q hq => hw q (by
          rw [hd, DataW.weights, ht]
          exact List.mem_cons_of_mem _ (List.mem_append.2 (.inl (wAll_mem (hel i hi) hq)))))
      exact ⟨x, hcc, hq⟩
    obtain ⟨g, hg⟩ := choose_lt all
    refine ⟨some a, mm, (List.range len).map g, by simp, ?_, ⟨by simpa using hl, hcm, by simpa using hsz⟩, ?_⟩
    · by_cases hz : len = 0
      · subst hz; exact .inl rfl
      · have hone : ∀ i, i < len → ∀ j u, (f (g i))[j]? = some u → W.cell? ((a.add (i * k)).add j) = some u := by
          intro i hi j u hu
          have hjl : j < k := by rw [← hk (g i)]; exact (List.getElem?_eq_some_iff.1 hu).1
          rw [(World.cells?_some (hg i hi).1).2.2 j hjl, hu]
        obtain ⟨u0, hu0⟩ : ∃ u, (f (g 0))[0]? = some u := ⟨_, List.getElem?_eq_getElem (by rw [hk]; exact h0)⟩
        have hc0 := hone 0 (by omega) 0 u0 hu0
        obtain ⟨b, off, spot⟩ := a
        have hspot : spot = none := by simpa [Addr.add] using World.cell?_spot hc0
        subst hspot
        have hblt : b < W.heap.size := World.block_lt_of_cell? W _ (by simpa [Addr.add] using hc0)
        refine .inr ⟨b, off, rfl, hblt, fun p u hu => ?_⟩
        obtain ⟨x, hx1, hx2⟩ := flatMap_at hk h0 hu
        rw [List.getElem?_map] at hx1
        have hi : p / k < len := by
          rcases Nat.lt_or_ge (p / k) len with h | h
          · exact h
          · rw [List.getElem?_eq_none (by simpa using h)] at hx1; cases hx1
        rw [List.getElem?_range hi] at hx1
        have hxe : g (p / k) = x := by simpa using hx1
        have := hone (p / k) hi (p % k) u (by rw [hxe]; exact hx2)
        rw [Addr.add_lit, Addr.add_lit] at this
        rw [← this]
        congr 2
        have := Nat.div_add_mod p k
        rw [Nat.mul_comm] at this
        omega
    · intro x hx'
      obtain ⟨i, hi, rfl⟩ := List.mem_map.1 hx'
      exact (hg i (List.mem_range.1 hi)).2
end
end Go.Proofs.Ytcpfjjimbnmaoaa.V4

namespace Go.Proofs.Ytcpfjjimbnmaoaa.V4
open Go.ChangeShapes Go.WideShapes Go.ChangeAt Go.RowKit Go.Deep
open C3 (Tk Nok)

theorem Try.own : ownKnob Try.prog.godebug = none := by kernel_rfl
theorem Try.laidOut : laidOutB Try.prog = true := by kernel_rfl
theorem Try.cInt : Try.prog.cellsOf 3 = 1 := by kernel_rfl
theorem Try.cU64 : Try.prog.cellsOf 25 = 1 := by kernel_rfl
theorem Try.cStr : Try.prog.cellsOf 9 = 1 := by kernel_rfl
theorem Try.cTick : Try.prog.cellsOf 39 = 2 := by kernel_rfl
theorem Try.cTicks : Try.prog.cellsOf 40 = 1 := by kernel_rfl
theorem Try.cStrs : Try.prog.cellsOf 26 = 1 := by kernel_rfl
theorem Try.cClocks : Try.prog.cellsOf 27 = 1 := by kernel_rfl
theorem Try.cVals : Try.prog.cellsOf 28 = 1 := by kernel_rfl
theorem Try.cVal : Try.prog.cellsOf 30 = 5 := by kernel_rfl
theorem Try.bStr : Try.prog.bytesOf 9 = 16 := by kernel_rfl
theorem Try.bTick : Try.prog.bytesOf 39 = 16 := by kernel_rfl
theorem Try.bTicks : Try.prog.bytesOf 40 = 24 := by kernel_rfl
theorem Try.bVal : Try.prog.bytesOf 30 = 88 := by kernel_rfl

instance : Inhabited Tk := ⟨⟨0, 0⟩⟩
instance : Inhabited Ck := ⟨⟨none, 0, []⟩⟩
instance : Inhabited Vl := ⟨.mk 0 0 none 0 [] none 0 [] none 0 []⟩

theorem u64_ok {n : Int} (h : (Lit.int .u64 n).wf = true) : 0 ≤ n ∧ n ≤ 18446744073709551615 := by
  simp [Lit.wf] at h
  have e1 : IntKind.u64.min = 0 := by decide
  have e2 : IntKind.u64.max = 18446744073709551615 := by decide
  omega
theorem flatMap_one {α β : Type} (f : α → β) : ∀ l : List α, l.flatMap (fun x => [f x]) = l.map f
  | [] => rfl
  | x :: l => by rw [List.flatMap_cons, flatMap_one f l]; rfl
theorem size_S (x : Str) : (S x).size = x.length := by simp [S, ByteArray.size]

section
variable {H : Type} {enc : TypeId × Value → H} {W : World}

set_option maxRecDepth 100000 in
theorem open_texts {d : DataW H} {fuel : Nat} {v : Value} {ps : List MemPlace} (h : DataW.trod enc Try.prog W 0 (fun _ => true) true fuel 26 [v] = some (d, ps)) (hw : ∀ n ∈ d.weights Try.prog 26, n ≤ reachBytes) :
    ∃ (A : Option Addr) (c : Nat) (l : List Str), v = .slice A l.length c ∧ LiesC (fun b => b < W.heap.size) W A (cellsS l) ∧ (l.length ≤ c ∧ c ≤ maxLen ∧ l.length * 16 ≤ 140737488351232) ∧ ∀ s ∈ l, s.length ≤ maxLen := by
  obtain ⟨A, c, l, h1, h2, h3, h4⟩ := open_row 1 16 (fun s : Str => [Value.string (S s)]) (fun _ => rfl) (by omega) Try.underlying26 Try.cStr Try.bStr (fun s => s.length ≤ maxLen) h hw (by
    intro dd fuel' cs' ps' _ _ htr _
    obtain ⟨s, hs, -, hsz⟩ := DataW.trod_string Try.underlying9 htr
    obtain ⟨x, rfl⟩ := S_of s
    exact ⟨x, hs, by rw [← size_S]; exact hsz⟩)
  refine ⟨A, c, l, h1, ?_, h3, h4⟩
  have e : l.flatMap (fun s : Str => [Value.string (S s)]) = cellsS l := flatMap_one _ l
  rwa [e] at h2

set_option maxRecDepth 100000 in
theorem open_clock {d : DataW H} {fuel : Nat} {v : Value} {ps : List MemPlace} (h : DataW.trod enc Try.prog W 0 (fun _ => true) true fuel 40 [v] = some (d, ps)) (hw : ∀ n ∈ d.weights Try.prog 40, n ≤ reachBytes) :
    ∃ x : Ck, v = x.v ∧ x.Inp (fun b => b < W.heap.size) W := by
  obtain ⟨A, c, l, h1, h2, h3, h4⟩ := open_row 2 16 (fun x : Tk => [Value.int .i64 x.k, Value.int .u64 x.n]) (fun _ => rfl) (by omega) Try.underlying40 Try.cTick Try.bTick (fun x => 0 ≤ x.n ∧ x.n ≤ 18446744073709551615) h hw (by
    intro dd fuel' cs' ps' _ hl htr _
    obtain ⟨xs, n, -, -, -, hxl, hfs⟩ := DataW.trod_struct Try.underlying39 htr
    match cs', hl, xs, hxl with
    | [v0, v1], _, [y0, y1], _ =>
      have g0 := hfs 0 _ rfl
      have g1 := hfs 1 _ rfl
      simp [Try.cInt, Try.cU64] at g0 g1
      obtain ⟨k, hk, -, -⟩ := DataW.trod_int Try.underlying3 g0
      obtain ⟨m, hm, -, hwf⟩ := DataW.trod_int Try.underlying25 g1
      have hk' : v0 = .int .i64 k := by simpa using hk
      have hm' : v1 = .int .u64 m := by simpa using hm
      exact ⟨⟨k, m⟩, by rw [hk', hm'], u64_ok hwf⟩)
  exact ⟨⟨A, c, l⟩, h1, h2, h3.1, h3.2.1, h4, h3.2.2⟩

set_option maxRecDepth 100000 in
theorem open_clocks {d : DataW H} {fuel : Nat} {v : Value} {ps : List MemPlace} (h : DataW.trod enc Try.prog W 0 (fun _ => true) true fuel 27 [v] = some (d, ps)) (hw : ∀ n ∈ d.weights Try.prog 27, n ≤ reachBytes) :
    ∃ (A : Option Addr) (c : Nat) (l : List Ck), v = .slice A l.length c ∧ LiesC (fun b => b < W.heap.size) W A (cellsC l) ∧ (l.length ≤ c ∧ c ≤ maxLen ∧ l.length * 24 ≤ 140737488351232) ∧ ∀ x ∈ l, x.Inp (fun b => b < W.heap.size) W := by
  obtain ⟨A, c, l, h1, h2, h3, h4⟩ := open_row 1 24 (fun x : Ck => [x.v]) (fun _ => rfl) (by omega) Try.underlying27 Try.cTicks Try.bTicks (fun x => x.Inp (fun b => b < W.heap.size) W) h hw (by
    intro dd fuel' cs' ps' _ hl htr hww
    match cs', hl with
    | [v0], _ =>
      obtain ⟨x, hx, hi⟩ := open_clock htr hww
      exact ⟨x, by rw [hx], hi⟩)
  refine ⟨A, c, l, h1, ?_, h3, h4⟩
  have e : l.flatMap (fun x : Ck => [x.v]) = cellsC l := flatMap_one _ l
  rwa [e] at h2

set_option maxRecDepth 100000 in
theorem open_parts (m : Nat) (ih : ∀ (d : DataW H) (fuel : Nat) (v : Value) (ps : List MemPlace), SizeOf.sizeOf d < m → DataW.trod enc Try.prog W 0 (fun _ => true) true fuel 28 [v] = some (d, ps) → (∀ n ∈ d.weights Try.prog 28, n ≤ reachBytes) →
      ∃ (A : Option Addr) (c : Nat) (l : List Vl), v = .slice A l.length c ∧ LiesC (fun b => b < W.heap.size) W A (cellsV l) ∧ (l.length ≤ c ∧ c ≤ maxLen ∧ l.length * 88 ≤ 140737488351232) ∧ ∀ x ∈ l, x.In W)
    {d : DataW H} {fuel : Nat} {cs : List Value} {ps : List MemPlace} (hd : SizeOf.sizeOf d ≤ m) (hl : cs.length = 5) (h : DataW.trod enc Try.prog W 0 (fun _ => true) true fuel 30 cs = some (d, ps)) (hw : ∀ n ∈ d.weights Try.prog 30, n ≤ reachBytes) :
    ∃ x : Vl, cs = [.int .u64 x.n, .int .u64 x.m, x.s1, x.c1, x.v1] ∧ x.In W := by
  obtain ⟨xs, n, -, hx, -, hxl, hfs⟩ := DataW.trod_struct Try.underlying30 h
  match cs, hl, xs, hxl with
  | [v0, v1, v2, v3, v4], _, [y0, y1, y2, y3, y4], _ =>
    have g0 := hfs 0 _ rfl
    have g1 := hfs 1 _ rfl
    have g2 := hfs 2 _ rfl
    have g3 := hfs 3 _ rfl
    have g4 := hfs 4 _ rfl
    simp [Try.cU64, Try.cStrs, Try.cClocks, Try.cVals] at g0 g1 g2 g3 g4
    have hd' : d = .agg [y0.1, y1.1, y2.1, y3.1, y4.1] := by simpa using (Prod.mk.inj hx).1
    have hwi : ∀ q, (q ∈ y2.1.weights Try.prog 26 ∨ q ∈ y3.1.weights Try.prog 27 ∨ q ∈ y4.1.weights Try.prog 28) → q ≤ reachBytes := fun q hq => hw q (by
      rw [hd', DataW.weights, Try.underlying30]
      rcases hq with h | h | h <;> simp [DataW.weightsEach, h])
    obtain ⟨a, ha, -, hwa⟩ := DataW.trod_int Try.underlying25 g0
    obtain ⟨b, hb, -, hwb⟩ := DataW.trod_int Try.underlying25 g1
    obtain ⟨sA, sc, ss, hs, s1, s2, s3⟩ := open_texts g2 (fun q hq => hwi q (.inl hq))
    obtain ⟨cA, cc, cs, hc, c1, c2, c3⟩ := open_clocks g3 (fun q hq => hwi q (.inr (.inl hq)))
    obtain ⟨vA, vc, vs, hv, w1, w2, w3⟩ := ih y4.1 n v4 y4.2 (by rw [hd'] at hd; simp at hd; omega) g4 (fun q hq => hwi q (.inr (.inr hq)))
    have ha' : v0 = .int .u64 a := by simpa using ha
    have hb' : v1 = .int .u64 b := by simpa using hb
    exact ⟨.mk a b sA sc ss cA cc cs vA vc vs, by rw [ha', hb', hs, hc, hv]; rfl, .mk _ _ _ _ _ _ _ _ _ _ _ (u64_ok hwa) (u64_ok hwb) s1 s2 s3 c1 c2 c3 w1 w2 w3⟩

set_option maxRecDepth 100000 in
theorem open_values (m : Nat) : ∀ (d : DataW H) (fuel : Nat) (v : Value) (ps : List MemPlace), SizeOf.sizeOf d < m → DataW.trod enc Try.prog W 0 (fun _ => true) true fuel 28 [v] = some (d, ps) → (∀ n ∈ d.weights Try.prog 28, n ≤ reachBytes) →
    ∃ (A : Option Addr) (c : Nat) (l : List Vl), v = .slice A l.length c ∧ LiesC (fun b => b < W.heap.size) W A (cellsV l) ∧ (l.length ≤ c ∧ c ≤ maxLen ∧ l.length * 88 ≤ 140737488351232) ∧ ∀ x ∈ l, x.In W := by
  induction m with
  | zero => intro d _ _ _ hm; omega
  | succ m ih =>
    intro d fuel v ps hm h hw
    obtain ⟨A, c, l, h1, h2, h3, h4⟩ := open_row 5 88 (fun x : Vl => [Value.int .u64 x.n, Value.int .u64 x.m, x.s1, x.c1, x.v1]) (fun _ => rfl) (by omega) Try.underlying28 Try.cVal Try.bVal (fun x => x.In W) h hw (by
      intro dd fuel' cs' ps' hlt hl htr hww
      exact open_parts m ih (by omega) hl htr hww)
    exact ⟨A, c, l, h1, h2, h3, h4⟩

set_option maxRecDepth 100000 in
theorem open_value {base : Nat} {v : Value} {d : DataW H} {ps : List MemPlace} (hok : Value.okWide Try.prog W .any base 30 v) (h : DataW.Trod enc Try.prog W 0 (fun _ => true) true 30 v d ps)
    (hw : ∀ n ∈ d.weights Try.prog 30, n ≤ reachBytes) : ∃ x : Vl, v = x.val ∧ x.In W := by
  obtain ⟨cs, rfl, hcs⟩ := okWide_struct Try.underlying30 hok
  rw [Try.cVal] at hcs
  obtain ⟨fuel, hf⟩ := h
  obtain ⟨x, hx, hi⟩ := open_parts (enc := enc) (W := W) (SizeOf.sizeOf d) (fun d' fuel v ps hlt h hw => open_values (SizeOf.sizeOf d' + 1) d' fuel v ps (by omega) h hw) (Nat.le_refl _) (by simpa [Value.cells] using hcs) hf hw
  refine ⟨x, ?_, hi⟩
  obtain ⟨cl⟩ := cs
  simp [Value.cells] at hx
  rw [hx]
  rfl
end
end Go.Proofs.Ytcpfjjimbnmaoaa.V4

namespace Go.Proofs.Ytcpfjjimbnmaoaa
open Go.ChangeShapes Go.WideShapes Go.ChangeAt Go.RowKit
open S2 (Sc open_sch)
open V4 (Vl open_value)

set_option maxRecDepth 100000 in
theorem valueBottoms_lifted (os : Os) (started : os.Started) (H : Type) (enc : TypeId × Value → H) :
    ReturnsInHanded {} Try.checked os 4 .any (Rows.valueBottomsSpec.pre6 enc Try.prog Try.f4 Rows.valueBottomsRow.domain false) (Rows.valueBottomsSpec.post enc Try.prog Try.f4 false true false false) := by
  refine returnsInHanded_of_change_sized (C := Try.checked) (by kernel_rfl) started (by kernel_rfl) Try.func4
    (ChangeSpec.witness6 (enc := enc) (C := Try.checked) false ⟨#[], #[.agg #[.int .i64 0, .slice none 0 0], .agg #[.int .u64 0, .int .u64 0, .slice none 0 0, .slice none 0 0, .slice none 0 0]], []⟩ 8 (by kernel_rfl) (by kernel_rfl) (by kernel_rfl) (by kernel_rfl)) ?_
  intro W base args ds gs before hval0 hW _ hsz0 _
  have hval : ∀ (j : Nat) t v, Try.f4.params[j]? = some t → args[j]? = some v → Value.okWide Try.prog W .any base t v := hval0
  have hsz : (DataW.weightsEach Try.prog (Try.f4.params.toList ++ Rows.valueBottomsSpec.plain.varTypes Try.prog) (ds ++ gs)).all (· ≤ reachBytes) = true := hsz0
  have hW' := hW
  obtain ⟨p, q, hA0, hV, rfl, _, _⟩ := hW
  have hA : DataW.TrodAll enc Try.prog W 0 (fun _ => true) true Try.f4.params.toList args.toList ds p := hA0
  rw [Try.params4] at hA hval hsz
  obtain ⟨v0, v1, d0, d1, p0, p1, rfl, rfl, rfl, h0, h1⟩ := trodAll_two hA
  obtain ⟨rfl, rfl⟩ := trodVars_none hV
  have lt0 : ∀ x ∈ p0, x.block < W.heap.size := by obtain ⟨m, hm⟩ := h0; exact DataW.trod_lt m _ _ _ hm
  have lt1 : ∀ x ∈ p1, x.block < W.heap.size := by obtain ⟨m, hm⟩ := h1; exact DataW.trod_lt m _ _ _ hm
  obtain ⟨s, rfl, hs⟩ := open_sch (hval 0 24 v0 rfl rfl) h0 (fun n hn => by simpa using List.all_eq_true.1 hsz n (DataW.weights_mem_each (j := 0) (t := 24) rfl rfl n hn))
  obtain ⟨a, rfl, ha⟩ := open_value (hval 1 30 v1 rfl rfl) h1 (fun n hn => by simpa using List.all_eq_true.1 hsz n (DataW.weights_mem_each (j := 1) (t := 30) rfl rfl n hn))
  clear hA0 hval0 hsz0
  refine (V4.valueBottoms_all s a W hs ha).mono fun e W' ⟨he, bel⟩ => ?_
  subst he
  exact ⟨_, rfl, _, _, _, [], _, [], hW', trodAll_mk1 (shut_bool Try.underlying4 _), trodAll_mk2 (Below.trod (by kernel_rfl) (by kernel_rfl) (of_decide_eq_true (by kernel_rfl)) h0 bel lt0) (Below.trod (by kernel_rfl) (by kernel_rfl) (of_decide_eq_true (by kernel_rfl)) h1 bel lt1), rfl, bel.frame _, fun h => by cases h⟩

theorem valueBottoms_holds : Rows.ValueBottomsSaid :=
  OpenClaim.holds_of_wide 4 Try.f4 rfl rfl rfl rfl rfl rfl rfl ⟨rfl, rfl, rfl, rfl, rfl⟩ rfl rfl rfl rfl rfl (by kernel_rfl) Try.func4 (by kernel_rfl)
    (of_decide_eq_true (by kernel_rfl)) (by unfold Func.isWrapper; first | (rw [if_pos (by decide +kernel)]; kernel_rfl) | (rw [if_neg (by decide +kernel)]; exact ⟨rfl, rfl⟩))
    (fun os started H enc _ => valueBottoms_lifted os started H enc)
end Go.Proofs.Ytcpfjjimbnmaoaa
