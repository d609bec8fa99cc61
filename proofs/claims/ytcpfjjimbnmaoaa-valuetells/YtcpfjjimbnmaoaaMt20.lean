/- ValueTellsSaid is proved: at every input the law returns true, and each argument reads afterwards as it read before. No condition. A value that came in, opened. No condition. -/
import Derived.Test.YtcpfjjimbnmaoaaMt19
namespace Go.Proofs.Ytcpfjjimbnmaoaa.V4
open Go.ChangeShapes Go.WideShapes Go.ChangeAt Go.RowKit Go.Deep
open C3 (Tk Nok)

theorem Try.own : ownKnob Try.prog.godebug = none := by kernel_rfl
theorem Try.laidOut : laidOutB Try.prog = true := by kernel_rfl
theorem Try.cInt : Try.prog.cellsOf 3 = 1 := by kernel_rfl
theorem Try.cU64 : Try.prog.cellsOf 25 = 1 := by kernel_rfl
theorem Try.cStr : Try.prog.cellsOf 9 = 1 := by kernel_rfl
theorem Try.cTick : Try.prog.cellsOf 39 = 2 := by kernel_rfl
theorem Try.cTicks : Try.prog.cellsOf 40 = 1 := by kernel_rfl
theorem Try.cStrs : Try.prog.cellsOf 26 = 1 := by kernel_rfl
theorem Try.cClocks : Try.prog.cellsOf 27 = 1 := by kernel_rfl
theorem Try.cVals : Try.prog.cellsOf 28 = 1 := by kernel_rfl
theorem Try.cVal : Try.prog.cellsOf 30 = 5 := by kernel_rfl
theorem Try.bStr : Try.prog.bytesOf 9 = 16 := by kernel_rfl
theorem Try.bTick : Try.prog.bytesOf 39 = 16 := by kernel_rfl
theorem Try.bTicks : Try.prog.bytesOf 40 = 24 := by kernel_rfl
theorem Try.bVal : Try.prog.bytesOf 30 = 88 := by kernel_rfl

instance : Inhabited Tk := ⟨⟨0, 0⟩⟩
instance : Inhabited Ck := ⟨⟨none, 0, []⟩⟩
instance : Inhabited Vl := ⟨.mk 0 0 none 0 [] none 0 [] none 0 []⟩

theorem u64_ok {n : Int} (h : (Lit.int .u64 n).wf = true) : 0 ≤ n ∧ n ≤ 18446744073709551615 := by
  simp [Lit.wf] at h
  have e1 : IntKind.u64.min = 0 := by decide
  have e2 : IntKind.u64.max = 18446744073709551615 := by decide
  omega
theorem flatMap_one {α β : Type} (f : α → β) : ∀ l : List α, l.flatMap (fun x => [f x]) = l.map f
  | [] => rfl
  | x :: l => by rw [List.flatMap_cons, flatMap_one f l]; rfl
theorem size_S (x : Str) : (S x).size = x.length := by simp [S, ByteArray.size]

section
variable {H : Type} {enc : TypeId × Value → H} {W : World}

set_option maxRecDepth 100000 in
theorem open_texts {d : DataW H} {fuel : Nat} {v : Value} {ps : List MemPlace} (h : DataW.trod enc Try.prog W 0 (fun _ => true) true fuel 26 [v] = some (d, ps)) (hw : ∀ n ∈ d.weights Try.prog 26, n ≤ reachBytes) :
    ∃ (A : Option Addr) (c : Nat) (l : List Str), v = .slice A l.length c ∧ LiesC (fun b => b < W.heap.size) W A (cellsS l) ∧ (l.length ≤ c ∧ c ≤ maxLen ∧ l.length * 16 ≤ 140737488351232) ∧ ∀ s ∈ l, s.length ≤ maxLen := by
  obtain ⟨A, c, l, h1, h2, h3, h4⟩ := open_row 1 16 (fun s : Str => [Value.string (S s)]) (fun _ => rfl) (by omega) Try.underlying26 Try.cStr Try.bStr (fun s => s.length ≤ maxLen) h hw (by
    intro dd fuel' cs' ps' _ _ htr _
    obtain ⟨s, hs, -, hsz⟩ := DataW.trod_string Try.underlying9 htr
    obtain ⟨x, rfl⟩ := S_of s
    exact ⟨x, hs, by rw [← size_S]; exact hsz⟩)
  refine ⟨A, c, l, h1, ?_, h3, h4⟩
  have e : l.flatMap (fun s : Str => [Value.string (S s)]) = cellsS l := flatMap_one _ l
  rwa [e] at h2

set_option maxRecDepth 100000 in
theorem open_clock {d : DataW H} {fuel : Nat} {v : Value} {ps : List MemPlace} (h : DataW.trod enc Try.prog W 0 (fun _ => true) true fuel 40 [v] = some (d, ps)) (hw : ∀ n ∈ d.weights Try.prog 40, n ≤ reachBytes) :
    ∃ x : Ck, v = x.v ∧ x.Inp (fun b => b < W.heap.size) W := by
  obtain ⟨A, c, l, h1, h2, h3, h4⟩ := open_row 2 16 (fun x : Tk => [Value.int .i64 x.k, Value.int .u64 x.n]) (fun _ => rfl) (by omega) Try.underlying40 Try.cTick Try.bTick (fun x => 0 ≤ x.n ∧ x.n ≤ 18446744073709551615) h hw (by
    intro dd fuel' cs' ps' _ hl htr _
    obtain ⟨xs, n, -, -, -, hxl, hfs⟩ := DataW.trod_struct Try.underlying39 htr
    match cs', hl, xs, hxl with
    | [v0, v1], _, [y0, y1], _ =>
      have g0 := hfs 0 _ rfl
      have g1 := hfs 1 _ rfl
      simp [Try.cInt, Try.cU64] at g0 g1
      obtain ⟨k, hk, -, -⟩ := DataW.trod_int Try.underlying3 g0
      obtain ⟨m, hm, -, hwf⟩ := DataW.trod_int Try.underlying25 g1
      have hk' : v0 = .int .i64 k := by simpa using hk
      have hm' : v1 = .int .u64 m := by simpa using hm
      exact ⟨⟨k, m⟩, by rw [hk', hm'], u64_ok hwf⟩)
  exact ⟨⟨A, c, l⟩, h1, h2, h3.1, h3.2.1, h4, h3.2.2⟩

set_option maxRecDepth 100000 in
theorem open_clocks {d : DataW H} {fuel : Nat} {v : Value} {ps : List MemPlace} (h : DataW.trod enc Try.prog W 0 (fun _ => true) true fuel 27 [v] = some (d, ps)) (hw : ∀ n ∈ d.weights Try.prog 27, n ≤ reachBytes) :
    ∃ (A : Option Addr) (c : Nat) (l : List Ck), v = .slice A l.length c ∧ LiesC (fun b => b < W.heap.size) W A (cellsC l) ∧ (l.length ≤ c ∧ c ≤ maxLen ∧ l.length * 24 ≤ 140737488351232) ∧ ∀ x ∈ l, x.Inp (fun b => b < W.heap.size) W := by
  obtain ⟨A, c, l, h1, h2, h3, h4⟩ := open_row 1 24 (fun x : Ck => [x.v]) (fun _ => rfl) (by omega) Try.underlying27 Try.cTicks Try.bTicks (fun x => x.Inp (fun b => b < W.heap.size) W) h hw (by
    intro dd fuel' cs' ps' _ hl htr hww
    match cs', hl with
    | [v0], _ =>
      obtain ⟨x, hx, hi⟩ := open_clock htr hww
      exact ⟨x, by rw [hx], hi⟩)
  refine ⟨A, c, l, h1, ?_, h3, h4⟩
  have e : l.flatMap (fun x : Ck => [x.v]) = cellsC l := flatMap_one _ l
  rwa [e] at h2

set_option maxRecDepth 100000 in
theorem open_parts (m : Nat) (ih : ∀ (d : DataW H) (fuel : Nat) (v : Value) (ps : List MemPlace), SizeOf.sizeOf d < m → DataW.trod enc Try.prog W 0 (fun _ => true) true fuel 28 [v] = some (d, ps) → (∀ n ∈ d.weights Try.prog 28, n ≤ reachBytes) →
      ∃ (A : Option Addr) (c : Nat) (l : List Vl), v = .slice A l.length c ∧ LiesC (fun b => b < W.heap.size) W A (cellsV l) ∧ (l.length ≤ c ∧ c ≤ maxLen ∧ l.length * 88 ≤ 140737488351232) ∧ ∀ x ∈ l, x.In W)
    {d : DataW H} {fuel : Nat} {cs : List Value} {ps : List MemPlace} (hd : SizeOf.sizeOf d ≤ m) (hl : cs.length = 5) (h : DataW.trod enc Try.prog W 0 (fun _ => true) true fuel 30 cs = some (d, ps)) (hw : ∀ n ∈ d.weights Try.prog 30, n ≤ reachBytes) :
    ∃ x : Vl, cs = [.int .u64 x.n, .int .u64 x.m, x.s1, x.c1, x.v1] ∧ x.In W := by
  obtain ⟨xs, n, -, hx, -, hxl, hfs⟩ := DataW.trod_struct Try.underlying30 h
  match cs, hl, xs, hxl with
  | [v0, v1, v2, v3, v4], _, [y0, y1, y2, y3, y4], _ =>
    have g0 := hfs 0 _ rfl
    have g1 := hfs 1 _ rfl
    have g2 := hfs 2 _ rfl
    have g3 := hfs 3 _ rfl
    have g4 := hfs 4 _ rfl
    simp [Try.cU64, Try.cStrs, Try.cClocks, Try.cVals] at g0 g1 g2 g3 g4
    have hd' : d = .agg [y0.1, y1.1, y2.1, y3.1, y4.1] := by simpa using (Prod.mk.inj hx).1
    have hwi : ∀ q, (q ∈ y2.1.weights Try.prog 26 ∨ q ∈ y3.1.weights Try.prog 27 ∨ q ∈ y4.1.weights Try.prog 28) → q ≤ reachBytes := fun q hq => hw q (by
      rw [hd', DataW.weights, Try.underlying30]
      rcases hq with h | h | h <;> simp [DataW.weightsEach, h])
    obtain ⟨a, ha, -, hwa⟩ := DataW.trod_int Try.underlying25 g0
    obtain ⟨b, hb, -, hwb⟩ := DataW.trod_int Try.underlying25 g1
    obtain ⟨sA, sc, ss, hs, s1, s2, s3⟩ := open_texts g2 (fun q hq => hwi q (.inl hq))
    obtain ⟨cA, cc, cs, hc, c1, c2, c3⟩ := open_clocks g3 (fun q hq => hwi q (.inr (.inl hq)))
    obtain ⟨vA, vc, vs, hv, w1, w2, w3⟩ := ih y4.1 n v4 y4.2 (by rw [hd'] at hd; simp at hd; omega) g4 (fun q hq => hwi q (.inr (.inr hq)))
    have ha' : v0 = .int .u64 a := by simpa using ha
    have hb' : v1 = .int .u64 b := by simpa using hb
    exact ⟨.mk a b sA sc ss cA cc cs vA vc vs, by rw [ha', hb', hs, hc, hv]; rfl, .mk _ _ _ _ _ _ _ _ _ _ _ (u64_ok hwa) (u64_ok hwb) s1 s2 s3 c1 c2 c3 w1 w2 w3⟩

set_option maxRecDepth 100000 in
theorem open_values (m : Nat) : ∀ (d : DataW H) (fuel : Nat) (v : Value) (ps : List MemPlace), SizeOf.sizeOf d < m → DataW.trod enc Try.prog W 0 (fun _ => true) true fuel 28 [v] = some (d, ps) → (∀ n ∈ d.weights Try.prog 28, n ≤ reachBytes) →
    ∃ (A : Option Addr) (c : Nat) (l : List Vl), v = .slice A l.length c ∧ LiesC (fun b => b < W.heap.size) W A (cellsV l) ∧ (l.length ≤ c ∧ c ≤ maxLen ∧ l.length * 88 ≤ 140737488351232) ∧ ∀ x ∈ l, x.In W := by
  induction m with
  | zero => intro d _ _ _ hm; omega
  | succ m ih =>
    intro d fuel v ps hm h hw
    obtain ⟨A, c, l, h1, h2, h3, h4⟩ := open_row 5 88 (fun x : Vl => [Value.int .u64 x.n, Value.int .u64 x.m, x.s1, x.c1, x.v1]) (fun _ => rfl) (by omega) Try.underlying28 Try.cVal Try.bVal (fun x => x.In W) h hw (by
      intro dd fuel' cs' ps' hlt hl htr hww
      exact open_parts m ih (by omega) hl htr hww)
    exact ⟨A, c, l, h1, h2, h3, h4⟩

set_option maxRecDepth 100000 in
theorem open_value {base : Nat} {v : Value} {d : DataW H} {ps : List MemPlace} (hok : Value.okWide Try.prog W .any base 30 v) (h : DataW.Trod enc Try.prog W 0 (fun _ => true) true 30 v d ps)
    (hw : ∀ n ∈ d.weights Try.prog 30, n ≤ reachBytes) : ∃ x : Vl, v = x.val ∧ x.In W := by
  obtain ⟨cs, rfl, hcs⟩ := okWide_struct Try.underlying30 hok
  rw [Try.cVal] at hcs
  obtain ⟨fuel, hf⟩ := h
  obtain ⟨x, hx, hi⟩ := open_parts (enc := enc) (W := W) (SizeOf.sizeOf d) (fun d' fuel v ps hlt h hw => open_values (SizeOf.sizeOf d' + 1) d' fuel v ps (by omega) h hw) (Nat.le_refl _) (by simpa [Value.cells] using hcs) hf hw
  refine ⟨x, ?_, hi⟩
  obtain ⟨cl⟩ := cs
  simp [Value.cells] at hx
  rw [hx]
  rfl
end
end Go.Proofs.Ytcpfjjimbnmaoaa.V4

namespace Go.Proofs.Ytcpfjjimbnmaoaa
open Go.ChangeShapes Go.WideShapes Go.ChangeAt Go.RowKit
open S2 (Sc open_sch)
open V4 (Vl open_value)

set_option maxRecDepth 100000 in
theorem valueTells_lifted (os : Os) (started : os.Started) (H : Type) (enc : TypeId × Value → H) :
    ReturnsInHanded {} Try.checked os 3 .any (Rows.valueTellsSpec.pre6 enc Try.prog Try.f3 Rows.valueTellsRow.domain false) (Rows.valueTellsSpec.post enc Try.prog Try.f3 false true false false) := by
  refine returnsInHanded_of_change_sized (C := Try.checked) (by kernel_rfl) started (by kernel_rfl) Try.func3
    (ChangeSpec.witness6 (enc := enc) (C := Try.checked) false ⟨#[], #[.agg #[.int .i64 0, .slice none 0 0], .agg #[.int .u64 0, .int .u64 0, .slice none 0 0, .slice none 0 0, .slice none 0 0], .agg #[.int .u64 0, .int .u64 0, .slice none 0 0, .slice none 0 0, .slice none 0 0]], []⟩ 8 (by kernel_rfl) (by kernel_rfl) (by kernel_rfl) (by kernel_rfl)) ?_
  intro W base args ds gs before hval0 hW _ hsz0 _
  have hval : ∀ (j : Nat) t v, Try.f3.params[j]? = some t → args[j]? = some v → Value.okWide Try.prog W .any base t v := hval0
  have hsz : (DataW.weightsEach Try.prog (Try.f3.params.toList ++ Rows.valueTellsSpec.plain.varTypes Try.prog) (ds ++ gs)).all (· ≤ reachBytes) = true := hsz0
  have hW' := hW
  obtain ⟨p, q, hA0, hV, rfl, _, _⟩ := hW
  have hA : DataW.TrodAll enc Try.prog W 0 (fun _ => true) true Try.f3.params.toList args.toList ds p := hA0
  rw [Try.params3] at hA hval hsz
  obtain ⟨v0, v1, v2, d0, d1, d2, p0, p1, p2, rfl, rfl, rfl, h0, h1, h2⟩ := trodAll_three hA
  obtain ⟨rfl, rfl⟩ := trodVars_none hV
  have lt0 : ∀ x ∈ p0, x.block < W.heap.size := by obtain ⟨m, hm⟩ := h0; exact DataW.trod_lt m _ _ _ hm
  have lt1 : ∀ x ∈ p1, x.block < W.heap.size := by obtain ⟨m, hm⟩ := h1; exact DataW.trod_lt m _ _ _ hm
  have lt2 : ∀ x ∈ p2, x.block < W.heap.size := by obtain ⟨m, hm⟩ := h2; exact DataW.trod_lt m _ _ _ hm
  obtain ⟨s, rfl, hs⟩ := open_sch (hval 0 24 v0 rfl rfl) h0 (fun n hn => by simpa using List.all_eq_true.1 hsz n (DataW.weights_mem_each (j := 0) (t := 24) rfl rfl n hn))
  obtain ⟨a, rfl, ha⟩ := open_value (hval 1 30 v1 rfl rfl) h1 (fun n hn => by simpa using List.all_eq_true.1 hsz n (DataW.weights_mem_each (j := 1) (t := 30) rfl rfl n hn))
  obtain ⟨b, rfl, hb⟩ := open_value (hval 2 30 v2 rfl rfl) h2 (fun n hn => by simpa using List.all_eq_true.1 hsz n (DataW.weights_mem_each (j := 2) (t := 30) rfl rfl n hn))
  clear hA0 hval0 hsz0
  refine (V4.valueTells_all s a b W hs ha hb).mono fun e W' ⟨he, bel⟩ => ?_
  subst he
  exact ⟨_, rfl, _, _, _, [], _, [], hW', trodAll_mk1 (shut_bool Try.underlying4 _), trodAll_mk3 (Below.trod (by kernel_rfl) (by kernel_rfl) (of_decide_eq_true (by kernel_rfl)) h0 bel lt0) (Below.trod (by kernel_rfl) (by kernel_rfl) (of_decide_eq_true (by kernel_rfl)) h1 bel lt1) (Below.trod (by kernel_rfl) (by kernel_rfl) (of_decide_eq_true (by kernel_rfl)) h2 bel lt2), rfl, bel.frame _, fun h => by cases h⟩

theorem valueTells_holds : Rows.ValueTellsSaid :=
  OpenClaim.holds_of_wide 3 Try.f3 rfl rfl rfl rfl rfl rfl rfl ⟨rfl, rfl, rfl, rfl, rfl⟩ rfl rfl rfl rfl rfl (by kernel_rfl) Try.func3 (by kernel_rfl)
    (of_decide_eq_true (by kernel_rfl)) (by unfold Func.isWrapper; first | (rw [if_pos (by decide +kernel)]; kernel_rfl) | (rw [if_neg (by decide +kernel)]; exact ⟨rfl, rfl⟩))
    (fun os started H enc _ => valueTells_lifted os started H enc)
end Go.Proofs.Ytcpfjjimbnmaoaa
