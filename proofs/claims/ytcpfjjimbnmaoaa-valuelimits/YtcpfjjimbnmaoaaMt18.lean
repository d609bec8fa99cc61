/- What the law's own test, known, answers: yes. No condition. What the law's own helper, of, answers; two versions of one tick each: plain mathematics, and in memory. No condition. What ValueSiblings does: it answers true. No condition. -/
import Derived.Test.YtcpfjjimbnmaoaaMt17
namespace Go.Proofs.Ytcpfjjimbnmaoaa.V4
open Go.RowKit Go.Shelf
open C3 (Tk isC belAl)
open S2 (Sc Tr isT allocB)

/-- A variable: its cells. -/
def Bxd (W : World) (b : Nat) (cs : Array Value) : Prop := b < W.heap.size ∧ ∀ i v, cs[i]? = some v → W.cell? ⟨b, i, none⟩ = some v
theorem Bxd.later {W W' : World} {b : Nat} {cs : Array Value} (h : Bxd W b cs) (hb : Below W.heap.size W W') : Bxd W' b cs := ⟨Nat.lt_of_lt_of_le h.1 hb.size, fun i v hv => (hb.cell (p := ⟨b, i, none⟩) h.1).trans (h.2 i v hv)⟩
theorem Bxd.new {W : World} {cs : Array Value} {t : TypeId} : Bxd (W.alloc (.cells cs t)) W.heap.size cs := ⟨by simp, fun i v h => alloc_cells i v h⟩
theorem Bxd.al {W : World} {b : Nat} {cs : Array Value} (h : Bxd W b cs) (o : Obj) : Bxd (W.alloc o) b cs := h.later (allocB W o)

/-- A schema without any in it, a value without any: wherever. -/
def scLeaf (k : Int) : Sc := .mk k none 0 []
def vlNum (n : Int) : Vl := .mk n 0 none 0 [] none 0 [] none 0 []
theorem scLeaf_in (k : Int) (P : Nat → Prop) (W : World) : (scLeaf k).Inp P W := .mk _ _ _ _ (.inl rfl) (by simp) (by simp) (by simp) (by simp)
theorem vlNum_in (n : Int) (hn : 0 ≤ n ∧ n ≤ 18446744073709551615) (P : Nat → Prop) (W : World) : (vlNum n).Inp P W :=
  .mk _ _ _ _ _ _ _ _ _ _ _ hn (by omega) .nil (by simp [maxLen]) (by simp) .nil (by simp [maxLen]) (by simp) .nil (by simp [maxLen]) (by simp)
/-- A value of texts alone, that lie in block b. -/
def vlTexts (n b : Nat) (ss : List Str) : Vl := .mk n 0 (some ⟨b, 0, none⟩) ss.length ss none 0 [] none 0 []
theorem vlTexts_in {W : World} {b : Nat} {ss : List Str} {cs : Array Value} (n : Nat) (hn : n ≤ 1000) (h : Bxd W b cs) (hcs : cs = (cellsS ss).toArray) (hl : ss.length ≤ 1000) (ht : ∀ s ∈ ss, s.length ≤ 1000) : (vlTexts n b ss).In W := by
  refine .mk _ _ _ _ _ _ _ _ _ _ _ (by omega) (by omega) (.inr ⟨b, 0, rfl, h.1, fun i u hu => ?_⟩) (by simp [maxLen]; omega) (fun s hs => by have := ht s hs; unfold maxLen; omega) .nil (by simp [maxLen]) (by simp) .nil (by simp [maxLen]) (by simp)
  rw [Nat.zero_add]
  exact h.2 i u (by rw [hcs]; simpa using hu)

/-- A schema of one or two that lie in block b. -/
def scRow (k : Int) (b : Nat) (l : List Sc) : Sc := .mk k (some ⟨b, 0, none⟩) l.length l
theorem scRow_in {W : World} {b : Nat} {l : List Sc} {cs : Array Value} (k : Int) (h : Bxd W b cs) (hcs : cs = (l.flatMap fun s => [.int .i64 s.k, s.v1]).toArray) (hl : l.length ≤ 1000) (hin : ∀ s ∈ l, s.In W.heap.size W) : (scRow k b l).In W.heap.size W := by
  refine .mk _ _ _ _ (.inr ⟨b, 0, rfl, h.1, fun i s hs => ?_⟩) (Nat.le_refl _) (by omega) (by omega) hin
  have hc : ∀ (l : List Sc) (i : Nat) (s : Sc), l[i]? = some s → (l.flatMap fun s => [Value.int .i64 s.k, s.v1])[i * 2]? = some (.int .i64 s.k) ∧ (l.flatMap fun s => [Value.int .i64 s.k, s.v1])[i * 2 + 1]? = some s.v1 := fun l => by
    induction l with
    | nil => intro i s h; simp at h
    | cons y l ih =>
      intro i s h
      cases i with
      | zero => simp at h; subst h; simp
      | succ i =>
        have := ih i s (by simpa using h)
        rw [show (i + 1) * 2 = i * 2 + 1 + 1 by omega]
        simpa using this
  obtain ⟨h0, h1⟩ := hc l i s hs
  rw [Nat.zero_add]
  exact ⟨h.2 _ _ (by rw [hcs]; simpa using h0), h.2 _ _ (by rw [hcs]; simpa using h1)⟩
/-- A value of values alone, that lie in block b. -/
def vlRow (b : Nat) (vs : List Vl) : Vl := .mk 0 0 none 0 [] none 0 [] (some ⟨b, 0, none⟩) vs.length vs
theorem vlRow_in {W : World} {b : Nat} {vs : List Vl} {cs : Array Value} (h : Bxd W b cs) (hcs : cs = (cellsV vs).toArray) (hl : vs.length ≤ 1000) (hin : ∀ x ∈ vs, x.In W) : (vlRow b vs).In W := by
  refine .mk _ _ _ _ _ _ _ _ _ _ _ (by omega) (by omega) .nil (by simp [maxLen]) (by simp) .nil (by simp [maxLen]) (by simp) (.inr ⟨b, 0, rfl, h.1, fun i u hu => ?_⟩) (by simp [maxLen]; omega) hin
  rw [Nat.zero_add]
  exact h.2 i u (by rw [hcs]; simpa using hu)

def trP : Tr := .mk 5 [.mk 3 [], .mk 1 []]
def vaV : Va := .mk 0 0 [] [] [.mk 0 0 [[97]] [] [], .mk 3 0 [] [] []]
theorem kn_isP : isT 16 trP = true := by decide
theorem kn_isS : isT 16 (.mk 3 []) = true := by decide
theorem kn_bot : botT trP = .mk 0 0 [] [] [.zero, .zero] := by
  unfold trP
  rw [botT_pair kn_isP, botT_zero (by simp [Tr.k]), botT_zero (by simp [Tr.k])]
theorem kn_1 : isV trP vaV = true := by
  unfold trP vaV
  simp [isV, base_mk, fits_5, fits_3, fits_1, hasN, pairV, Va.v, shortV, R1.Srt]
theorem kn_2 : isV (.mk 3 []) vaV = false := by
  unfold vaV
  simp [isV, base_mk, fits_3, hasN]
theorem kn_3 : vaV ≠ .mk 0 0 [] [] [.zero, .zero] := by
  unfold vaV Va.zero
  intro h
  simp at h
theorem kn_4 : isV (.mk 3 []) (.mk 0 0 [[98], [97]] [] []) = false := by
  simp [isV, base_mk, fits_3, hasN, R1.Srt]
  intro _
  decide

set_option maxRecDepth 100000 in
set_option maxHeartbeats 2000000 in
theorem known_any (w : World) : Calls Try.prog 8 #[] w (RetV w (.bool true)) := by
  obtain ⟨V, hV⟩ : ∃ V, ((((((w.alloc (.cells #[.int .i64 3, .slice none 0 0] 24)).alloc (.cells #[.int .i64 3, .slice none 0 0, .int .i64 1, .slice none 0 0] 24)).alloc (.cells #[.int .i64 5, .slice (some ⟨w.heap.size + 1, 0, none⟩) 2 2] 24)).alloc (.cells #[.string ⟨#[97]⟩] 9)).alloc (.cells #[.int .u64 0, .int .u64 0, .slice (some ⟨w.heap.size + 1 + 1 + 1, 0, none⟩) 1 1, .slice none 0 0, .slice none 0 0, .int .u64 3, .int .u64 0, .slice none 0 0, .slice none 0 0, .slice none 0 0] 30)).alloc (.cells #[.int .u64 0, .int .u64 0, .slice none 0 0, .slice none 0 0, .slice (some ⟨w.heap.size + 1 + 1 + 1 + 1, 0, none⟩) 2 2] 30)) = V := ⟨_, rfl⟩
  have HV := Lib.hid hV
  have hB : Below w.heap.size w V := by rw [← hV]; exact belAl (belAl (belAl (belAl (belAl (belAl (Below.refl _ _))))))
  have X0 : Bxd V (w.heap.size) #[.int .i64 3, .slice none 0 0] := by
    rw [← hV]
    have := Bxd.new (W := w) (cs := #[.int .i64 3, .slice none 0 0]) (t := 24)
    exact ((((this.al _).al _).al _).al _).al _
  have X1 : Bxd V (w.heap.size + 1) #[.int .i64 3, .slice none 0 0, .int .i64 1, .slice none 0 0] := by
    rw [← hV]
    have := Bxd.new (W := (w.alloc (.cells #[.int .i64 3, .slice none 0 0] 24))) (cs := #[.int .i64 3, .slice none 0 0, .int .i64 1, .slice none 0 0]) (t := 24)
    rw [World.size_alloc] at this
    exact (((this.al _).al _).al _).al _
  have X2 : Bxd V (w.heap.size + 1 + 1) #[.int .i64 5, .slice (some ⟨w.heap.size + 1, 0, none⟩) 2 2] := by
    rw [← hV]
    have := Bxd.new (W := ((w.alloc (.cells #[.int .i64 3, .slice none 0 0] 24)).alloc (.cells #[.int .i64 3, .slice none 0 0, .int .i64 1, .slice none 0 0] 24))) (cs := #[.int .i64 5, .slice (some ⟨w.heap.size + 1, 0, none⟩) 2 2]) (t := 24)
    rw [World.size_alloc, World.size_alloc] at this
    exact ((this.al _).al _).al _
  have X3 : Bxd V (w.heap.size + 1 + 1 + 1) #[.string ⟨#[97]⟩] := by
    rw [← hV]
    have := Bxd.new (W := (((w.alloc (.cells #[.int .i64 3, .slice none 0 0] 24)).alloc (.cells #[.int .i64 3, .slice none 0 0, .int .i64 1, .slice none 0 0] 24)).alloc (.cells #[.int .i64 5, .slice (some ⟨w.heap.size + 1, 0, none⟩) 2 2] 24))) (cs := #[.string ⟨#[97]⟩]) (t := 9)
    rw [World.size_alloc, World.size_alloc, World.size_alloc] at this
    exact (this.al _).al _
  have X4 : Bxd V (w.heap.size + 1 + 1 + 1 + 1) #[.int .u64 0, .int .u64 0, .slice (some ⟨w.heap.size + 1 + 1 + 1, 0, none⟩) 1 1, .slice none 0 0, .slice none 0 0, .int .u64 3, .int .u64 0, .slice none 0 0, .slice none 0 0, .slice none 0 0] := by
    rw [← hV]
    have := Bxd.new (W := ((((w.alloc (.cells #[.int .i64 3, .slice none 0 0] 24)).alloc (.cells #[.int .i64 3, .slice none 0 0, .int .i64 1, .slice none 0 0] 24)).alloc (.cells #[.int .i64 5, .slice (some ⟨w.heap.size + 1, 0, none⟩) 2 2] 24)).alloc (.cells #[.string ⟨#[97]⟩] 9))) (cs := #[.int .u64 0, .int .u64 0, .slice (some ⟨w.heap.size + 1 + 1 + 1, 0, none⟩) 1 1, .slice none 0 0, .slice none 0 0, .int .u64 3, .int .u64 0, .slice none 0 0, .slice none 0 0, .slice none 0 0]) (t := 30)
    rw [World.size_alloc, World.size_alloc, World.size_alloc, World.size_alloc] at this
    exact this.al _
  have X5 : Bxd V (w.heap.size + 1 + 1 + 1 + 1 + 1) #[.int .u64 0, .int .u64 0, .slice none 0 0, .slice none 0 0, .slice (some ⟨w.heap.size + 1 + 1 + 1 + 1, 0, none⟩) 2 2] := by
    rw [← hV]
    have := Bxd.new (W := (((((w.alloc (.cells #[.int .i64 3, .slice none 0 0] 24)).alloc (.cells #[.int .i64 3, .slice none 0 0, .int .i64 1, .slice none 0 0] 24)).alloc (.cells #[.int .i64 5, .slice (some ⟨w.heap.size + 1, 0, none⟩) 2 2] 24)).alloc (.cells #[.string ⟨#[97]⟩] 9)).alloc (.cells #[.int .u64 0, .int .u64 0, .slice (some ⟨w.heap.size + 1 + 1 + 1, 0, none⟩) 1 1, .slice none 0 0, .slice none 0 0, .int .u64 3, .int .u64 0, .slice none 0 0, .slice none 0 0, .slice none 0 0] 30))) (cs := #[.int .u64 0, .int .u64 0, .slice none 0 0, .slice none 0 0, .slice (some ⟨w.heap.size + 1 + 1 + 1 + 1, 0, none⟩) 2 2]) (t := 30)
    rw [World.size_alloc, World.size_alloc, World.size_alloc, World.size_alloc, World.size_alloc] at this
    exact this
  have S0 : (scLeaf 3).In V.heap.size V := scLeaf_in _ _ _
  have P0 : (scRow 5 (w.heap.size + 1) [scLeaf 3, scLeaf 1]).In V.heap.size V := scRow_in 5 X1 rfl (by simp) (fun s hs => by
    rcases List.mem_cons.1 hs with rfl | hs
    · exact scLeaf_in _ _ _
    · rw [List.mem_singleton.1 hs]; exact scLeaf_in _ _ _)
  have V0 : (vlRow (w.heap.size + 1 + 1 + 1 + 1) [vlTexts 0 (w.heap.size + 1 + 1 + 1) [[97]], vlNum 3]).In V := vlRow_in X4 rfl (by simp) (fun x hx => by
    rcases List.mem_cons.1 hx with rfl | hx
    · exact vlTexts_in 0 (by omega) X3 rfl (by simp) (by simp)
    · rw [List.mem_singleton.1 hx]; exact vlNum_in _ (by omega) _ _)
  obtain ⟨p, hp⟩ : ∃ p, scRow 5 (w.heap.size + 1) [scLeaf 3, scLeaf 1] = p := ⟨_, rfl⟩
  obtain ⟨v, hv⟩ : ∃ v, vlRow (w.heap.size + 1 + 1 + 1 + 1) [vlTexts 0 (w.heap.size + 1 + 1 + 1) [[97]], vlNum 3] = v := ⟨_, rfl⟩
  have EP : Hid (p.er = trP) := by rw [← hp]; rfl
  have EV : Hid (v.er = vaV) := by rw [← hv]; rfl
  have HP := Lib.hid hp
  have HVV := Lib.hid hv
  rw [hp] at P0
  rw [hv] at V0
  have HC := Lib.hid (Bottom_any p V P0)
  have hp0 := hp
  rw [← hp] at HC
  have x0 := X2.2 0 _ rfl
  have x1 := X2.2 1 _ rfl
  clear X1 X3 X4 hV hp hv
  go_enter Try.func8, Try.ntmps8
  go_wp2_with fail
  rw [HV.out]
  clear HV
  refine HC.out.mono ?_
  clear HC x0 x1
  rintro e w1 ⟨b, rfl, hbe, hbi, hb1⟩
  have B1 : b.In w1 := hbi.inn
  have EB : Hid (b.er = .mk 0 0 [] [] [.zero, .zero]) := by show b.er = _; rw [hbe, hp0, EP.out, kn_bot]
  have hbl : b.vs.length = 2 := by
    have := EB.out
    rw [er_eta, mk_inj] at this
    have := congrArg List.length this.2.2.2.2
    simpa using this
  replace hB : Below w.heap.size w w1 := hB.trans (hb1.mono hB.size)
  replace X0 := X0.later hb1
  replace X2 := X2.later hb1
  replace X5 := X5.later hb1
  replace S0 := S0.later hb1
  replace P0 := P0.later hb1
  replace V0 := V0.later hb1
  clear hb1 hbi hbe
  obtain ⟨W2, hW2⟩ : ∃ W2, w1.alloc (.cells #[.int .u64 b.n, .int .u64 b.m, b.s1, b.c1, b.v1] 30) = W2 := ⟨_, rfl⟩
  have X6 : Bxd W2 w1.heap.size #[.int .u64 b.n, .int .u64 b.m, b.s1, b.c1, b.v1] := by rw [← hW2]; exact Bxd.new
  have hb1 : Below w1.heap.size w1 W2 := by rw [← hW2]; exact allocB _ _
  have HW2 := Lib.hid hW2
  replace hB : Below w.heap.size w W2 := hB.trans (hb1.mono hB.size)
  replace X0 := X0.later hb1
  replace X2 := X2.later hb1
  replace X5 := X5.later hb1
  replace S0 := S0.later hb1
  replace P0 := P0.later hb1
  replace V0 := V0.later hb1
  replace B1 := B1.later hb1
  clear hb1 hW2

  have hbe2 := hbl
  have K0 : Hid (∀ Z, Below W2.heap.size W2 Z → Calls Try.prog 9 #[p.val, v.val] Z (RetV Z (.bool true))) := fun Z hZ => by
    have h := Is_any p v Z (P0.later hZ) (V0.later hZ)
    rw [show (isT 16 p.er && isV p.er v.er) = true by rw [EP.out, EV.out, kn_isP, kn_1]; rfl] at h
    exact h
  have K1 : Hid (∀ Z, Below W2.heap.size W2 Z → Calls Try.prog 9 #[(scLeaf 3).val, v.val] Z (RetV Z (.bool false))) := fun Z hZ => by
    have h := Is_any (scLeaf 3) v Z (S0.later hZ) (V0.later hZ)
    rw [show (isT 16 (scLeaf 3).er && isV (scLeaf 3).er v.er) = false by rw [show (scLeaf 3).er = .mk 3 [] from rfl, EV.out, kn_isS, kn_2]; rfl] at h
    exact h
  have K2 : Hid (∀ Z, Below W2.heap.size W2 Z → Calls Try.prog 14 #[p.val, b.val] Z (RetV Z (.bool true))) := fun Z hZ => by
    have h := None_any p b Z (P0.later hZ) (B1.later hZ)
    rw [show decide (b.er = botT p.er) = true by rw [EP.out, EB.out, kn_bot]; exact decide_eq_true rfl] at h
    exact h
  have K3 : Hid (∀ Z, Below W2.heap.size W2 Z → Calls Try.prog 14 #[p.val, v.val] Z (RetV Z (.bool false))) := fun Z hZ => by
    have h := None_any p v Z (P0.later hZ) (V0.later hZ)
    rw [show decide (v.er = botT p.er) = false by rw [EP.out, EV.out, kn_bot]; exact decide_eq_false kn_3] at h
    exact h
  have K4 : Hid (∀ Z, Below W2.heap.size W2 Z → Calls Try.prog 16 #[v.val, v.val] Z (RetV Z (.bool true))) := fun Z hZ => by
    have h := Same_any v v Z (V0.later hZ) (V0.later hZ)
    rw [show decide (v.er = v.er) = true by exact decide_eq_true rfl] at h
    exact h
  have K5 : Hid (∀ Z, Below W2.heap.size W2 Z → Calls Try.prog 16 #[v.val, b.val] Z (RetV Z (.bool false))) := fun Z hZ => by
    have h := Same_any v b Z (V0.later hZ) (B1.later hZ)
    rw [show decide (v.er = b.er) = false by rw [EV.out, EB.out]; exact decide_eq_false kn_3] at h
    exact h
  have K6 : Hid (∀ Z, Below W2.heap.size W2 Z → Calls Try.prog 17 #[v.val] Z (RetV Z (.int .i64 3))) := fun Z hZ => by
    have h := Size_any v Z (V0.later hZ)
    rw [EV.out, show IntKind.i64.wrap (vaV.size : Nat) = 3 from by rw [show vaV.size = 3 from rfl]; rfl] at h
    exact h
  have K7 : Hid (∀ Z, Below W2.heap.size W2 Z → Calls Try.prog 9 #[(scLeaf 3).val, (vlTexts 0 Z.heap.size [[98], [97]]).val] (Z.alloc (.cells #[.string ⟨#[98]⟩, .string ⟨#[97]⟩] 9)) (RetV (Z.alloc (.cells #[.string ⟨#[98]⟩, .string ⟨#[97]⟩] 9)) (.bool false))) := fun Z hZ => by
    have h := Is_any (scLeaf 3) (vlTexts 0 Z.heap.size [[98], [97]]) (Z.alloc (.cells #[.string ⟨#[98]⟩, .string ⟨#[97]⟩] 9)) (scLeaf_in _ _ _) (vlTexts_in 0 (by omega) Bxd.new rfl (by simp) (by simp))
    rw [show (scLeaf 3).er = .mk 3 [] from rfl, show (vlTexts 0 Z.heap.size [[98], [97]]).er = .mk 0 0 [[98], [97]] [] [] from rfl, kn_isS, kn_4] at h
    exact h
  have hb2 : Below W2.heap.size W2 W2 := Below.refl _ _
  clear S0 P0 V0 B1 EP EV EB hbe2 hp0
  obtain ⟨bn, bm, bsA, bsc, bss, bcA, bcc, bcs, bvA, bvc, bvs⟩ := b
  rw [← HVV.out, ← HP.out] at K0
  rw [← HVV.out] at K1
  rw [← HP.out] at K2
  rw [← HVV.out, ← HP.out] at K3
  rw [← HVV.out] at K4
  rw [← HVV.out] at K5
  rw [← HVV.out] at K6
  simp only [Vl.vs] at hbl
  have kb : ((bvs.length : Int) == 2) = true := ibeq (by omega)
  clear hbl
  simp only [val_mk, Vl.n, Vl.m, Vl.s1, Vl.c1, Vl.v1] at HW2 X6 ⊢
  have s0 : World.cell? W2 ⟨w.heap.size, 0, none⟩ = some (.int .i64 3) := X0.2 0 _ rfl
  have s1 : World.cell? W2 ⟨w.heap.size, 1, none⟩ = some (.slice none 0 0) := X0.2 1 _ rfl
  have p0 : World.cell? W2 ⟨w.heap.size + 1 + 1, 0, none⟩ = some (.int .i64 5) := X2.2 0 _ rfl
  have p1 : World.cell? W2 ⟨w.heap.size + 1 + 1, 1, none⟩ = some (.slice (some ⟨w.heap.size + 1, 0, none⟩) 2 2) := X2.2 1 _ rfl
  have v0 : World.cell? W2 ⟨w.heap.size + 1 + 1 + 1 + 1 + 1, 0, none⟩ = some (.int .u64 0) := X5.2 0 _ rfl
  have v1 : World.cell? W2 ⟨w.heap.size + 1 + 1 + 1 + 1 + 1, 1, none⟩ = some (.int .u64 0) := X5.2 1 _ rfl
  have v2 : World.cell? W2 ⟨w.heap.size + 1 + 1 + 1 + 1 + 1, 2, none⟩ = some (.slice none 0 0) := X5.2 2 _ rfl
  have v3 : World.cell? W2 ⟨w.heap.size + 1 + 1 + 1 + 1 + 1, 3, none⟩ = some (.slice none 0 0) := X5.2 3 _ rfl
  have v4 : World.cell? W2 ⟨w.heap.size + 1 + 1 + 1 + 1 + 1, 4, none⟩ = some (.slice (some ⟨w.heap.size + 1 + 1 + 1 + 1, 0, none⟩) 2 2) := X5.2 4 _ rfl
  have b0 : World.cell? W2 ⟨w1.heap.size, 0, none⟩ = some (.int .u64 bn) := X6.2 0 _ rfl
  have b1 : World.cell? W2 ⟨w1.heap.size, 1, none⟩ = some (.int .u64 bm) := X6.2 1 _ rfl
  have b2 : World.cell? W2 ⟨w1.heap.size, 2, none⟩ = some (.slice bsA bss.length bsc) := X6.2 2 _ rfl
  have b3 : World.cell? W2 ⟨w1.heap.size, 3, none⟩ = some (.slice bcA bcs.length bcc) := X6.2 3 _ rfl
  have b4 : World.cell? W2 ⟨w1.heap.size, 4, none⟩ = some (.slice bvA bvs.length bvc) := X6.2 4 _ rfl
  have hW2 := HW2.out
  clear HW2
  go_wp2_with fail
  clear hW2
  refine (K0.out W2 hb2).mono ?_
  clear K0 s0 s1 p0 p1 v0 v1 v2 v3 v4 b0 b1 b2 b3 b4
  rintro e Y0 ⟨rfl, hb3⟩
  replace X0 := X0.later hb3
  replace X2 := X2.later hb3
  replace X5 := X5.later hb3
  replace X6 := X6.later hb3
  replace hB := hB.trans (hb3.mono hB.size)
  replace hb2 := hb2.trans (hb3.mono hb2.size)
  clear hb3
  have s0 : World.cell? Y0 ⟨w.heap.size, 0, none⟩ = some (.int .i64 3) := X0.2 0 _ rfl
  have s1 : World.cell? Y0 ⟨w.heap.size, 1, none⟩ = some (.slice none 0 0) := X0.2 1 _ rfl
  have p0 : World.cell? Y0 ⟨w.heap.size + 1 + 1, 0, none⟩ = some (.int .i64 5) := X2.2 0 _ rfl
  have p1 : World.cell? Y0 ⟨w.heap.size + 1 + 1, 1, none⟩ = some (.slice (some ⟨w.heap.size + 1, 0, none⟩) 2 2) := X2.2 1 _ rfl
  have v0 : World.cell? Y0 ⟨w.heap.size + 1 + 1 + 1 + 1 + 1, 0, none⟩ = some (.int .u64 0) := X5.2 0 _ rfl
  have v1 : World.cell? Y0 ⟨w.heap.size + 1 + 1 + 1 + 1 + 1, 1, none⟩ = some (.int .u64 0) := X5.2 1 _ rfl
  have v2 : World.cell? Y0 ⟨w.heap.size + 1 + 1 + 1 + 1 + 1, 2, none⟩ = some (.slice none 0 0) := X5.2 2 _ rfl
  have v3 : World.cell? Y0 ⟨w.heap.size + 1 + 1 + 1 + 1 + 1, 3, none⟩ = some (.slice none 0 0) := X5.2 3 _ rfl
  have v4 : World.cell? Y0 ⟨w.heap.size + 1 + 1 + 1 + 1 + 1, 4, none⟩ = some (.slice (some ⟨w.heap.size + 1 + 1 + 1 + 1, 0, none⟩) 2 2) := X5.2 4 _ rfl
  have b0 : World.cell? Y0 ⟨w1.heap.size, 0, none⟩ = some (.int .u64 bn) := X6.2 0 _ rfl
  have b1 : World.cell? Y0 ⟨w1.heap.size, 1, none⟩ = some (.int .u64 bm) := X6.2 1 _ rfl
  have b2 : World.cell? Y0 ⟨w1.heap.size, 2, none⟩ = some (.slice bsA bss.length bsc) := X6.2 2 _ rfl
  have b3 : World.cell? Y0 ⟨w1.heap.size, 3, none⟩ = some (.slice bcA bcs.length bcc) := X6.2 3 _ rfl
  have b4 : World.cell? Y0 ⟨w1.heap.size, 4, none⟩ = some (.slice bvA bvs.length bvc) := X6.2 4 _ rfl
  go_wp2_with fail
  refine (K1.out Y0 hb2).mono ?_
  clear K1 s0 s1 p0 p1 v0 v1 v2 v3 v4 b0 b1 b2 b3 b4
  rintro e Y1 ⟨rfl, hb3⟩
  replace X0 := X0.later hb3
  replace X2 := X2.later hb3
  replace X5 := X5.later hb3
  replace X6 := X6.later hb3
  replace hB := hB.trans (hb3.mono hB.size)
  replace hb2 := hb2.trans (hb3.mono hb2.size)
  clear hb3
  have s0 : World.cell? Y1 ⟨w.heap.size, 0, none⟩ = some (.int .i64 3) := X0.2 0 _ rfl
  have s1 : World.cell? Y1 ⟨w.heap.size, 1, none⟩ = some (.slice none 0 0) := X0.2 1 _ rfl
  have p0 : World.cell? Y1 ⟨w.heap.size + 1 + 1, 0, none⟩ = some (.int .i64 5) := X2.2 0 _ rfl
  have p1 : World.cell? Y1 ⟨w.heap.size + 1 + 1, 1, none⟩ = some (.slice (some ⟨w.heap.size + 1, 0, none⟩) 2 2) := X2.2 1 _ rfl
  have v0 : World.cell? Y1 ⟨w.heap.size + 1 + 1 + 1 + 1 + 1, 0, none⟩ = some (.int .u64 0) := X5.2 0 _ rfl
  have v1 : World.cell? Y1 ⟨w.heap.size + 1 + 1 + 1 + 1 + 1, 1, none⟩ = some (.int .u64 0) := X5.2 1 _ rfl
  have v2 : World.cell? Y1 ⟨w.heap.size + 1 + 1 + 1 + 1 + 1, 2, none⟩ = some (.slice none 0 0) := X5.2 2 _ rfl
  have v3 : World.cell? Y1 ⟨w.heap.size + 1 + 1 + 1 + 1 + 1, 3, none⟩ = some (.slice none 0 0) := X5.2 3 _ rfl
  have v4 : World.cell? Y1 ⟨w.heap.size + 1 + 1 + 1 + 1 + 1, 4, none⟩ = some (.slice (some ⟨w.heap.size + 1 + 1 + 1 + 1, 0, none⟩) 2 2) := X5.2 4 _ rfl
  have b0 : World.cell? Y1 ⟨w1.heap.size, 0, none⟩ = some (.int .u64 bn) := X6.2 0 _ rfl
  have b1 : World.cell? Y1 ⟨w1.heap.size, 1, none⟩ = some (.int .u64 bm) := X6.2 1 _ rfl
  have b2 : World.cell? Y1 ⟨w1.heap.size, 2, none⟩ = some (.slice bsA bss.length bsc) := X6.2 2 _ rfl
  have b3 : World.cell? Y1 ⟨w1.heap.size, 3, none⟩ = some (.slice bcA bcs.length bcc) := X6.2 3 _ rfl
  have b4 : World.cell? Y1 ⟨w1.heap.size, 4, none⟩ = some (.slice bvA bvs.length bvc) := X6.2 4 _ rfl
  go_wp2_with fail
  refine (K2.out Y1 hb2).mono ?_
  clear K2 s0 s1 p0 p1 v0 v1 v2 v3 v4 b0 b1 b2 b3 b4
  rintro e Y2 ⟨rfl, hb3⟩
  replace X0 := X0.later hb3
  replace X2 := X2.later hb3
  replace X5 := X5.later hb3
  replace X6 := X6.later hb3
  replace hB := hB.trans (hb3.mono hB.size)
  replace hb2 := hb2.trans (hb3.mono hb2.size)
  clear hb3
  have s0 : World.cell? Y2 ⟨w.heap.size, 0, none⟩ = some (.int .i64 3) := X0.2 0 _ rfl
  have s1 : World.cell? Y2 ⟨w.heap.size, 1, none⟩ = some (.slice none 0 0) := X0.2 1 _ rfl
  have p0 : World.cell? Y2 ⟨w.heap.size + 1 + 1, 0, none⟩ = some (.int .i64 5) := X2.2 0 _ rfl
  have p1 : World.cell? Y2 ⟨w.heap.size + 1 + 1, 1, none⟩ = some (.slice (some ⟨w.heap.size + 1, 0, none⟩) 2 2) := X2.2 1 _ rfl
  have v0 : World.cell? Y2 ⟨w.heap.size + 1 + 1 + 1 + 1 + 1, 0, none⟩ = some (.int .u64 0) := X5.2 0 _ rfl
  have v1 : World.cell? Y2 ⟨w.heap.size + 1 + 1 + 1 + 1 + 1, 1, none⟩ = some (.int .u64 0) := X5.2 1 _ rfl
  have v2 : World.cell? Y2 ⟨w.heap.size + 1 + 1 + 1 + 1 + 1, 2, none⟩ = some (.slice none 0 0) := X5.2 2 _ rfl
  have v3 : World.cell? Y2 ⟨w.heap.size + 1 + 1 + 1 + 1 + 1, 3, none⟩ = some (.slice none 0 0) := X5.2 3 _ rfl
  have v4 : World.cell? Y2 ⟨w.heap.size + 1 + 1 + 1 + 1 + 1, 4, none⟩ = some (.slice (some ⟨w.heap.size + 1 + 1 + 1 + 1, 0, none⟩) 2 2) := X5.2 4 _ rfl
  have b0 : World.cell? Y2 ⟨w1.heap.size, 0, none⟩ = some (.int .u64 bn) := X6.2 0 _ rfl
  have b1 : World.cell? Y2 ⟨w1.heap.size, 1, none⟩ = some (.int .u64 bm) := X6.2 1 _ rfl
  have b2 : World.cell? Y2 ⟨w1.heap.size, 2, none⟩ = some (.slice bsA bss.length bsc) := X6.2 2 _ rfl
  have b3 : World.cell? Y2 ⟨w1.heap.size, 3, none⟩ = some (.slice bcA bcs.length bcc) := X6.2 3 _ rfl
  have b4 : World.cell? Y2 ⟨w1.heap.size, 4, none⟩ = some (.slice bvA bvs.length bvc) := X6.2 4 _ rfl
  go_wp2_with fail
  refine (K3.out Y2 hb2).mono ?_
  clear K3 s0 s1 p0 p1 v0 v1 v2 v3 v4 b0 b1 b2 b3 b4
  rintro e Y3 ⟨rfl, hb3⟩
  replace X0 := X0.later hb3
  replace X2 := X2.later hb3
  replace X5 := X5.later hb3
  replace X6 := X6.later hb3
  replace hB := hB.trans (hb3.mono hB.size)
  replace hb2 := hb2.trans (hb3.mono hb2.size)
  clear hb3
  have s0 : World.cell? Y3 ⟨w.heap.size, 0, none⟩ = some (.int .i64 3) := X0.2 0 _ rfl
  have s1 : World.cell? Y3 ⟨w.heap.size, 1, none⟩ = some (.slice none 0 0) := X0.2 1 _ rfl
  have p0 : World.cell? Y3 ⟨w.heap.size + 1 + 1, 0, none⟩ = some (.int .i64 5) := X2.2 0 _ rfl
  have p1 : World.cell? Y3 ⟨w.heap.size + 1 + 1, 1, none⟩ = some (.slice (some ⟨w.heap.size + 1, 0, none⟩) 2 2) := X2.2 1 _ rfl
  have v0 : World.cell? Y3 ⟨w.heap.size + 1 + 1 + 1 + 1 + 1, 0, none⟩ = some (.int .u64 0) := X5.2 0 _ rfl
  have v1 : World.cell? Y3 ⟨w.heap.size + 1 + 1 + 1 + 1 + 1, 1, none⟩ = some (.int .u64 0) := X5.2 1 _ rfl
  have v2 : World.cell? Y3 ⟨w.heap.size + 1 + 1 + 1 + 1 + 1, 2, none⟩ = some (.slice none 0 0) := X5.2 2 _ rfl
  have v3 : World.cell? Y3 ⟨w.heap.size + 1 + 1 + 1 + 1 + 1, 3, none⟩ = some (.slice none 0 0) := X5.2 3 _ rfl
  have v4 : World.cell? Y3 ⟨w.heap.size + 1 + 1 + 1 + 1 + 1, 4, none⟩ = some (.slice (some ⟨w.heap.size + 1 + 1 + 1 + 1, 0, none⟩) 2 2) := X5.2 4 _ rfl
  have b0 : World.cell? Y3 ⟨w1.heap.size, 0, none⟩ = some (.int .u64 bn) := X6.2 0 _ rfl
  have b1 : World.cell? Y3 ⟨w1.heap.size, 1, none⟩ = some (.int .u64 bm) := X6.2 1 _ rfl
  have b2 : World.cell? Y3 ⟨w1.heap.size, 2, none⟩ = some (.slice bsA bss.length bsc) := X6.2 2 _ rfl
  have b3 : World.cell? Y3 ⟨w1.heap.size, 3, none⟩ = some (.slice bcA bcs.length bcc) := X6.2 3 _ rfl
  have b4 : World.cell? Y3 ⟨w1.heap.size, 4, none⟩ = some (.slice bvA bvs.length bvc) := X6.2 4 _ rfl
  go_wp2_with fail
  refine (K4.out Y3 hb2).mono ?_
  clear K4 s0 s1 p0 p1 v0 v1 v2 v3 v4 b0 b1 b2 b3 b4
  rintro e Y4 ⟨rfl, hb3⟩
  replace X0 := X0.later hb3
  replace X2 := X2.later hb3
  replace X5 := X5.later hb3
  replace X6 := X6.later hb3
  replace hB := hB.trans (hb3.mono hB.size)
  replace hb2 := hb2.trans (hb3.mono hb2.size)
  clear hb3
  have s0 : World.cell? Y4 ⟨w.heap.size, 0, none⟩ = some (.int .i64 3) := X0.2 0 _ rfl
  have s1 : World.cell? Y4 ⟨w.heap.size, 1, none⟩ = some (.slice none 0 0) := X0.2 1 _ rfl
  have p0 : World.cell? Y4 ⟨w.heap.size + 1 + 1, 0, none⟩ = some (.int .i64 5) := X2.2 0 _ rfl
  have p1 : World.cell? Y4 ⟨w.heap.size + 1 + 1, 1, none⟩ = some (.slice (some ⟨w.heap.size + 1, 0, none⟩) 2 2) := X2.2 1 _ rfl
  have v0 : World.cell? Y4 ⟨w.heap.size + 1 + 1 + 1 + 1 + 1, 0, none⟩ = some (.int .u64 0) := X5.2 0 _ rfl
  have v1 : World.cell? Y4 ⟨w.heap.size + 1 + 1 + 1 + 1 + 1, 1, none⟩ = some (.int .u64 0) := X5.2 1 _ rfl
  have v2 : World.cell? Y4 ⟨w.heap.size + 1 + 1 + 1 + 1 + 1, 2, none⟩ = some (.slice none 0 0) := X5.2 2 _ rfl
  have v3 : World.cell? Y4 ⟨w.heap.size + 1 + 1 + 1 + 1 + 1, 3, none⟩ = some (.slice none 0 0) := X5.2 3 _ rfl
  have v4 : World.cell? Y4 ⟨w.heap.size + 1 + 1 + 1 + 1 + 1, 4, none⟩ = some (.slice (some ⟨w.heap.size + 1 + 1 + 1 + 1, 0, none⟩) 2 2) := X5.2 4 _ rfl
  have b0 : World.cell? Y4 ⟨w1.heap.size, 0, none⟩ = some (.int .u64 bn) := X6.2 0 _ rfl
  have b1 : World.cell? Y4 ⟨w1.heap.size, 1, none⟩ = some (.int .u64 bm) := X6.2 1 _ rfl
  have b2 : World.cell? Y4 ⟨w1.heap.size, 2, none⟩ = some (.slice bsA bss.length bsc) := X6.2 2 _ rfl
  have b3 : World.cell? Y4 ⟨w1.heap.size, 3, none⟩ = some (.slice bcA bcs.length bcc) := X6.2 3 _ rfl
  have b4 : World.cell? Y4 ⟨w1.heap.size, 4, none⟩ = some (.slice bvA bvs.length bvc) := X6.2 4 _ rfl
  go_wp2_with fail
  refine (K5.out Y4 hb2).mono ?_
  clear K5 s0 s1 p0 p1 v0 v1 v2 v3 v4 b0 b1 b2 b3 b4
  rintro e Y5 ⟨rfl, hb3⟩
  replace X0 := X0.later hb3
  replace X2 := X2.later hb3
  replace X5 := X5.later hb3
  replace X6 := X6.later hb3
  replace hB := hB.trans (hb3.mono hB.size)
  replace hb2 := hb2.trans (hb3.mono hb2.size)
  clear hb3
  have s0 : World.cell? Y5 ⟨w.heap.size, 0, none⟩ = some (.int .i64 3) := X0.2 0 _ rfl
  have s1 : World.cell? Y5 ⟨w.heap.size, 1, none⟩ = some (.slice none 0 0) := X0.2 1 _ rfl
  have p0 : World.cell? Y5 ⟨w.heap.size + 1 + 1, 0, none⟩ = some (.int .i64 5) := X2.2 0 _ rfl
  have p1 : World.cell? Y5 ⟨w.heap.size + 1 + 1, 1, none⟩ = some (.slice (some ⟨w.heap.size + 1, 0, none⟩) 2 2) := X2.2 1 _ rfl
  have v0 : World.cell? Y5 ⟨w.heap.size + 1 + 1 + 1 + 1 + 1, 0, none⟩ = some (.int .u64 0) := X5.2 0 _ rfl
  have v1 : World.cell? Y5 ⟨w.heap.size + 1 + 1 + 1 + 1 + 1, 1, none⟩ = some (.int .u64 0) := X5.2 1 _ rfl
  have v2 : World.cell? Y5 ⟨w.heap.size + 1 + 1 + 1 + 1 + 1, 2, none⟩ = some (.slice none 0 0) := X5.2 2 _ rfl
  have v3 : World.cell? Y5 ⟨w.heap.size + 1 + 1 + 1 + 1 + 1, 3, none⟩ = some (.slice none 0 0) := X5.2 3 _ rfl
  have v4 : World.cell? Y5 ⟨w.heap.size + 1 + 1 + 1 + 1 + 1, 4, none⟩ = some (.slice (some ⟨w.heap.size + 1 + 1 + 1 + 1, 0, none⟩) 2 2) := X5.2 4 _ rfl
  have b0 : World.cell? Y5 ⟨w1.heap.size, 0, none⟩ = some (.int .u64 bn) := X6.2 0 _ rfl
  have b1 : World.cell? Y5 ⟨w1.heap.size, 1, none⟩ = some (.int .u64 bm) := X6.2 1 _ rfl
  have b2 : World.cell? Y5 ⟨w1.heap.size, 2, none⟩ = some (.slice bsA bss.length bsc) := X6.2 2 _ rfl
  have b3 : World.cell? Y5 ⟨w1.heap.size, 3, none⟩ = some (.slice bcA bcs.length bcc) := X6.2 3 _ rfl
  have b4 : World.cell? Y5 ⟨w1.heap.size, 4, none⟩ = some (.slice bvA bvs.length bvc) := X6.2 4 _ rfl
  go_wp2_with fail
  refine (K6.out Y5 hb2).mono ?_
  clear K6 s0 s1 p0 p1 v0 v1 v2 v3 v4 b0 b1 b2 b3 b4
  rintro e Y6 ⟨rfl, hb3⟩
  replace X0 := X0.later hb3
  replace X2 := X2.later hb3
  replace X5 := X5.later hb3
  replace X6 := X6.later hb3
  replace hB := hB.trans (hb3.mono hB.size)
  replace hb2 := hb2.trans (hb3.mono hb2.size)
  clear hb3
  have s0 : World.cell? Y6 ⟨w.heap.size, 0, none⟩ = some (.int .i64 3) := X0.2 0 _ rfl
  have s1 : World.cell? Y6 ⟨w.heap.size, 1, none⟩ = some (.slice none 0 0) := X0.2 1 _ rfl
  have p0 : World.cell? Y6 ⟨w.heap.size + 1 + 1, 0, none⟩ = some (.int .i64 5) := X2.2 0 _ rfl
  have p1 : World.cell? Y6 ⟨w.heap.size + 1 + 1, 1, none⟩ = some (.slice (some ⟨w.heap.size + 1, 0, none⟩) 2 2) := X2.2 1 _ rfl
  have v0 : World.cell? Y6 ⟨w.heap.size + 1 + 1 + 1 + 1 + 1, 0, none⟩ = some (.int .u64 0) := X5.2 0 _ rfl
  have v1 : World.cell? Y6 ⟨w.heap.size + 1 + 1 + 1 + 1 + 1, 1, none⟩ = some (.int .u64 0) := X5.2 1 _ rfl
  have v2 : World.cell? Y6 ⟨w.heap.size + 1 + 1 + 1 + 1 + 1, 2, none⟩ = some (.slice none 0 0) := X5.2 2 _ rfl
  have v3 : World.cell? Y6 ⟨w.heap.size + 1 + 1 + 1 + 1 + 1, 3, none⟩ = some (.slice none 0 0) := X5.2 3 _ rfl
  have v4 : World.cell? Y6 ⟨w.heap.size + 1 + 1 + 1 + 1 + 1, 4, none⟩ = some (.slice (some ⟨w.heap.size + 1 + 1 + 1 + 1, 0, none⟩) 2 2) := X5.2 4 _ rfl
  have b0 : World.cell? Y6 ⟨w1.heap.size, 0, none⟩ = some (.int .u64 bn) := X6.2 0 _ rfl
  have b1 : World.cell? Y6 ⟨w1.heap.size, 1, none⟩ = some (.int .u64 bm) := X6.2 1 _ rfl
  have b2 : World.cell? Y6 ⟨w1.heap.size, 2, none⟩ = some (.slice bsA bss.length bsc) := X6.2 2 _ rfl
  have b3 : World.cell? Y6 ⟨w1.heap.size, 3, none⟩ = some (.slice bcA bcs.length bcc) := X6.2 3 _ rfl
  have b4 : World.cell? Y6 ⟨w1.heap.size, 4, none⟩ = some (.slice bvA bvs.length bvc) := X6.2 4 _ rfl
  go_wp2_with fail
  refine (K7.out Y6 hb2).mono ?_
  rintro e Y7 ⟨rfl, hb3⟩
  replace hB := (belAl hB).trans (hb3.mono (belAl hB).size)
  go_wp2_with fail
  go_ret
  exact ⟨rfl, hB⟩
end Go.Proofs.Ytcpfjjimbnmaoaa.V4

namespace Go.Proofs.Ytcpfjjimbnmaoaa.V4
open Go.RowKit Go.Shelf
open C3 (Tk isC belAl drewB cmpC)
open S2 (Sc Tr isT allocB)

set_option maxHeartbeats 400000 in
theorem of_any (k : Int) (A : Option Addr) (n c : Nat) (w : World) : Calls Try.prog 20 #[.int .i64 k, .slice A n c] w (RetV w (.agg #[.int .i64 k, .slice A n c])) := by
  go_enter Try.func20, Try.ntmps20
  go_wp2_with fail
  refine bodyPost_ret (S2.results_cellS rfl _ _ w.heap.size (.int .i64 k) (.slice A n c) rfl (by go_simp) (by go_simp)) rfl ?_
  exact ⟨rfl, belAl (Below.refl _ _)⟩

theorem cmp_mk (p q x y : Int) : cmpC [⟨p, x⟩] [⟨q, y⟩] = C3.cmpB (decide (x ≤ (if q = p then y else 0)) && true) (decide (y ≤ (if p = q then x else 0)) && true) := rfl
theorem two_apart (p q x y : Int) (hx : 1 ≤ x) (hy : 1 ≤ y) : (aheadC [⟨p, x⟩] [⟨q, y⟩] && decide (cmpC [⟨p, x⟩] [⟨q, y⟩] = 2)) = decide (p < q) := by
  by_cases h : p = q
  · subst h
    have h2 : cmpC [⟨p, x⟩] [⟨p, y⟩] ≠ 2 := by
      rw [cmp_mk, if_pos rfl, if_pos rfl, Bool.and_true, Bool.and_true]
      by_cases h1 : x ≤ y
      · rw [decide_eq_true h1]; cases decide (y ≤ x) <;> decide
      · rw [decide_eq_false h1, decide_eq_true (show y ≤ x by omega)]; decide
    rw [decide_eq_false h2, Bool.and_false, decide_eq_false (by omega)]
  · have h2 : cmpC [⟨p, x⟩] [⟨q, y⟩] = 2 := by
      rw [cmp_mk, if_neg (fun e => h e.symm), if_neg h, decide_eq_false (show ¬ x ≤ 0 by omega), decide_eq_false (show ¬ y ≤ 0 by omega)]
      rfl
    rw [h2, aheadC, if_neg h]
    simp

theorem tick_ok (p x : Int) (hp : 0 ≤ p ∧ p ≤ 1000) (hx : 1 ≤ x) : isC [⟨p, x⟩] = true := by
  unfold C3.isC C3.bad
  simp [C3.Asc]
  omega

theorem num_1 : isV (.mk 1 []) (.mk 1 0 [] [] []) = true := by rw [isV, base_mk, fits_1]; simp [hasN, R1.Srt]
theorem num_0 : isV (.mk 1 []) .zero = true := by rw [Va.zero, isV, base_mk, fits_1]; simp [hasN, R1.Srt]

theorem sib_two (p q x y : Int) (hp : 0 ≤ p ∧ p ≤ 1000) (hq : 0 ≤ q ∧ q ≤ 1000) (hx : 1 ≤ x) (hy : 1 ≤ y) :
    isV (.mk 8 [.mk 1 []]) (.mk 0 0 [] [[⟨p, x⟩], [⟨q, y⟩]] [.mk 1 0 [] [] [], .zero]) = decide (p < q) := by
  rw [isV, base_mk, fits_ne 8 (by decide) (by decide) (by decide) (by decide) (by decide) (by decide) (by decide), sibs_mk, if_neg (by decide)]
  rw [← two_apart p q x y hx hy]
  simp only [sibGo, tick_ok p x hp hx, tick_ok q y hq hy, num_1, num_0, lastAhead, List.nil_append, List.getLast?_nil, List.getLast?_singleton, List.all_nil, List.all_cons, Bool.true_and, Bool.and_true]
  simp [hasN, R1.Srt]

/-- A clock of one tick that lies in block b. -/
def ckOne (b : Nat) (p x : Int) : Ck := ⟨some ⟨b, 0, none⟩, 1, [⟨p, x⟩]⟩
theorem ckOne_in {W : World} {b : Nat} {p x : Int} (h : Bxd W b #[.int .i64 p, .int .u64 x]) (hx : 0 ≤ x ∧ x ≤ 18446744073709551615) : (ckOne b p x).Inp (fun b => b < W.heap.size) W := by
  refine ⟨.inr ⟨b, 0, rfl, h.1, fun i u hu => ?_⟩, by simp [ckOne], by simp [ckOne, maxLen], fun t ht => ?_, by simp [ckOne]⟩
  · rw [Nat.zero_add]
    exact h.2 i u (by simpa [ckOne, C3.cellsT] using hu)
  · simp [ckOne] at ht
    subst ht
    exact hx

/-- A value of clocks and values that lie in blocks c and v. -/
def vlCV (n m : Int) (sA : Option Addr) (ss : List Str) (c : Nat) (cs : List Ck) (v : Nat) (vs : List Vl) : Vl := .mk n m sA ss.length ss (some ⟨c, 0, none⟩) cs.length cs (some ⟨v, 0, none⟩) vs.length vs
theorem vlCV_in {W : World} {c v : Nat} {cs : List Ck} {vs : List Vl} {c1 c2 : Array Value} (hc : Bxd W c c1) (e1 : c1 = (cellsC cs).toArray) (hv : Bxd W v c2) (e2 : c2 = (cellsV vs).toArray) (l1 : cs.length ≤ 1000) (l2 : vs.length ≤ 1000)
    (h1 : ∀ k ∈ cs, k.Inp (fun b => b < W.heap.size) W) (h2 : ∀ x ∈ vs, x.In W) : (vlCV 0 0 none [] c cs v vs).In W := by
  refine .mk _ _ _ _ _ _ _ _ _ _ _ (by omega) (by omega) .nil (by simp [maxLen]) (by simp) (.inr ⟨c, 0, rfl, hc.1, fun i u hu => ?_⟩) (by simp [maxLen]; omega) h1 (.inr ⟨v, 0, rfl, hv.1, fun i u hu => ?_⟩) (by simp [maxLen]; omega) h2
  · rw [Nat.zero_add]
    exact hc.2 i u (by rw [e1]; simpa using hu)
  · rw [Nat.zero_add]
    exact hv.2 i u (by rw [e2]; simpa using hu)
end Go.Proofs.Ytcpfjjimbnmaoaa.V4

namespace Go.Proofs.Ytcpfjjimbnmaoaa.V4
open Go.RowKit Go.Shelf
open C3 (Tk isC belAl drewB)
open S2 (Sc Tr isT allocB)

theorem u8_ok {n : Int} (h : (Lit.int .u8 n).wf = true) : 0 ≤ n ∧ n ≤ 255 := by
  simp [Lit.wf] at h
  have e1 : IntKind.u8.min = 0 := by decide
  have e2 : IntKind.u8.max = 255 := by decide
  omega

set_option maxRecDepth 100000 in
set_option maxHeartbeats 4000000 in
theorem valueSiblings_all (a0 a1 a2 a3 : Int) (w0 : (Lit.int .u8 a0).wf = true) (w1 : (Lit.int .u8 a1).wf = true) (w2 : (Lit.int .u8 a2).wf = true) (w3 : (Lit.int .u8 a3).wf = true) (w : World) :
    Calls Try.prog 6 #[.int .u8 a0, .int .u8 a1, .int .u8 a2, .int .u8 a3] w (RetV w (.bool true)) := by
  have h0 := u8_ok w0
  have h1 := u8_ok w1
  have h2 := u8_ok w2
  have h3 := u8_ok w3
  clear w0 w1 w2 w3
  go_enter Try.func6, Try.ntmps6
  go_wp2_with fail
  refine (known_any _).mono ?_
  rintro e W ⟨rfl, hB⟩
  obtain ⟨V, hV⟩ : ∃ V, (((((W.alloc (.cells #[.int .i64 (a0 % 4), .int .u64 (a2 % 3 + 1)] 39)).alloc (.cells #[.int .i64 (a1 % 4), .int .u64 (a3 % 3 + 1)] 39)).alloc (.cells #[.slice (some ⟨W.heap.size, 0, none⟩) 1 1, .slice (some ⟨W.heap.size + 1, 0, none⟩) 1 1] 40)).alloc (.cells #[.int .u64 1, .int .u64 0, .slice none 0 0, .slice none 0 0, .slice none 0 0, .int .u64 0, .int .u64 0, .slice none 0 0, .slice none 0 0, .slice none 0 0] 30)).alloc (.cells #[.int .u64 0, .int .u64 0, .slice none 0 0, .slice (some ⟨W.heap.size + 1 + 1, 0, none⟩) 2 2, .slice (some ⟨W.heap.size + 1 + 1 + 1, 0, none⟩) 2 2] 30)) = V := ⟨_, rfl⟩
  have X0 : Bxd V (W.heap.size) #[.int .i64 (a0 % 4), .int .u64 (a2 % 3 + 1)] := by
    rw [← hV]
    have := Bxd.new (W := W) (cs := #[.int .i64 (a0 % 4), .int .u64 (a2 % 3 + 1)]) (t := 39)
    exact (((this.al _).al _).al _).al _
  have X1 : Bxd V (W.heap.size + 1) #[.int .i64 (a1 % 4), .int .u64 (a3 % 3 + 1)] := by
    rw [← hV]
    have := Bxd.new (W := (W.alloc (.cells #[.int .i64 (a0 % 4), .int .u64 (a2 % 3 + 1)] 39))) (cs := #[.int .i64 (a1 % 4), .int .u64 (a3 % 3 + 1)]) (t := 39)
    rw [World.size_alloc] at this
    exact ((this.al _).al _).al _
  have X2 : Bxd V (W.heap.size + 1 + 1) #[.slice (some ⟨W.heap.size, 0, none⟩) 1 1, .slice (some ⟨W.heap.size + 1, 0, none⟩) 1 1] := by
    rw [← hV]
    have := Bxd.new (W := ((W.alloc (.cells #[.int .i64 (a0 % 4), .int .u64 (a2 % 3 + 1)] 39)).alloc (.cells #[.int .i64 (a1 % 4), .int .u64 (a3 % 3 + 1)] 39))) (cs := #[.slice (some ⟨W.heap.size, 0, none⟩) 1 1, .slice (some ⟨W.heap.size + 1, 0, none⟩) 1 1]) (t := 40)
    rw [World.size_alloc, World.size_alloc] at this
    exact (this.al _).al _
  have X3 : Bxd V (W.heap.size + 1 + 1 + 1) #[.int .u64 1, .int .u64 0, .slice none 0 0, .slice none 0 0, .slice none 0 0, .int .u64 0, .int .u64 0, .slice none 0 0, .slice none 0 0, .slice none 0 0] := by
    rw [← hV]
    have := Bxd.new (W := (((W.alloc (.cells #[.int .i64 (a0 % 4), .int .u64 (a2 % 3 + 1)] 39)).alloc (.cells #[.int .i64 (a1 % 4), .int .u64 (a3 % 3 + 1)] 39)).alloc (.cells #[.slice (some ⟨W.heap.size, 0, none⟩) 1 1, .slice (some ⟨W.heap.size + 1, 0, none⟩) 1 1] 40))) (cs := #[.int .u64 1, .int .u64 0, .slice none 0 0, .slice none 0 0, .slice none 0 0, .int .u64 0, .int .u64 0, .slice none 0 0, .slice none 0 0, .slice none 0 0]) (t := 30)
    rw [World.size_alloc, World.size_alloc, World.size_alloc] at this
    exact this.al _
  have X4 : Bxd V (W.heap.size + 1 + 1 + 1 + 1) #[.int .u64 0, .int .u64 0, .slice none 0 0, .slice (some ⟨W.heap.size + 1 + 1, 0, none⟩) 2 2, .slice (some ⟨W.heap.size + 1 + 1 + 1, 0, none⟩) 2 2] := by
    rw [← hV]
    have := Bxd.new (W := ((((W.alloc (.cells #[.int .i64 (a0 % 4), .int .u64 (a2 % 3 + 1)] 39)).alloc (.cells #[.int .i64 (a1 % 4), .int .u64 (a3 % 3 + 1)] 39)).alloc (.cells #[.slice (some ⟨W.heap.size, 0, none⟩) 1 1, .slice (some ⟨W.heap.size + 1, 0, none⟩) 1 1] 40)).alloc (.cells #[.int .u64 1, .int .u64 0, .slice none 0 0, .slice none 0 0, .slice none 0 0, .int .u64 0, .int .u64 0, .slice none 0 0, .slice none 0 0, .slice none 0 0] 30))) (cs := #[.int .u64 0, .int .u64 0, .slice none 0 0, .slice (some ⟨W.heap.size + 1 + 1, 0, none⟩) 2 2, .slice (some ⟨W.heap.size + 1 + 1 + 1, 0, none⟩) 2 2]) (t := 30)
    rw [World.size_alloc, World.size_alloc, World.size_alloc, World.size_alloc] at this
    exact this
  have hbV : Below W.heap.size W V := by rw [← hV]; exact belAl (belAl (belAl (belAl (belAl (Below.refl _ _)))))
  have hi : (vlCV 0 0 none [] (W.heap.size + 1 + 1) [ckOne (W.heap.size) (a0 % 4) (a2 % 3 + 1), ckOne (W.heap.size + 1) (a1 % 4) (a3 % 3 + 1)] (W.heap.size + 1 + 1 + 1) [vlNum 1, vlNum 0]).In V := vlCV_in X2 rfl X3 rfl (by simp) (by simp)
    (fun k hk => by
      rcases List.mem_cons.1 hk with rfl | hk
      · exact ckOne_in X0 (by omega)
      · rw [List.mem_singleton.1 hk]; exact ckOne_in X1 (by omega))
    (fun x hx => by
      rcases List.mem_cons.1 hx with rfl | hx
      · exact vlNum_in _ (by omega) _ _
      · rw [List.mem_singleton.1 hx]; exact vlNum_in _ (by omega) _ _)
  have HM : Hid ((isT 16 (.mk 8 [.mk 1 []]) && isV (.mk 8 [.mk 1 []]) (vlCV 0 0 none [] (W.heap.size + 1 + 1) [ckOne (W.heap.size) (a0 % 4) (a2 % 3 + 1), ckOne (W.heap.size + 1) (a1 % 4) (a3 % 3 + 1)] (W.heap.size + 1 + 1 + 1) [vlNum 1, vlNum 0]).er) = decide ((a0 % 4) < (a1 % 4))) := by
    show (_ && _) = _
    rw [show isT 16 (.mk 8 [.mk 1 []]) = true by decide, Bool.true_and]
    exact sib_two (a0 % 4) (a1 % 4) (a2 % 3 + 1) (a3 % 3 + 1) (by omega) (by omega) (by omega) (by omega)
  have HV := Lib.hid (And.intro (X4.later (drewB V)) (hi.later (drewB V)))
  have HW : Hid (Below w.heap.size w V.drew) := (hB.trans (hbV.mono hB.size)).drew
  have HVV := Lib.hid hV
  have c0 : World.cell? V ⟨W.heap.size + 1 + 1 + 1 + 1, 0, none⟩ = some (.int .u64 0) := X4.2 0 _ rfl
  have c1 : World.cell? V ⟨W.heap.size + 1 + 1 + 1 + 1, 1, none⟩ = some (.int .u64 0) := X4.2 1 _ rfl
  have c2 : World.cell? V ⟨W.heap.size + 1 + 1 + 1 + 1, 2, none⟩ = some (.slice none 0 0) := X4.2 2 _ rfl
  have c3 : World.cell? V ⟨W.heap.size + 1 + 1 + 1 + 1, 3, none⟩ = some (.slice (some ⟨W.heap.size + 1 + 1, 0, none⟩) 2 2) := X4.2 3 _ rfl
  have c4 : World.cell? V ⟨W.heap.size + 1 + 1 + 1 + 1, 4, none⟩ = some (.slice (some ⟨W.heap.size + 1 + 1 + 1, 0, none⟩) 2 2) := X4.2 4 _ rfl
  have hsW := X4.1
  clear X0 X1 X2 X3 X4 hi hbV hV
  go_wp2_with fail
  rw [HVV.out]
  clear HVV hB
  refine wp_region_noPanic ?_
  refine wp_region_held_drew (S := (fun w' => World.cell? w' ⟨W.heap.size + 1 + 1 + 1 + 1, 0, none⟩ = some (.int .u64 0) ∧ World.cell? w' ⟨W.heap.size + 1 + 1 + 1 + 1, 1, none⟩ = some (.int .u64 0) ∧ World.cell? w' ⟨W.heap.size + 1 + 1 + 1 + 1, 2, none⟩ = some (.slice none 0 0) ∧ World.cell? w' ⟨W.heap.size + 1 + 1 + 1 + 1, 3, none⟩ = some (.slice (some ⟨W.heap.size + 1 + 1, 0, none⟩) 2 2) ∧ World.cell? w' ⟨W.heap.size + 1 + 1 + 1 + 1, 4, none⟩ = some (.slice (some ⟨W.heap.size + 1 + 1 + 1, 0, none⟩) 2 2))) (by kernel_rfl) ?_ (fun hHeld => ?_)
  · exact ⟨c0, c1, c2, c3, c4⟩
  refine takeH 3 46 (v := ?q1_v3) rfl rfl (by kernel_rfl) (by kernel_rfl) (by kernel_rfl) (fun _ _ _ h => h) (Or.inl ⟨by rfl, ?q1_h3⟩) (by assumption) ?q1_r3
  case q1_h3 => (intro w hSw; (try dsimp only at hSw); go_simp; try (with_reducible rfl))
  simp only [List.set_cons_zero, List.set_cons_succ]
  refine takeH 5 48 (v := ?q1_v5) rfl rfl (by kernel_rfl) (by kernel_rfl) (by kernel_rfl) (fun _ _ _ h => h) (Or.inl ⟨by rfl, ?q1_h5⟩) (by assumption) ?q1_r5
  case q1_h5 => (intro w hSw; (try dsimp only at hSw); go_simp; try (with_reducible rfl))
  simp only [List.set_cons_zero, List.set_cons_succ]
  refine takeH 6 49 (v := ?q1_v6) rfl rfl (by kernel_rfl) (by kernel_rfl) (by kernel_rfl) (fun _ _ _ h => h) (Or.inl ⟨by rfl, ?q1_h6⟩) (by assumption) ?q1_r6
  case q1_h6 => (intro w hSw; (try dsimp only at hSw); go_simp; try (with_reducible rfl))
  simp only [List.set_cons_zero, List.set_cons_succ]
  refine takeH 7 50 (v := ?q1_v7) rfl rfl (by kernel_rfl) (by kernel_rfl) (by kernel_rfl) (fun _ _ _ h => h) (Or.inl ⟨by rfl, ?q1_h7⟩) (by assumption) ?q1_r7
  case q1_h7 => (intro w hSw; (try dsimp only at hSw); go_simp; try (with_reducible rfl))
  simp only [List.set_cons_zero, List.set_cons_succ]
  refine wpAnyH_ready (rs := [0]) (by kernel_rfl) (by simp) ?_
  refine AllReadyH.cons rfl (fun K hK => ?_) AllReadyH.nil
  go_simp
  go_wp2_with (go_at_call 20; refine (of_any 1 none 0 0 _).mono ?_; rintro e y0 ⟨rfl, hbj⟩; (replace c0 : World.cell? y0 ⟨W.heap.size + 1 + 1 + 1 + 1, 0, none⟩ = some (.int .u64 0) := (HV.out.1.later hbj).2 0 _ rfl; replace c1 : World.cell? y0 ⟨W.heap.size + 1 + 1 + 1 + 1, 1, none⟩ = some (.int .u64 0) := (HV.out.1.later hbj).2 1 _ rfl; replace c2 : World.cell? y0 ⟨W.heap.size + 1 + 1 + 1 + 1, 2, none⟩ = some (.slice none 0 0) := (HV.out.1.later hbj).2 2 _ rfl; replace c3 : World.cell? y0 ⟨W.heap.size + 1 + 1 + 1 + 1, 3, none⟩ = some (.slice (some ⟨W.heap.size + 1 + 1, 0, none⟩) 2 2) := (HV.out.1.later hbj).2 3 _ rfl; replace c4 : World.cell? y0 ⟨W.heap.size + 1 + 1 + 1 + 1, 4, none⟩ = some (.slice (some ⟨W.heap.size + 1 + 1 + 1, 0, none⟩) 2 2) := (HV.out.1.later hbj).2 4 _ rfl; replace HV := Lib.hid (And.intro (HV.out.1.later hbj) (HV.out.2.later hbj)); replace HW := Lib.hid (HW.out.trans (hbj.mono HW.out.size)); clear hbj))
  refine hK.out _ _ ?_ (fun hHeld => ?_)
  · exact ⟨c0, c1, c2, c3, c4⟩
  clear hK K
  refine wpAnyH_ready (rs := [1]) (by kernel_rfl) (by simp) ?_
  refine AllReadyH.cons rfl (fun K hK => ?_) AllReadyH.nil
  go_simp
  obtain ⟨y1, hy1⟩ : ∃ y1, y0.alloc (.cells #[.int .i64 1, .slice none 0 0] 24) = y1 := ⟨_, rfl⟩
  rw [hy1]
  have hbj : Below y0.heap.size y0 y1 := by rw [← hy1]; exact allocB _ _
  have HX : Hid (Bxd y1 y0.heap.size #[.int .i64 1, .slice none 0 0]) := by rw [← hy1]; exact Bxd.new
  replace c0 : World.cell? y1 ⟨W.heap.size + 1 + 1 + 1 + 1, 0, none⟩ = some (.int .u64 0) := (HV.out.1.later hbj).2 0 _ rfl
  replace c1 : World.cell? y1 ⟨W.heap.size + 1 + 1 + 1 + 1, 1, none⟩ = some (.int .u64 0) := (HV.out.1.later hbj).2 1 _ rfl
  replace c2 : World.cell? y1 ⟨W.heap.size + 1 + 1 + 1 + 1, 2, none⟩ = some (.slice none 0 0) := (HV.out.1.later hbj).2 2 _ rfl
  replace c3 : World.cell? y1 ⟨W.heap.size + 1 + 1 + 1 + 1, 3, none⟩ = some (.slice (some ⟨W.heap.size + 1 + 1, 0, none⟩) 2 2) := (HV.out.1.later hbj).2 3 _ rfl
  replace c4 : World.cell? y1 ⟨W.heap.size + 1 + 1 + 1 + 1, 4, none⟩ = some (.slice (some ⟨W.heap.size + 1 + 1 + 1, 0, none⟩) 2 2) := (HV.out.1.later hbj).2 4 _ rfl
  replace HV := Lib.hid (And.intro (HV.out.1.later hbj) (HV.out.2.later hbj))
  replace HW := Lib.hid (HW.out.trans (hbj.mono HW.out.size))
  clear hbj hy1
  refine hK.out _ _ ?_ (fun hHeld => ?_)
  · exact ⟨c0, c1, c2, c3, c4⟩
  clear hK K
  refine wpAnyH_ready (rs := [2]) (by kernel_rfl) (by simp) ?_
  refine AllReadyH.cons rfl (fun K hK => ?_) AllReadyH.nil
  go_simp
  go_wp2_with (go_at_call 20; refine (of_any 8 (some ⟨y0.heap.size, 0, none⟩) 1 1 _).mono ?_; rintro e y2 ⟨rfl, hbj⟩; (replace HX := Lib.hid (HX.out.later hbj); replace c0 : World.cell? y2 ⟨W.heap.size + 1 + 1 + 1 + 1, 0, none⟩ = some (.int .u64 0) := (HV.out.1.later hbj).2 0 _ rfl; replace c1 : World.cell? y2 ⟨W.heap.size + 1 + 1 + 1 + 1, 1, none⟩ = some (.int .u64 0) := (HV.out.1.later hbj).2 1 _ rfl; replace c2 : World.cell? y2 ⟨W.heap.size + 1 + 1 + 1 + 1, 2, none⟩ = some (.slice none 0 0) := (HV.out.1.later hbj).2 2 _ rfl; replace c3 : World.cell? y2 ⟨W.heap.size + 1 + 1 + 1 + 1, 3, none⟩ = some (.slice (some ⟨W.heap.size + 1 + 1, 0, none⟩) 2 2) := (HV.out.1.later hbj).2 3 _ rfl; replace c4 : World.cell? y2 ⟨W.heap.size + 1 + 1 + 1 + 1, 4, none⟩ = some (.slice (some ⟨W.heap.size + 1 + 1 + 1, 0, none⟩) 2 2) := (HV.out.1.later hbj).2 4 _ rfl; replace HV := Lib.hid (And.intro (HV.out.1.later hbj) (HV.out.2.later hbj)); replace HW := Lib.hid (HW.out.trans (hbj.mono HW.out.size)); clear hbj))
  refine hK.out _ _ ?_ (fun hHeld => ?_)
  · exact ⟨c0, c1, c2, c3, c4⟩
  clear hK K
  refine wpAnyH_ready (rs := [4]) (by kernel_rfl) (by simp) ?_
  refine AllReadyH.cons rfl (fun K hK => ?_) AllReadyH.nil
  go_simp
  go_wp2_with (go_at_call 9; refine (Is_any (scRow 8 y0.heap.size [scLeaf 1]) (vlCV 0 0 none [] (W.heap.size + 1 + 1) [ckOne (W.heap.size) (a0 % 4) (a2 % 3 + 1), ckOne (W.heap.size + 1) (a1 % 4) (a3 % 3 + 1)] (W.heap.size + 1 + 1 + 1) [vlNum 1, vlNum 0]) _ (scRow_in 8 HX.out rfl (by simp) (fun s hs => by rw [List.mem_singleton.1 hs]; exact scLeaf_in _ _ _)) HV.out.2).mono ?_; rintro e y4 ⟨rfl, hbj⟩; (rw [show (scRow 8 y0.heap.size [scLeaf 1]).er = .mk 8 [.mk 1 []] from rfl, HM.out]; replace c0 : World.cell? y4 ⟨W.heap.size + 1 + 1 + 1 + 1, 0, none⟩ = some (.int .u64 0) := (HV.out.1.later hbj).2 0 _ rfl; replace c1 : World.cell? y4 ⟨W.heap.size + 1 + 1 + 1 + 1, 1, none⟩ = some (.int .u64 0) := (HV.out.1.later hbj).2 1 _ rfl; replace c2 : World.cell? y4 ⟨W.heap.size + 1 + 1 + 1 + 1, 2, none⟩ = some (.slice none 0 0) := (HV.out.1.later hbj).2 2 _ rfl; replace c3 : World.cell? y4 ⟨W.heap.size + 1 + 1 + 1 + 1, 3, none⟩ = some (.slice (some ⟨W.heap.size + 1 + 1, 0, none⟩) 2 2) := (HV.out.1.later hbj).2 3 _ rfl; replace c4 : World.cell? y4 ⟨W.heap.size + 1 + 1 + 1 + 1, 4, none⟩ = some (.slice (some ⟨W.heap.size + 1 + 1 + 1, 0, none⟩) 2 2) := (HV.out.1.later hbj).2 4 _ rfl; replace HV := Lib.hid (And.intro (HV.out.1.later hbj) (HV.out.2.later hbj)); replace HW := Lib.hid (HW.out.trans (hbj.mono HW.out.size)); clear hbj))
  refine hK.out _ _ ?_ (fun hHeld => ?_)
  · exact ⟨c0, c1, c2, c3, c4⟩
  clear hK K
  refine takeH 8 51 (v := ?q1_v8) rfl rfl (by kernel_rfl) (by kernel_rfl) (by kernel_rfl) (fun _ _ _ h => h) (Or.inl ⟨by rfl, ?q1_h8⟩) (by assumption) ?q1_r8
  case q1_h8 => (intro w hSw; (try dsimp only at hSw); go_simp; try (with_reducible rfl))
  simp only [List.set_cons_zero, List.set_cons_succ]
  refine takeH 9 8 (v := ?q1_v9) rfl rfl (by kernel_rfl) (by kernel_rfl) (by kernel_rfl) (fun _ _ _ h => h) (Or.inl ⟨by rfl, ?q1_h9⟩) (by assumption) ?q1_r9
  case q1_h9 => (intro w hSw; (try dsimp only at hSw); go_simp; try (with_reducible rfl))
  simp only [List.set_cons_zero, List.set_cons_succ]
  refine wpAnyH_done (by kernel_rfl) ?_ _
  refine NoPanic.normal ?_
  go_wp2_with fail
  go_ret
  exact ⟨by simp, HW.out⟩
end Go.Proofs.Ytcpfjjimbnmaoaa.V4
