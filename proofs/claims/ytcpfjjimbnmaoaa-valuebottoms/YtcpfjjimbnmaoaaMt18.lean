/- What the law's own test, known, answers: yes. No condition. -/
import Derived.Test.YtcpfjjimbnmaoaaMt17
namespace Go.Proofs.Ytcpfjjimbnmaoaa.V4
open Go.RowKit Go.Shelf
open C3 (Tk isC belAl)
open S2 (Sc Tr isT allocB)

/-- A variable: its cells. -/
def Bxd (W : World) (b : Nat) (cs : Array Value) : Prop := b < W.heap.size ∧ ∀ i v, cs[i]? = some v → W.cell? ⟨b, i, none⟩ = some v
theorem Bxd.later {W W' : World} {b : Nat} {cs : Array Value} (h : Bxd W b cs) (hb : Below W.heap.size W W') : Bxd W' b cs := ⟨Nat.lt_of_lt_of_le h.1 hb.size, fun i v hv => (hb.cell (p := ⟨b, i, none⟩) h.1).trans (h.2 i v hv)⟩
theorem Bxd.new {W : World} {cs : Array Value} {t : TypeId} : Bxd (W.alloc (.cells cs t)) W.heap.size cs := ⟨by simp, fun i v h => alloc_cells i v h⟩
theorem Bxd.al {W : World} {b : Nat} {cs : Array Value} (h : Bxd W b cs) (o : Obj) : Bxd (W.alloc o) b cs := h.later (allocB W o)

/-- A schema without any in it, a value without any: wherever. -/
def scLeaf (k : Int) : Sc := .mk k none 0 []
def vlNum (n : Int) : Vl := .mk n 0 none 0 [] none 0 [] none 0 []
theorem scLeaf_in (k : Int) (P : Nat → Prop) (W : World) : (scLeaf k).Inp P W := .mk _ _ _ _ (.inl rfl) (by simp) (by simp) (by simp) (by simp)
theorem vlNum_in (n : Int) (hn : 0 ≤ n ∧ n ≤ 18446744073709551615) (P : Nat → Prop) (W : World) : (vlNum n).Inp P W :=
  .mk _ _ _ _ _ _ _ _ _ _ _ hn (by omega) .nil (by simp [maxLen]) (by simp) .nil (by simp [maxLen]) (by simp) .nil (by simp [maxLen]) (by simp)
/-- A value of texts alone, that lie in block b. -/
def vlTexts (n b : Nat) (ss : List Str) : Vl := .mk n 0 (some ⟨b, 0, none⟩) ss.length ss none 0 [] none 0 []
theorem vlTexts_in {W : World} {b : Nat} {ss : List Str} {cs : Array Value} (n : Nat) (hn : n ≤ 1000) (h : Bxd W b cs) (hcs : cs = (cellsS ss).toArray) (hl : ss.length ≤ 1000) (ht : ∀ s ∈ ss, s.length ≤ 1000) : (vlTexts n b ss).In W := by
  refine .mk _ _ _ _ _ _ _ _ _ _ _ (by omega) (by omega) (.inr ⟨b, 0, rfl, h.1, fun i u hu => ?_⟩) (by simp [maxLen]; omega) (fun s hs => by have := ht s hs; unfold maxLen; omega) .nil (by simp [maxLen]) (by simp) .nil (by simp [maxLen]) (by simp)
  rw [Nat.zero_add]
  exact h.2 i u (by rw [hcs]; simpa using hu)

/-- A schema of one or two that lie in block b. -/
def scRow (k : Int) (b : Nat) (l : List Sc) : Sc := .mk k (some ⟨b, 0, none⟩) l.length l
theorem scRow_in {W : World} {b : Nat} {l : List Sc} {cs : Array Value} (k : Int) (h : Bxd W b cs) (hcs : cs = (l.flatMap fun s => [.int .i64 s.k, s.v1]).toArray) (hl : l.length ≤ 1000) (hin : ∀ s ∈ l, s.In W.heap.size W) : (scRow k b l).In W.heap.size W := by
  refine .mk _ _ _ _ (.inr ⟨b, 0, rfl, h.1, fun i s hs => ?_⟩) (Nat.le_refl _) (by omega) (by omega) hin
  have hc : ∀ (l : List Sc) (i : Nat) (s : Sc), l[i]? = some s → (l.flatMap fun s => [Value.int .i64 s.k, s.v1])[i * 2]? = some (.int .i64 s.k) ∧ (l.flatMap fun s => [Value.int .i64 s.k, s.v1])[i * 2 + 1]? = some s.v1 := fun l => by
    induction l with
    | nil => intro i s h; simp at h
    | cons y l ih =>
      intro i s h
      cases i with
      | zero => simp at h; subst h; simp
      | succ i =>
        have := ih i s (by simpa using h)
        rw [show (i + 1) * 2 = i * 2 + 1 + 1 by omega]
        simpa using this
  obtain ⟨h0, h1⟩ := hc l i s hs
  rw [Nat.zero_add]
  exact ⟨h.2 _ _ (by rw [hcs]; simpa using h0), h.2 _ _ (by rw [hcs]; simpa using h1)⟩
/-- A value of values alone, that lie in block b. -/
def vlRow (b : Nat) (vs : List Vl) : Vl := .mk 0 0 none 0 [] none 0 [] (some ⟨b, 0, none⟩) vs.length vs
theorem vlRow_in {W : World} {b : Nat} {vs : List Vl} {cs : Array Value} (h : Bxd W b cs) (hcs : cs = (cellsV vs).toArray) (hl : vs.length ≤ 1000) (hin : ∀ x ∈ vs, x.In W) : (vlRow b vs).In W := by
  refine .mk _ _ _ _ _ _ _ _ _ _ _ (by omega) (by omega) .nil (by simp [maxLen]) (by simp) .nil (by simp [maxLen]) (by simp) (.inr ⟨b, 0, rfl, h.1, fun i u hu => ?_⟩) (by simp [maxLen]; omega) hin
  rw [Nat.zero_add]
  exact h.2 i u (by rw [hcs]; simpa using hu)

def trP : Tr := .mk 5 [.mk 3 [], .mk 1 []]
def vaV : Va := .mk 0 0 [] [] [.mk 0 0 [[97]] [] [], .mk 3 0 [] [] []]
theorem kn_isP : isT 16 trP = true := by decide
theorem kn_isS : isT 16 (.mk 3 []) = true := by decide
theorem kn_bot : botT trP = .mk 0 0 [] [] [.zero, .zero] := by
  unfold trP
  rw [botT_pair kn_isP, botT_zero (by simp [Tr.k]), botT_zero (by simp [Tr.k])]
theorem kn_1 : isV trP vaV = true := by
  unfold trP vaV
  simp [isV, base_mk, fits_5, fits_3, fits_1, hasN, pairV, Va.v, shortV, R1.Srt]
theorem kn_2 : isV (.mk 3 []) vaV = false := by
  unfold vaV
  simp [isV, base_mk, fits_3, hasN]
theorem kn_3 : vaV ≠ .mk 0 0 [] [] [.zero, .zero] := by
  unfold vaV Va.zero
  intro h
  simp at h
theorem kn_4 : isV (.mk 3 []) (.mk 0 0 [[98], [97]] [] []) = false := by
  simp [isV, base_mk, fits_3, hasN, R1.Srt]
  intro _
  decide

set_option maxRecDepth 100000 in
set_option maxHeartbeats 2000000 in
theorem known_any (w : World) : Calls Try.prog 8 #[] w (RetV w (.bool true)) := by
  obtain ⟨V, hV⟩ : ∃ V, ((((((w.alloc (.cells #[.int .i64 3, .slice none 0 0] 24)).alloc (.cells #[.int .i64 3, .slice none 0 0, .int .i64 1, .slice none 0 0] 24)).alloc (.cells #[.int .i64 5, .slice (some ⟨w.heap.size + 1, 0, none⟩) 2 2] 24)).alloc (.cells #[.string ⟨#[97]⟩] 9)).alloc (.cells #[.int .u64 0, .int .u64 0, .slice (some ⟨w.heap.size + 1 + 1 + 1, 0, none⟩) 1 1, .slice none 0 0, .slice none 0 0, .int .u64 3, .int .u64 0, .slice none 0 0, .slice none 0 0, .slice none 0 0] 30)).alloc (.cells #[.int .u64 0, .int .u64 0, .slice none 0 0, .slice none 0 0, .slice (some ⟨w.heap.size + 1 + 1 + 1 + 1, 0, none⟩) 2 2] 30)) = V := ⟨_, rfl⟩
  have HV := Lib.hid hV
  have hB : Below w.heap.size w V := by rw [← hV]; exact belAl (belAl (belAl (belAl (belAl (belAl (Below.refl _ _))))))
  have X0 : Bxd V (w.heap.size) #[.int .i64 3, .slice none 0 0] := by
    rw [← hV]
    have := Bxd.new (W := w) (cs := #[.int .i64 3, .slice none 0 0]) (t := 24)
    exact ((((this.al _).al _).al _).al _).al _
  have X1 : Bxd V (w.heap.size + 1) #[.int .i64 3, .slice none 0 0, .int .i64 1, .slice none 0 0] := by
    rw [← hV]
    have := Bxd.new (W := (w.alloc (.cells #[.int .i64 3, .slice none 0 0] 24))) (cs := #[.int .i64 3, .slice none 0 0, .int .i64 1, .slice none 0 0]) (t := 24)
    rw [World.size_alloc] at this
    exact (((this.al _).al _).al _).al _
  have X2 : Bxd V (w.heap.size + 1 + 1) #[.int .i64 5, .slice (some ⟨w.heap.size + 1, 0, none⟩) 2 2] := by
    rw [← hV]
    have := Bxd.new (W := ((w.alloc (.cells #[.int .i64 3, .slice none 0 0] 24)).alloc (.cells #[.int .i64 3, .slice none 0 0, .int .i64 1, .slice none 0 0] 24))) (cs := #[.int .i64 5, .slice (some ⟨w.heap.size + 1, 0, none⟩) 2 2]) (t := 24)
    rw [World.size_alloc, World.size_alloc] at this
    exact ((this.al _).al _).al _
  have X3 : Bxd V (w.heap.size + 1 + 1 + 1) #[.string ⟨#[97]⟩] := by
    rw [← hV]
    have := Bxd.new (W := (((w.alloc (.cells #[.int .i64 3, .slice none 0 0] 24)).alloc (.cells #[.int .i64 3, .slice none 0 0, .int .i64 1, .slice none 0 0] 24)).alloc (.cells #[.int .i64 5, .slice (some ⟨w.heap.size + 1, 0, none⟩) 2 2] 24))) (cs := #[.string ⟨#[97]⟩]) (t := 9)
    rw [World.size_alloc, World.size_alloc, World.size_alloc] at this
    exact (this.al _).al _
  have X4 : Bxd V (w.heap.size + 1 + 1 + 1 + 1) #[.int .u64 0, .int .u64 0, .slice (some ⟨w.heap.size + 1 + 1 + 1, 0, none⟩) 1 1, .slice none 0 0, .slice none 0 0, .int .u64 3, .int .u64 0, .slice none 0 0, .slice none 0 0, .slice none 0 0] := by
    rw [← hV]
    have := Bxd.new (W := ((((w.alloc (.cells #[.int .i64 3, .slice none 0 0] 24)).alloc (.cells #[.int .i64 3, .slice none 0 0, .int .i64 1, .slice none 0 0] 24)).alloc (.cells #[.int .i64 5, .slice (some ⟨w.heap.size + 1, 0, none⟩) 2 2] 24)).alloc (.cells #[.string ⟨#[97]⟩] 9))) (cs := #[.int .u64 0, .int .u64 0, .slice (some ⟨w.heap.size + 1 + 1 + 1, 0, none⟩) 1 1, .slice none 0 0, .slice none 0 0, .int .u64 3, .int .u64 0, .slice none 0 0, .slice none 0 0, .slice none 0 0]) (t := 30)
    rw [World.size_alloc, World.size_alloc, World.size_alloc, World.size_alloc] at this
    exact this.al _
  have X5 : Bxd V (w.heap.size + 1 + 1 + 1 + 1 + 1) #[.int .u64 0, .int .u64 0, .slice none 0 0, .slice none 0 0, .slice (some ⟨w.heap.size + 1 + 1 + 1 + 1, 0, none⟩) 2 2] := by
    rw [← hV]
    have := Bxd.new (W := (((((w.alloc (.cells #[.int .i64 3, .slice none 0 0] 24)).alloc (.cells #[.int .i64 3, .slice none 0 0, .int .i64 1, .slice none 0 0] 24)).alloc (.cells #[.int .i64 5, .slice (some ⟨w.heap.size + 1, 0, none⟩) 2 2] 24)).alloc (.cells #[.string ⟨#[97]⟩] 9)).alloc (.cells #[.int .u64 0, .int .u64 0, .slice (some ⟨w.heap.size + 1 + 1 + 1, 0, none⟩) 1 1, .slice none 0 0, .slice none 0 0, .int .u64 3, .int .u64 0, .slice none 0 0, .slice none 0 0, .slice none 0 0] 30))) (cs := #[.int .u64 0, .int .u64 0, .slice none 0 0, .slice none 0 0, .slice (some ⟨w.heap.size + 1 + 1 + 1 + 1, 0, none⟩) 2 2]) (t := 30)
    rw [World.size_alloc, World.size_alloc, World.size_alloc, World.size_alloc, World.size_alloc] at this
    exact this
  have S0 : (scLeaf 3).In V.heap.size V := scLeaf_in _ _ _
  have P0 : (scRow 5 (w.heap.size + 1) [scLeaf 3, scLeaf 1]).In V.heap.size V := scRow_in 5 X1 rfl (by simp) (fun s hs => by
    rcases List.mem_cons.1 hs with rfl | hs
    · exact scLeaf_in _ _ _
    · rw [List.mem_singleton.1 hs]; exact scLeaf_in _ _ _)
  have V0 : (vlRow (w.heap.size + 1 + 1 + 1 + 1) [vlTexts 0 (w.heap.size + 1 + 1 + 1) [[97]], vlNum 3]).In V := vlRow_in X4 rfl (by simp) (fun x hx => by
    rcases List.mem_cons.1 hx with rfl | hx
    · exact vlTexts_in 0 (by omega) X3 rfl (by simp) (by simp)
    · rw [List.mem_singleton.1 hx]; exact vlNum_in _ (by omega) _ _)
  obtain ⟨p, hp⟩ : ∃ p, scRow 5 (w.heap.size + 1) [scLeaf 3, scLeaf 1] = p := ⟨_, rfl⟩
  obtain ⟨v, hv⟩ : ∃ v, vlRow (w.heap.size + 1 + 1 + 1 + 1) [vlTexts 0 (w.heap.size + 1 + 1 + 1) [[97]], vlNum 3] = v := ⟨_, rfl⟩
  have EP : Hid (p.er = trP) := by rw [← hp]; rfl
  have EV : Hid (v.er = vaV) := by rw [← hv]; rfl
  have HP := Lib.hid hp
  have HVV := Lib.hid hv
  rw [hp] at P0
  rw [hv] at V0
  have HC := Lib.hid (Bottom_any p V P0)
  have hp0 := hp
  rw [← hp] at HC
  have x0 := X2.2 0 _ rfl
  have x1 := X2.2 1 _ rfl
  clear X1 X3 X4 hV hp hv
  go_enter Try.func8, Try.ntmps8
  go_wp2_with fail
  rw [HV.out]
  clear HV
  refine HC.out.mono ?_
  clear HC x0 x1
  rintro e w1 ⟨b, rfl, hbe, hbi, hb1⟩
  have B1 : b.In w1 := hbi.inn
  have EB : Hid (b.er = .mk 0 0 [] [] [.zero, .zero]) := by show b.er = _; rw [hbe, hp0, EP.out, kn_bot]
  have hbl : b.vs.length = 2 := by
    have := EB.out
    rw [er_eta, mk_inj] at this
    have := congrArg List.length this.2.2.2.2
    simpa using this
  replace hB : Below w.heap.size w w1 := hB.trans (hb1.mono hB.size)
  replace X0 := X0.later hb1
  replace X2 := X2.later hb1
  replace X5 := X5.later hb1
  replace S0 := S0.later hb1
  replace P0 := P0.later hb1
  replace V0 := V0.later hb1
  clear hb1 hbi hbe
  obtain ⟨W2, hW2⟩ : ∃ W2, w1.alloc (.cells #[.int .u64 b.n, .int .u64 b.m, b.s1, b.c1, b.v1] 30) = W2 := ⟨_, rfl⟩
  have X6 : Bxd W2 w1.heap.size #[.int .u64 b.n, .int .u64 b.m, b.s1, b.c1, b.v1] := by rw [← hW2]; exact Bxd.new
  have hb1 : Below w1.heap.size w1 W2 := by rw [← hW2]; exact allocB _ _
  have HW2 := Lib.hid hW2
  replace hB : Below w.heap.size w W2 := hB.trans (hb1.mono hB.size)
  replace X0 := X0.later hb1
  replace X2 := X2.later hb1
  replace X5 := X5.later hb1
  replace S0 := S0.later hb1
  replace P0 := P0.later hb1
  replace V0 := V0.later hb1
  replace B1 := B1.later hb1
  clear hb1 hW2

  have hbe2 := hbl
  have K0 : Hid (∀ Z, Below W2.heap.size W2 Z → Calls Try.prog 9 #[p.val, v.val] Z (RetV Z (.bool true))) := fun Z hZ => by
    have h := Is_any p v Z (P0.later hZ) (V0.later hZ)
    rw [show (isT 16 p.er && isV p.er v.er) = true by rw [EP.out, EV.out, kn_isP, kn_1]; rfl] at h
    exact h
  have K1 : Hid (∀ Z, Below W2.heap.size W2 Z → Calls Try.prog 9 #[(scLeaf 3).val, v.val] Z (RetV Z (.bool false))) := fun Z hZ => by
    have h := Is_any (scLeaf 3) v Z (S0.later hZ) (V0.later hZ)
    rw [show (isT 16 (scLeaf 3).er && isV (scLeaf 3).er v.er) = false by rw [show (scLeaf 3).er = .mk 3 [] from rfl, EV.out, kn_isS, kn_2]; rfl] at h
    exact h
  have K2 : Hid (∀ Z, Below W2.heap.size W2 Z → Calls Try.prog 14 #[p.val, b.val] Z (RetV Z (.bool true))) := fun Z hZ => by
    have h := None_any p b Z (P0.later hZ) (B1.later hZ)
    rw [show decide (b.er = botT p.er) = true by rw [EP.out, EB.out, kn_bot]; exact decide_eq_true rfl] at h
    exact h
  have K3 : Hid (∀ Z, Below W2.heap.size W2 Z → Calls Try.prog 14 #[p.val, v.val] Z (RetV Z (.bool false))) := fun Z hZ => by
    have h := None_any p v Z (P0.later hZ) (V0.later hZ)
    rw [show decide (v.er = botT p.er) = false by rw [EP.out, EV.out, kn_bot]; exact decide_eq_false kn_3] at h
    exact h
  have K4 : Hid (∀ Z, Below W2.heap.size W2 Z → Calls Try.prog 16 #[v.val, v.val] Z (RetV Z (.bool true))) := fun Z hZ => by
    have h := Same_any v v Z (V0.later hZ) (V0.later hZ)
    rw [show decide (v.er = v.er) = true by exact decide_eq_true rfl] at h
    exact h
  have K5 : Hid (∀ Z, Below W2.heap.size W2 Z → Calls Try.prog 16 #[v.val, b.val] Z (RetV Z (.bool false))) := fun Z hZ => by
    have h := Same_any v b Z (V0.later hZ) (B1.later hZ)
    rw [show decide (v.er = b.er) = false by rw [EV.out, EB.out]; exact decide_eq_false kn_3] at h
    exact h
  have K6 : Hid (∀ Z, Below W2.heap.size W2 Z → Calls Try.prog 17 #[v.val] Z (RetV Z (.int .i64 3))) := fun Z hZ => by
    have h := Size_any v Z (V0.later hZ)
    rw [EV.out, show IntKind.i64.wrap (vaV.size : Nat) = 3 from by rw [show vaV.size = 3 from rfl]; rfl] at h
    exact h
  have K7 : Hid (∀ Z, Below W2.heap.size W2 Z → Calls Try.prog 9 #[(scLeaf 3).val, (vlTexts 0 Z.heap.size [[98], [97]]).val] (Z.alloc (.cells #[.string ⟨#[98]⟩, .string ⟨#[97]⟩] 9)) (RetV (Z.alloc (.cells #[.string ⟨#[98]⟩, .string ⟨#[97]⟩] 9)) (.bool false))) := fun Z hZ => by
    have h := Is_any (scLeaf 3) (vlTexts 0 Z.heap.size [[98], [97]]) (Z.alloc (.cells #[.string ⟨#[98]⟩, .string ⟨#[97]⟩] 9)) (scLeaf_in _ _ _) (vlTexts_in 0 (by omega) Bxd.new rfl (by simp) (by simp))
    rw [show (scLeaf 3).er = .mk 3 [] from rfl, show (vlTexts 0 Z.heap.size [[98], [97]]).er = .mk 0 0 [[98], [97]] [] [] from rfl, kn_isS, kn_4] at h
    exact h
  have hb2 : Below W2.heap.size W2 W2 := Below.refl _ _
  clear S0 P0 V0 B1 EP EV EB hbe2 hp0
  obtain ⟨bn, bm, bsA, bsc, bss, bcA, bcc, bcs, bvA, bvc, bvs⟩ := b
  rw [← HVV.out, ← HP.out] at K0
  rw [← HVV.out] at K1
  rw [← HP.out] at K2
  rw [← HVV.out, ← HP.out] at K3
  rw [← HVV.out] at K4
  rw [← HVV.out] at K5
  rw [← HVV.out] at K6
  simp only [Vl.vs] at hbl
  have kb : ((bvs.length : Int) == 2) = true := ibeq (by omega)
  clear hbl
  simp only [val_mk, Vl.n, Vl.m, Vl.s1, Vl.c1, Vl.v1] at HW2 X6 ⊢
  have s0 : World.cell? W2 ⟨w.heap.size, 0, none⟩ = some (.int .i64 3) := X0.2 0 _ rfl
  have s1 : World.cell? W2 ⟨w.heap.size, 1, none⟩ = some (.slice none 0 0) := X0.2 1 _ rfl
  have p0 : World.cell? W2 ⟨w.heap.size + 1 + 1, 0, none⟩ = some (.int .i64 5) := X2.2 0 _ rfl
  have p1 : World.cell? W2 ⟨w.heap.size + 1 + 1, 1, none⟩ = some (.slice (some ⟨w.heap.size + 1, 0, none⟩) 2 2) := X2.2 1 _ rfl
  have v0 : World.cell? W2 ⟨w.heap.size + 1 + 1 + 1 + 1 + 1, 0, none⟩ = some (.int .u64 0) := X5.2 0 _ rfl
  have v1 : World.cell? W2 ⟨w.heap.size + 1 + 1 + 1 + 1 + 1, 1, none⟩ = some (.int .u64 0) := X5.2 1 _ rfl
  have v2 : World.cell? W2 ⟨w.heap.size + 1 + 1 + 1 + 1 + 1, 2, none⟩ = some (.slice none 0 0) := X5.2 2 _ rfl
  have v3 : World.cell? W2 ⟨w.heap.size + 1 + 1 + 1 + 1 + 1, 3, none⟩ = some (.slice none 0 0) := X5.2 3 _ rfl
  have v4 : World.cell? W2 ⟨w.heap.size + 1 + 1 + 1 + 1 + 1, 4, none⟩ = some (.slice (some ⟨w.heap.size + 1 + 1 + 1 + 1, 0, none⟩) 2 2) := X5.2 4 _ rfl
  have b0 : World.cell? W2 ⟨w1.heap.size, 0, none⟩ = some (.int .u64 bn) := X6.2 0 _ rfl
  have b1 : World.cell? W2 ⟨w1.heap.size, 1, none⟩ = some (.int .u64 bm) := X6.2 1 _ rfl
  have b2 : World.cell? W2 ⟨w1.heap.size, 2, none⟩ = some (.slice bsA bss.length bsc) := X6.2 2 _ rfl
  have b3 : World.cell? W2 ⟨w1.heap.size, 3, none⟩ = some (.slice bcA bcs.length bcc) := X6.2 3 _ rfl
  have b4 : World.cell? W2 ⟨w1.heap.size, 4, none⟩ = some (.slice bvA bvs.length bvc) := X6.2 4 _ rfl
  have hW2 := HW2.out
  clear HW2
  go_wp2_with fail
  clear hW2
  refine (K0.out W2 hb2).mono ?_
  clear K0 s0 s1 p0 p1 v0 v1 v2 v3 v4 b0 b1 b2 b3 b4
  rintro e Y0 ⟨rfl, hb3⟩
  replace X0 := X0.later hb3
  replace X2 := X2.later hb3
  replace X5 := X5.later hb3
  replace X6 := X6.later hb3
  replace hB := hB.trans (hb3.mono hB.size)
  replace hb2 := hb2.trans (hb3.mono hb2.size)
  clear hb3
  have s0 : World.cell? Y0 ⟨w.heap.size, 0, none⟩ = some (.int .i64 3) := X0.2 0 _ rfl
  have s1 : World.cell? Y0 ⟨w.heap.size, 1, none⟩ = some (.slice none 0 0) := X0.2 1 _ rfl
  have p0 : World.cell? Y0 ⟨w.heap.size + 1 + 1, 0, none⟩ = some (.int .i64 5) := X2.2 0 _ rfl
  have p1 : World.cell? Y0 ⟨w.heap.size + 1 + 1, 1, none⟩ = some (.slice (some ⟨w.heap.size + 1, 0, none⟩) 2 2) := X2.2 1 _ rfl
  have v0 : World.cell? Y0 ⟨w.heap.size + 1 + 1 + 1 + 1 + 1, 0, none⟩ = some (.int .u64 0) := X5.2 0 _ rfl
  have v1 : World.cell? Y0 ⟨w.heap.size + 1 + 1 + 1 + 1 + 1, 1, none⟩ = some (.int .u64 0) := X5.2 1 _ rfl
  have v2 : World.cell? Y0 ⟨w.heap.size + 1 + 1 + 1 + 1 + 1, 2, none⟩ = some (.slice none 0 0) := X5.2 2 _ rfl
  have v3 : World.cell? Y0 ⟨w.heap.size + 1 + 1 + 1 + 1 + 1, 3, none⟩ = some (.slice none 0 0) := X5.2 3 _ rfl
  have v4 : World.cell? Y0 ⟨w.heap.size + 1 + 1 + 1 + 1 + 1, 4, none⟩ = some (.slice (some ⟨w.heap.size + 1 + 1 + 1 + 1, 0, none⟩) 2 2) := X5.2 4 _ rfl
  have b0 : World.cell? Y0 ⟨w1.heap.size, 0, none⟩ = some (.int .u64 bn) := X6.2 0 _ rfl
  have b1 : World.cell? Y0 ⟨w1.heap.size, 1, none⟩ = some (.int .u64 bm) := X6.2 1 _ rfl
  have b2 : World.cell? Y0 ⟨w1.heap.size, 2, none⟩ = some (.slice bsA bss.length bsc) := X6.2 2 _ rfl
  have b3 : World.cell? Y0 ⟨w1.heap.size, 3, none⟩ = some (.slice bcA bcs.length bcc) := X6.2 3 _ rfl
  have b4 : World.cell? Y0 ⟨w1.heap.size, 4, none⟩ = some (.slice bvA bvs.length bvc) := X6.2 4 _ rfl
  go_wp2_with fail
  refine (K1.out Y0 hb2).mono ?_
  clear K1 s0 s1 p0 p1 v0 v1 v2 v3 v4 b0 b1 b2 b3 b4
  rintro e Y1 ⟨rfl, hb3⟩
  replace X0 := X0.later hb3
  replace X2 := X2.later hb3
  replace X5 := X5.later hb3
  replace X6 := X6.later hb3
  replace hB := hB.trans (hb3.mono hB.size)
  replace hb2 := hb2.trans (hb3.mono hb2.size)
  clear hb3
  have s0 : World.cell? Y1 ⟨w.heap.size, 0, none⟩ = some (.int .i64 3) := X0.2 0 _ rfl
  have s1 : World.cell? Y1 ⟨w.heap.size, 1, none⟩ = some (.slice none 0 0) := X0.2 1 _ rfl
  have p0 : World.cell? Y1 ⟨w.heap.size + 1 + 1, 0, none⟩ = some (.int .i64 5) := X2.2 0 _ rfl
  have p1 : World.cell? Y1 ⟨w.heap.size + 1 + 1, 1, none⟩ = some (.slice (some ⟨w.heap.size + 1, 0, none⟩) 2 2) := X2.2 1 _ rfl
  have v0 : World.cell? Y1 ⟨w.heap.size + 1 + 1 + 1 + 1 + 1, 0, none⟩ = some (.int .u64 0) := X5.2 0 _ rfl
  have v1 : World.cell? Y1 ⟨w.heap.size + 1 + 1 + 1 + 1 + 1, 1, none⟩ = some (.int .u64 0) := X5.2 1 _ rfl
  have v2 : World.cell? Y1 ⟨w.heap.size + 1 + 1 + 1 + 1 + 1, 2, none⟩ = some (.slice none 0 0) := X5.2 2 _ rfl
  have v3 : World.cell? Y1 ⟨w.heap.size + 1 + 1 + 1 + 1 + 1, 3, none⟩ = some (.slice none 0 0) := X5.2 3 _ rfl
  have v4 : World.cell? Y1 ⟨w.heap.size + 1 + 1 + 1 + 1 + 1, 4, none⟩ = some (.slice (some ⟨w.heap.size + 1 + 1 + 1 + 1, 0, none⟩) 2 2) := X5.2 4 _ rfl
  have b0 : World.cell? Y1 ⟨w1.heap.size, 0, none⟩ = some (.int .u64 bn) := X6.2 0 _ rfl
  have b1 : World.cell? Y1 ⟨w1.heap.size, 1, none⟩ = some (.int .u64 bm) := X6.2 1 _ rfl
  have b2 : World.cell? Y1 ⟨w1.heap.size, 2, none⟩ = some (.slice bsA bss.length bsc) := X6.2 2 _ rfl
  have b3 : World.cell? Y1 ⟨w1.heap.size, 3, none⟩ = some (.slice bcA bcs.length bcc) := X6.2 3 _ rfl
  have b4 : World.cell? Y1 ⟨w1.heap.size, 4, none⟩ = some (.slice bvA bvs.length bvc) := X6.2 4 _ rfl
  go_wp2_with fail
  refine (K2.out Y1 hb2).mono ?_
  clear K2 s0 s1 p0 p1 v0 v1 v2 v3 v4 b0 b1 b2 b3 b4
  rintro e Y2 ⟨rfl, hb3⟩
  replace X0 := X0.later hb3
  replace X2 := X2.later hb3
  replace X5 := X5.later hb3
  replace X6 := X6.later hb3
  replace hB := hB.trans (hb3.mono hB.size)
  replace hb2 := hb2.trans (hb3.mono hb2.size)
  clear hb3
  have s0 : World.cell? Y2 ⟨w.heap.size, 0, none⟩ = some (.int .i64 3) := X0.2 0 _ rfl
  have s1 : World.cell? Y2 ⟨w.heap.size, 1, none⟩ = some (.slice none 0 0) := X0.2 1 _ rfl
  have p0 : World.cell? Y2 ⟨w.heap.size + 1 + 1, 0, none⟩ = some (.int .i64 5) := X2.2 0 _ rfl
  have p1 : World.cell? Y2 ⟨w.heap.size + 1 + 1, 1, none⟩ = some (.slice (some ⟨w.heap.size + 1, 0, none⟩) 2 2) := X2.2 1 _ rfl
  have v0 : World.cell? Y2 ⟨w.heap.size + 1 + 1 + 1 + 1 + 1, 0, none⟩ = some (.int .u64 0) := X5.2 0 _ rfl
  have v1 : World.cell? Y2 ⟨w.heap.size + 1 + 1 + 1 + 1 + 1, 1, none⟩ = some (.int .u64 0) := X5.2 1 _ rfl
  have v2 : World.cell? Y2 ⟨w.heap.size + 1 + 1 + 1 + 1 + 1, 2, none⟩ = some (.slice none 0 0) := X5.2 2 _ rfl
  have v3 : World.cell? Y2 ⟨w.heap.size + 1 + 1 + 1 + 1 + 1, 3, none⟩ = some (.slice none 0 0) := X5.2 3 _ rfl
  have v4 : World.cell? Y2 ⟨w.heap.size + 1 + 1 + 1 + 1 + 1, 4, none⟩ = some (.slice (some ⟨w.heap.size + 1 + 1 + 1 + 1, 0, none⟩) 2 2) := X5.2 4 _ rfl
  have b0 : World.cell? Y2 ⟨w1.heap.size, 0, none⟩ = some (.int .u64 bn) := X6.2 0 _ rfl
  have b1 : World.cell? Y2 ⟨w1.heap.size, 1, none⟩ = some (.int .u64 bm) := X6.2 1 _ rfl
  have b2 : World.cell? Y2 ⟨w1.heap.size, 2, none⟩ = some (.slice bsA bss.length bsc) := X6.2 2 _ rfl
  have b3 : World.cell? Y2 ⟨w1.heap.size, 3, none⟩ = some (.slice bcA bcs.length bcc) := X6.2 3 _ rfl
  have b4 : World.cell? Y2 ⟨w1.heap.size, 4, none⟩ = some (.slice bvA bvs.length bvc) := X6.2 4 _ rfl
  go_wp2_with fail
  refine (K3.out Y2 hb2).mono ?_
  clear K3 s0 s1 p0 p1 v0 v1 v2 v3 v4 b0 b1 b2 b3 b4
  rintro e Y3 ⟨rfl, hb3⟩
  replace X0 := X0.later hb3
  replace X2 := X2.later hb3
  replace X5 := X5.later hb3
  replace X6 := X6.later hb3
  replace hB := hB.trans (hb3.mono hB.size)
  replace hb2 := hb2.trans (hb3.mono hb2.size)
  clear hb3
  have s0 : World.cell? Y3 ⟨w.heap.size, 0, none⟩ = some (.int .i64 3) := X0.2 0 _ rfl
  have s1 : World.cell? Y3 ⟨w.heap.size, 1, none⟩ = some (.slice none 0 0) := X0.2 1 _ rfl
  have p0 : World.cell? Y3 ⟨w.heap.size + 1 + 1, 0, none⟩ = some (.int .i64 5) := X2.2 0 _ rfl
  have p1 : World.cell? Y3 ⟨w.heap.size + 1 + 1, 1, none⟩ = some (.slice (some ⟨w.heap.size + 1, 0, none⟩) 2 2) := X2.2 1 _ rfl
  have v0 : World.cell? Y3 ⟨w.heap.size + 1 + 1 + 1 + 1 + 1, 0, none⟩ = some (.int .u64 0) := X5.2 0 _ rfl
  have v1 : World.cell? Y3 ⟨w.heap.size + 1 + 1 + 1 + 1 + 1, 1, none⟩ = some (.int .u64 0) := X5.2 1 _ rfl
  have v2 : World.cell? Y3 ⟨w.heap.size + 1 + 1 + 1 + 1 + 1, 2, none⟩ = some (.slice none 0 0) := X5.2 2 _ rfl
  have v3 : World.cell? Y3 ⟨w.heap.size + 1 + 1 + 1 + 1 + 1, 3, none⟩ = some (.slice none 0 0) := X5.2 3 _ rfl
  have v4 : World.cell? Y3 ⟨w.heap.size + 1 + 1 + 1 + 1 + 1, 4, none⟩ = some (.slice (some ⟨w.heap.size + 1 + 1 + 1 + 1, 0, none⟩) 2 2) := X5.2 4 _ rfl
  have b0 : World.cell? Y3 ⟨w1.heap.size, 0, none⟩ = some (.int .u64 bn) := X6.2 0 _ rfl
  have b1 : World.cell? Y3 ⟨w1.heap.size, 1, none⟩ = some (.int .u64 bm) := X6.2 1 _ rfl
  have b2 : World.cell? Y3 ⟨w1.heap.size, 2, none⟩ = some (.slice bsA bss.length bsc) := X6.2 2 _ rfl
  have b3 : World.cell? Y3 ⟨w1.heap.size, 3, none⟩ = some (.slice bcA bcs.length bcc) := X6.2 3 _ rfl
  have b4 : World.cell? Y3 ⟨w1.heap.size, 4, none⟩ = some (.slice bvA bvs.length bvc) := X6.2 4 _ rfl
  go_wp2_with fail
  refine (K4.out Y3 hb2).mono ?_
  clear K4 s0 s1 p0 p1 v0 v1 v2 v3 v4 b0 b1 b2 b3 b4
  rintro e Y4 ⟨rfl, hb3⟩
  replace X0 := X0.later hb3
  replace X2 := X2.later hb3
  replace X5 := X5.later hb3
  replace X6 := X6.later hb3
  replace hB := hB.trans (hb3.mono hB.size)
  replace hb2 := hb2.trans (hb3.mono hb2.size)
  clear hb3
  have s0 : World.cell? Y4 ⟨w.heap.size, 0, none⟩ = some (.int .i64 3) := X0.2 0 _ rfl
  have s1 : World.cell? Y4 ⟨w.heap.size, 1, none⟩ = some (.slice none 0 0) := X0.2 1 _ rfl
  have p0 : World.cell? Y4 ⟨w.heap.size + 1 + 1, 0, none⟩ = some (.int .i64 5) := X2.2 0 _ rfl
  have p1 : World.cell? Y4 ⟨w.heap.size + 1 + 1, 1, none⟩ = some (.slice (some ⟨w.heap.size + 1, 0, none⟩) 2 2) := X2.2 1 _ rfl
  have v0 : World.cell? Y4 ⟨w.heap.size + 1 + 1 + 1 + 1 + 1, 0, none⟩ = some (.int .u64 0) := X5.2 0 _ rfl
  have v1 : World.cell? Y4 ⟨w.heap.size + 1 + 1 + 1 + 1 + 1, 1, none⟩ = some (.int .u64 0) := X5.2 1 _ rfl
  have v2 : World.cell? Y4 ⟨w.heap.size + 1 + 1 + 1 + 1 + 1, 2, none⟩ = some (.slice none 0 0) := X5.2 2 _ rfl
  have v3 : World.cell? Y4 ⟨w.heap.size + 1 + 1 + 1 + 1 + 1, 3, none⟩ = some (.slice none 0 0) := X5.2 3 _ rfl
  have v4 : World.cell? Y4 ⟨w.heap.size + 1 + 1 + 1 + 1 + 1, 4, none⟩ = some (.slice (some ⟨w.heap.size + 1 + 1 + 1 + 1, 0, none⟩) 2 2) := X5.2 4 _ rfl
  have b0 : World.cell? Y4 ⟨w1.heap.size, 0, none⟩ = some (.int .u64 bn) := X6.2 0 _ rfl
  have b1 : World.cell? Y4 ⟨w1.heap.size, 1, none⟩ = some (.int .u64 bm) := X6.2 1 _ rfl
  have b2 : World.cell? Y4 ⟨w1.heap.size, 2, none⟩ = some (.slice bsA bss.length bsc) := X6.2 2 _ rfl
  have b3 : World.cell? Y4 ⟨w1.heap.size, 3, none⟩ = some (.slice bcA bcs.length bcc) := X6.2 3 _ rfl
  have b4 : World.cell? Y4 ⟨w1.heap.size, 4, none⟩ = some (.slice bvA bvs.length bvc) := X6.2 4 _ rfl
  go_wp2_with fail
  refine (K5.out Y4 hb2).mono ?_
  clear K5 s0 s1 p0 p1 v0 v1 v2 v3 v4 b0 b1 b2 b3 b4
  rintro e Y5 ⟨rfl, hb3⟩
  replace X0 := X0.later hb3
  replace X2 := X2.later hb3
  replace X5 := X5.later hb3
  replace X6 := X6.later hb3
  replace hB := hB.trans (hb3.mono hB.size)
  replace hb2 := hb2.trans (hb3.mono hb2.size)
  clear hb3
  have s0 : World.cell? Y5 ⟨w.heap.size, 0, none⟩ = some (.int .i64 3) := X0.2 0 _ rfl
  have s1 : World.cell? Y5 ⟨w.heap.size, 1, none⟩ = some (.slice none 0 0) := X0.2 1 _ rfl
  have p0 : World.cell? Y5 ⟨w.heap.size + 1 + 1, 0, none⟩ = some (.int .i64 5) := X2.2 0 _ rfl
  have p1 : World.cell? Y5 ⟨w.heap.size + 1 + 1, 1, none⟩ = some (.slice (some ⟨w.heap.size + 1, 0, none⟩) 2 2) := X2.2 1 _ rfl
  have v0 : World.cell? Y5 ⟨w.heap.size + 1 + 1 + 1 + 1 + 1, 0, none⟩ = some (.int .u64 0) := X5.2 0 _ rfl
  have v1 : World.cell? Y5 ⟨w.heap.size + 1 + 1 + 1 + 1 + 1, 1, none⟩ = some (.int .u64 0) := X5.2 1 _ rfl
  have v2 : World.cell? Y5 ⟨w.heap.size + 1 + 1 + 1 + 1 + 1, 2, none⟩ = some (.slice none 0 0) := X5.2 2 _ rfl
  have v3 : World.cell? Y5 ⟨w.heap.size + 1 + 1 + 1 + 1 + 1, 3, none⟩ = some (.slice none 0 0) := X5.2 3 _ rfl
  have v4 : World.cell? Y5 ⟨w.heap.size + 1 + 1 + 1 + 1 + 1, 4, none⟩ = some (.slice (some ⟨w.heap.size + 1 + 1 + 1 + 1, 0, none⟩) 2 2) := X5.2 4 _ rfl
  have b0 : World.cell? Y5 ⟨w1.heap.size, 0, none⟩ = some (.int .u64 bn) := X6.2 0 _ rfl
  have b1 : World.cell? Y5 ⟨w1.heap.size, 1, none⟩ = some (.int .u64 bm) := X6.2 1 _ rfl
  have b2 : World.cell? Y5 ⟨w1.heap.size, 2, none⟩ = some (.slice bsA bss.length bsc) := X6.2 2 _ rfl
  have b3 : World.cell? Y5 ⟨w1.heap.size, 3, none⟩ = some (.slice bcA bcs.length bcc) := X6.2 3 _ rfl
  have b4 : World.cell? Y5 ⟨w1.heap.size, 4, none⟩ = some (.slice bvA bvs.length bvc) := X6.2 4 _ rfl
  go_wp2_with fail
  refine (K6.out Y5 hb2).mono ?_
  clear K6 s0 s1 p0 p1 v0 v1 v2 v3 v4 b0 b1 b2 b3 b4
  rintro e Y6 ⟨rfl, hb3⟩
  replace X0 := X0.later hb3
  replace X2 := X2.later hb3
  replace X5 := X5.later hb3
  replace X6 := X6.later hb3
  replace hB := hB.trans (hb3.mono hB.size)
  replace hb2 := hb2.trans (hb3.mono hb2.size)
  clear hb3
  have s0 : World.cell? Y6 ⟨w.heap.size, 0, none⟩ = some (.int .i64 3) := X0.2 0 _ rfl
  have s1 : World.cell? Y6 ⟨w.heap.size, 1, none⟩ = some (.slice none 0 0) := X0.2 1 _ rfl
  have p0 : World.cell? Y6 ⟨w.heap.size + 1 + 1, 0, none⟩ = some (.int .i64 5) := X2.2 0 _ rfl
  have p1 : World.cell? Y6 ⟨w.heap.size + 1 + 1, 1, none⟩ = some (.slice (some ⟨w.heap.size + 1, 0, none⟩) 2 2) := X2.2 1 _ rfl
  have v0 : World.cell? Y6 ⟨w.heap.size + 1 + 1 + 1 + 1 + 1, 0, none⟩ = some (.int .u64 0) := X5.2 0 _ rfl
  have v1 : World.cell? Y6 ⟨w.heap.size + 1 + 1 + 1 + 1 + 1, 1, none⟩ = some (.int .u64 0) := X5.2 1 _ rfl
  have v2 : World.cell? Y6 ⟨w.heap.size + 1 + 1 + 1 + 1 + 1, 2, none⟩ = some (.slice none 0 0) := X5.2 2 _ rfl
  have v3 : World.cell? Y6 ⟨w.heap.size + 1 + 1 + 1 + 1 + 1, 3, none⟩ = some (.slice none 0 0) := X5.2 3 _ rfl
  have v4 : World.cell? Y6 ⟨w.heap.size + 1 + 1 + 1 + 1 + 1, 4, none⟩ = some (.slice (some ⟨w.heap.size + 1 + 1 + 1 + 1, 0, none⟩) 2 2) := X5.2 4 _ rfl
  have b0 : World.cell? Y6 ⟨w1.heap.size, 0, none⟩ = some (.int .u64 bn) := X6.2 0 _ rfl
  have b1 : World.cell? Y6 ⟨w1.heap.size, 1, none⟩ = some (.int .u64 bm) := X6.2 1 _ rfl
  have b2 : World.cell? Y6 ⟨w1.heap.size, 2, none⟩ = some (.slice bsA bss.length bsc) := X6.2 2 _ rfl
  have b3 : World.cell? Y6 ⟨w1.heap.size, 3, none⟩ = some (.slice bcA bcs.length bcc) := X6.2 3 _ rfl
  have b4 : World.cell? Y6 ⟨w1.heap.size, 4, none⟩ = some (.slice bvA bvs.length bvc) := X6.2 4 _ rfl
  go_wp2_with fail
  refine (K7.out Y6 hb2).mono ?_
  rintro e Y7 ⟨rfl, hb3⟩
  replace hB := (belAl hB).trans (hb3.mono (belAl hB).size)
  go_wp2_with fail
  go_ret
  exact ⟨rfl, hB⟩
end Go.Proofs.Ytcpfjjimbnmaoaa.V4
