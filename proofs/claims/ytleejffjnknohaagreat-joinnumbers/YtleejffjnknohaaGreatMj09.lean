/- A loop over a function whose body appends to rows of its own, over an iterator that keeps cells of its own between the rounds: the law. No condition. What the iterators of value give: the values in a value, with their schemas or beside others; the rows of a slice. No condition but that they lie in memory. What value.inside and value.couples give. No condition but that what is handed in lies in memory, and that each value has a schema, or a fellow. What value.couples and value.values give. No condition but that what is handed in lies in memory, and that each value has a fellow. What the reference's Level does. No condition but that the schema lies in memory. What schema.inside, schema.shaped, schema.leaning do. No condition. -/
import Derived.Test.YtleejffjnknohaaGreatMj02
import Derived.Test.YtleejffjnknohaaGreatMj08
import Derived.Test.YtleejffjnknohaaGreatMj04
import Derived.Deep.RegionHeld3
namespace Go.Proofs.YtleejffjnknohaaGreat.J5
open Go.RowKit Go.Shelf
open V4 (KF Ab yield_any)

/-- What a round leaves: all below N, and from B on all but the caller's own blocks, X. -/
structure KP (N B : Nat) (X : Nat → Prop) (W W' : World) : Prop where
  size : W.heap.size ≤ W'.heap.size
  same : ∀ (b : Nat) (o : Obj), W.heap[b]? = some o → (b < N ∨ (B ≤ b ∧ ¬ X b)) → W'.heap[b]? = some o
/-- What an iterator leaves between the rounds: all below B, and the caller's own blocks. -/
structure KJ (B : Nat) (X : Nat → Prop) (W W' : World) : Prop where
  bel : Below B W W'
  same : ∀ (b : Nat) (o : Obj), W.heap[b]? = some o → X b → W'.heap[b]? = some o
/-- The caller's own blocks become more by new ones alone. -/
def Grow (n : Nat) (X X' : Nat → Prop) : Prop := ∀ b, X' b → X b ∨ n ≤ b

section
variable {N B : Nat} {F : Nat → Prop} {W W' X Y Z : World}
theorem KP.refl : KP N B F W W := ⟨Nat.le_refl _, fun _ _ h _ => h⟩
theorem KP.trans (h : KP N B F X Y) (k : KP N B F Y Z) : KP N B F X Z := ⟨Nat.le_trans h.size k.size, fun b o h1 h2 => k.same b o (h.same b o h1 h2) h2⟩
theorem KP.mono {B' : Nat} (h : KP N B F W W') (hB : B ≤ B') : KP N B' F W W' := ⟨h.size, fun b o h1 h2 => h.same b o h1 (h2.imp id fun h => ⟨Nat.le_trans hB h.1, h.2⟩)⟩
theorem KP.of_below (h : Below W.heap.size W W') : KP N B F W W' := ⟨h.size, fun b _ h1 _ => (h.block b (Array.getElem?_eq_some_iff.1 h1).1).trans h1⟩
theorem KP.put {l : Nat} (h1 : N ≤ l) (h2 : l < B) (o' : Obj) : KP N B F W (W.putObj l o') := ⟨by simp, fun b o2 h3 h4 => by rw [World.putObj_heap_other (by rcases h4 with h | ⟨h, _⟩ <;> omega)]; exact h3⟩
theorem KP.low (h : KP N B F W W') {b : Nat} (hb : b < N) (hW : b < W.heap.size) : W'.heap[b]? = W.heap[b]? := by
  rw [Array.getElem?_eq_getElem hW]
  exact h.same b _ (Array.getElem?_eq_getElem hW) (.inl hb)
theorem KJ.refl : KJ B F W W := ⟨Below.refl _ _, fun _ _ h _ => h⟩
theorem KJ.trans (h : KJ B F X Y) (k : KJ B F Y Z) : KJ B F X Z := ⟨h.bel.trans k.bel, fun b o h1 h2 => k.same b o (h.same b o h1 h2) h2⟩
theorem KJ.mono {B' : Nat} (h : KJ B F W W') (hB : B' ≤ B) : KJ B' F W W' := ⟨h.bel.mono hB, h.same⟩
theorem KJ.of_below (h : Below W.heap.size W W') (hB : B ≤ W.heap.size) : KJ B F W W' := ⟨h.mono hB, fun b _ h1 _ => (h.block b (Array.getElem?_eq_some_iff.1 h1).1).trans h1⟩
theorem KJ.later (h : KJ B F X Y) (hb : Below Y.heap.size Y Z) (hB : B ≤ Y.heap.size) : KJ B F X Z := h.trans (KJ.of_below hb hB)
theorem KJ.put {l : Nat} (hl : ¬ F l) (hB : B ≤ l) (o' : Obj) : KJ B F W (W.putObj l o') :=
  ⟨⟨rfl, rfl, rfl, by simp, fun k hk => World.putObj_heap_other (by omega)⟩, fun b o2 h1 h2 => by
    have hne : b ≠ l := fun e => hl (by rw [← e]; exact h2)
    rw [World.putObj_heap_other hne]; exact h1⟩
end

/-- What is said of a world speaks of what an iterator leaves. -/
def AbJ (B : Nat) (J : Nat → (Nat → Prop) → World → Prop) : Prop := ∀ k X W W', J k X W → KJ B X W W' → J k X W'

/-- An iterator that gives zs, one by one. -/
def SeqP {α : Type} (P : Program) (g : Nat) (lb : Array Value) (encs : α → Array Value) (N : Nat) (zs : List α) (w : World) : Prop :=
  ∀ (l : Nat) (J : Nat → (Nat → Prop) → World → Prop) (Jx : Nat → World → Prop) (W : World), Below w.heap.size w W → AbJ W.heap.size J → Ab W.heap.size Jx →
    (∀ k X x W1, zs[k]? = some x → J k X W1 → W.heap.size ≤ W1.heap.size → YieldAt Fence.wide 0 P l (encs x) W1 fun e W' =>
      (e = .returned (.bool true) ∧ ∃ X', Grow W1.heap.size X X' ∧ J (k + 1) X' W' ∧ KP N W.heap.size X W1 W') ∨ (e = .returned (.bool false) ∧ Jx k W' ∧ KF W.heap.size W1 W')) →
    J 0 (fun _ => False) W →
    Calls P g (#[.func (.yield l) #[] #[]] ++ lb) W fun e W' => (∃ v, e = .returned v) ∧ ((∃ X, J zs.length X W') ∨ ∃ k, k < zs.length ∧ Jx k W')

theorem SeqP.later {α : Type} {P : Program} {g : Nat} {lb : Array Value} {encs : α → Array Value} {N : Nat} {zs : List α} {w w' : World} (h : SeqP P g lb encs N zs w) (hb : Below w.heap.size w w') : SeqP P g lb encs N zs w' :=
  fun l J Jx W hW => h l J Jx W (hb.trans (hW.mono hb.size))

/-- How a round's body may be left. -/
def postP (N B : Nat) (X : Nat → Prop) (I : Nat → (Nat → Prop) → World → Prop) (Ix : Code → Nat → World → Prop) (k : Nat) (W : World) : Exit → Act → World → Prop
  | .normal, _, W' => KP N B X W W' ∧ ∃ X', Grow W.heap.size X X' ∧ I (k + 1) X' W'
  | .ret, _, W' => KF B W W' ∧ Ix .ret k W'
  | .exit id, _, W' => KF B W W' ∧ Ix (.exit id) k W'
  | .goto t, _, W' => KF B W W' ∧ Ix (.goto t) k W'
  | .panic _, _, _ => False
  | .outgrown, _, _ => False

set_option maxHeartbeats 1000000 in
/-- The law. -/
theorem range_row {α : Type} {n : Nat} {P : Program} {g : Operand} {ps : Array Tmp} {assign body : Code} {Q : Exit → Act → World → Prop} {a : Act} {w : World}
    {gf : Nat} {lb : Array Value} (hg : a.eval g = .func (.func gf) #[] lb) (eg : Enters P gf)
    {encs : α → Array Value} {N : Nat} (hN : N ≤ w.heap.size) {zs : List α} (hseq : SeqP P gf lb encs N zs w) (hps : ∀ x, (encs x).size = ps.size)
    (I : Nat → (Nat → Prop) → World → Prop) (Ix : Code → Nat → World → Prop) (hI : AbJ w.heap.size I) (hIx : ∀ c, Ab w.heap.size (Ix c)) (h0 : I 0 (fun _ => False) w)
    (Ax : α → Act → World → Prop) (hAx : ∀ x a', OwnFrom w.heap.size (fun (_ : Unit) W => Ax x a' W))
    (hassign : ∀ (l k : Nat) (x : α) (W : World) (K : Act → World → Prop), zs[k]? = some x → (∀ a' W', Below W.heap.size W W' → Ax x a' W' → K a' W') →
      assign.wpIn (Fence.wide.inRound l) 0 P (Exit.then K (fun _ _ _ => False)) { tmps := (ps.zip (encs x)).foldl (fun t (p, v) => t.setIfInBounds p v) a.tmps, defers := [] } W)
    (hbody : ∀ (l k : Nat) (X : Nat → Prop) (x : α) (a' : Act) (W : World), w.heap.size ≤ W.heap.size → zs[k]? = some x → I k X W → Ax x a' W → body.wpIn (Fence.wide.inRound l) 0 P (postP N w.heap.size X I Ix k W) a' W)
    (hdone : ∀ (E : Nat) (X : Nat → Prop) (W : World), w.heap.size ≤ E → ¬ X E → I zs.length X W → W.heap[E]? = some (.deferred (some [])) → Q .normal { a with defers := { target := .collected E, args := #[] } :: a.defers } W)
    (hstop : ∀ (E : Nat) (c : Code) (k : Nat) (W : World), w.heap.size ≤ E → k < zs.length → Ix c k W → W.heap[E]? = some (.deferred (some [])) → c.wpIn Fence.wide n P Q { a with defers := { target := .collected E, args := #[] } :: a.defers } W) :
    (Code.rangeFunc g ps assign body).wpIn Fence.wide n P Q a w := by
  refine wpIn_rangeFunc fun fn hfn => ?_
  show ∃ _ _ _ _ _ _ _ _, _
  obtain ⟨R, hR⟩ : ∃ R : LoopState → Option Code → Obj, R = fun st pe => .loop { state := st, pending := pe, fn, tmps := a.tmps, params := ps, assign, body, defers := w.heap.size } := ⟨_, rfl⟩
  have hRc : ∀ st pe, (R st pe).isCells = false := fun st pe => by rw [hR]; rfl
  obtain ⟨V, hV⟩ : ∃ V, (w.alloc (.deferred (some []))).alloc (R .ready none) = V := ⟨_, rfl⟩
  have hsz : V.heap.size = w.heap.size + 2 := by rw [← hV]; simp
  have hbV : Below w.heap.size w V := by rw [← hV]; exact ((Below.refl _ w).alloc (Nat.le_refl _) _).alloc (by simp) _
  have hrec : V.heap[w.heap.size + 1]? = some (R .ready none) := by
    rw [← hV]; have := World.alloc_heap_new (w.alloc (.deferred (some []))) (R .ready none); rwa [World.size_alloc] at this
  have hdef : V.heap[w.heap.size]? = some (.deferred (some [])) := by
    rw [← hV]; exact (Below.heap_alloc _ _ _ (by simp)).trans (World.alloc_heap_new w _)
  -- a turn of the record leaves what is below
  have turn : ∀ (F : Nat → Prop) (X : World) (o : Obj), ¬ F (w.heap.size + 1) → KJ w.heap.size F X (X.putObj (w.heap.size + 1) o) := fun F X o h => KJ.put h (by omega) o
  have turnB : ∀ (X : World) (o : Obj), Below w.heap.size X (X.putObj (w.heap.size + 1) o) := fun X o => ⟨rfl, rfl, rfl, by simp, fun k hk => World.putObj_heap_other (by omega)⟩
  refine ⟨w.heap.size + 1, [{ target := .collected w.heap.size, args := #[] }], V, { target := .fn (.func gf) lb, args := #[.func (.yield (w.heap.size + 1)) #[] #[]] }, V, gf,
    #[.func (.yield (w.heap.size + 1)) #[] #[]] ++ lb, V, ?_, ?_, ?_, ?_, fun h => absurd h (by simp [Fence.wide]), callsIn_wide.2 ?_⟩
  · rw [← hV, hR]; exact run_enterLoop_outer _ _ _ _ _
  · simp only [resolve, hg]
    simp [go_sem]
  · intro f' _; trivial
  · simp [invoke, go_sem]
    exact eg _ _
  · refine (hseq (w.heap.size + 1)
      (fun k F W => I k F W ∧ W.heap[w.heap.size + 1]? = some (R .ready none) ∧ W.heap[w.heap.size]? = some (.deferred (some [])) ∧ ¬ F (w.heap.size + 1) ∧ ¬ F w.heap.size)
      (fun k W => ∃ c, Ix c k W ∧ W.heap[w.heap.size + 1]? = some (R .done (some c)) ∧ W.heap[w.heap.size]? = some (.deferred (some [])))
      V hbV ?_ ?_ ?_ ⟨hI _ _ _ _ h0 (KJ.of_below hbV (Nat.le_refl _)), hrec, hdef, id, id⟩).mono ?_
    · rintro k F X Y ⟨h1, h2, h3, h4, h5⟩ hb
      exact ⟨hI _ _ _ _ h1 (hb.mono (by omega)), (hb.bel.block _ (by omega)).trans h2, (hb.bel.block _ (by omega)).trans h3, h4, h5⟩
    · rintro k X Y ⟨c, h1, h2, h3⟩ hb
      exact ⟨c, hIx c _ _ _ h1 (hb.mono (by omega)), (hb.block _ (by omega)).trans h2, (hb.block _ (by omega)).trans h3⟩
    · rintro k F x X hx ⟨hi, hl, hd, nF1, nF0⟩ hXs
      have hy := run_yield (P := P) (args := encs x) (l := w.heap.size + 1) (by rw [hR] at hl; exact hl) (hps x)
      refine ⟨fn, _, assign, body, hy, roundIn_of_wpIn trivial (hassign _ k x X _ hx ?_)⟩
      intro a' Y hbY hax
      have hlY : Y.heap[w.heap.size + 1]? = some (R .ready none) := (hbY.block _ (by omega)).trans hl
      have hdY : Y.heap[w.heap.size]? = some (.deferred (some [])) := (hbY.block _ (by omega)).trans hd
      have hltY : w.heap.size + 1 < Y.heap.size := (Array.getElem?_eq_some_iff.1 hlY).1
      have hbeg : (Instr.beginRound (w.heap.size + 1)).run P Y = .ok () (Y.putObj (w.heap.size + 1) (R .busy none)) := by
        rw [hR] at hlY ⊢
        exact run_beginRound hlY rfl
      refine ⟨_, hbeg, ?_⟩
      have hiZ : I k F (Y.putObj (w.heap.size + 1) (R .busy none)) := hI _ _ _ _ hi ((KJ.of_below hbY (by omega)).trans (turn _ _ _ nF1))
      have hlZ : (Y.putObj (w.heap.size + 1) (R .busy none)).heap[w.heap.size + 1]? = some (R .busy none) := World.putObj_heap_same hltY
      have hdZ : (Y.putObj (w.heap.size + 1) (R .busy none)).heap[w.heap.size]? = some (.deferred (some [])) := (World.putObj_heap_other (by omega)).trans hdY
      have hkZ : KP N V.heap.size F X (Y.putObj (w.heap.size + 1) (R .busy none)) := (KP.of_below hbY).trans (KP.put (by omega) (by omega) _)
      have hkZf : KF V.heap.size X (Y.putObj (w.heap.size + 1) (R .busy none)) := (KF.of_below hbY).trans (KF.put (by omega) _)
      have hfin : ∀ (jump : Option Code) (Z : World), Z.heap[w.heap.size + 1]? = some (R .busy none) →
          (Instr.endRound (w.heap.size + 1) jump).run P Z = .ok (.bool jump.isNone) (Z.putObj (w.heap.size + 1) (R (if jump.isNone then .ready else .done) jump)) := fun jump Z hz => by
        rw [hR] at hz ⊢
        exact run_endRound jump hz
      refine wpIn_mono (hbody _ k F x a' _ (by simp; omega) hx hiZ ((hAx x a').putObj (s := ()) _ hax (by omega) hlY (hRc _ _))) ?_
      have leave : ∀ (c : Code) (Z : World), KF w.heap.size (Y.putObj (w.heap.size + 1) (R .busy none)) Z → Ix c k Z → ∃ v w', (Instr.endRound (w.heap.size + 1) (some c)).run P Z = .ok v w' ∧
          ((Ending.returned v = .returned (.bool true) ∧ ∃ F', Grow X.heap.size F F' ∧ (I (k + 1) F' w' ∧ w'.heap[w.heap.size + 1]? = some (R .ready none) ∧ w'.heap[w.heap.size]? = some (.deferred (some [])) ∧ ¬ F' (w.heap.size + 1) ∧ ¬ F' w.heap.size) ∧ KP N V.heap.size F X w') ∨
            (Ending.returned v = .returned (.bool false) ∧ (∃ c, Ix c k w' ∧ w'.heap[w.heap.size + 1]? = some (R .done (some c)) ∧ w'.heap[w.heap.size]? = some (.deferred (some []))) ∧ KF V.heap.size X w')) := fun c Z hk hi => by
        have h1 := hk.same _ _ (by omega) hlZ
        have h2 := hk.same _ _ (Nat.le_refl _) hdZ
        exact ⟨_, _, hfin (some c) Z h1, .inr ⟨rfl, ⟨c, hIx c _ _ _ hi (turnB _ _), World.putObj_heap_same (Array.getElem?_eq_some_iff.1 h1).1, (World.putObj_heap_other (by omega)).trans h2⟩,
          hkZf.trans ((hk.mono (by omega)).trans (KF.put (by omega) _))⟩⟩
      rintro e a3 Z hp
      cases e with
      | normal =>
        obtain ⟨hk, F', hgr, hi3⟩ := hp
        have hgr2 : Grow X.heap.size F F' := fun b hb => (hgr b hb).imp id fun h => Nat.le_trans hbY.size (by simpa using h)
        have hlX : w.heap.size + 1 < X.heap.size := by omega
        have nG1 : ¬ F' (w.heap.size + 1) := fun h => by rcases hgr2 _ h with h | h; exact nF1 h; omega
        have nG0 : ¬ F' w.heap.size := fun h => by rcases hgr2 _ h with h | h; exact nF0 h; omega
        have h1 := hk.same _ _ hlZ (.inr ⟨by omega, nF1⟩)
        have h2 := hk.same _ _ hdZ (.inr ⟨Nat.le_refl _, nF0⟩)
        exact ⟨_, _, hfin none Z h1, .inl ⟨rfl, F', hgr2, ⟨hI _ _ _ _ hi3 (turn _ _ _ nG1), World.putObj_heap_same (Array.getElem?_eq_some_iff.1 h1).1, (World.putObj_heap_other (by omega)).trans h2, nG1, nG0⟩,
          hkZ.trans ((hk.mono (by omega)).trans (KP.put (by omega) (by omega) _))⟩⟩
      | ret => exact leave .ret Z hp.1 hp.2
      | exit id => exact leave (.exit id) Z hp.1 hp.2
      | goto t => exact leave (.goto t) Z hp.1 hp.2
      | panic ch => exact hp.elim
      | outgrown => exact hp.elim
    · rintro e X ⟨⟨v, rfl⟩, ⟨F, hi, hl, hd, nF1, nF0⟩ | ⟨k, hk, c, hi, hl, hd⟩⟩
      · refine ⟨none, _, by rw [hR] at hl; exact run_endLoop hl (by simp), ?_⟩
        exact hdone _ _ _ (Nat.le_refl _) nF0 (hI _ _ _ _ hi (turn _ _ _ nF1)) ((World.putObj_heap_other (by omega)).trans hd)
      · refine ⟨some c, _, by rw [hR] at hl; exact run_endLoop hl (by simp), ?_⟩
        exact hstop _ c k _ (Nat.le_refl _) hk (hIx c _ _ _ hi (turnB _ _)) ((World.putObj_heap_other (by omega)).trans hd)
end Go.Proofs.YtleejffjnknohaaGreat.J5

namespace Go.Proofs.YtleejffjnknohaaGreat.V4
open Go.RowKit Go.Shelf
open S2 (Sc LiesP)

attribute [local go_sem] Oper.semAt_some

def encV (x : Vl) : Array Value := #[x.val]
def encC (x : Ck) : Array Value := #[x.v]

set_option maxHeartbeats 400000 in
/-- slices.Values, of clocks. -/
theorem clocks1_any (A : Option Addr) (c : Nat) (l : List Ck) (w : World) : Calls Tryz.prog 118 #[.slice A l.length c] w fun e w' =>
    e = .returned (.func (.func 135) #[] #[.pointer (some ⟨w.heap.size, 0, none⟩)]) ∧ w.alloc (.cells #[.slice A l.length c] 30) = w' := by
  go_enter Tryz.func118, Tryz.ntmps118
  go_wp2_with fail
  go_ret
  exact ⟨rfl, rfl⟩

set_option maxRecDepth 100000 in
set_option maxHeartbeats 1000000 in
theorem clocks1_seq (Bt D : Nat) (A : Option Addr) (c : Nat) (vs : List Ck) (w : World) (hl : LiesC (Bar D) w A (cellsC vs)) (hn : vs.length * 24 ≤ 140737488351232) (hBt : w.cell? ⟨Bt, 0, none⟩ = some (.slice A vs.length c)) :
    SeqO Tryz.prog 135 #[.pointer (some ⟨Bt, 0, none⟩)] encC D (fun _ => True) vs w := by
  intro l J Jx W hW hJ hJx hY h0
  have hB : W.cell? ⟨Bt, 0, none⟩ = some (.slice A vs.length c) := (hW.cell (p := ⟨Bt, 0, none⟩) (World.block_lt_of_cell? w _ hBt)).trans hBt
  have hlW : LiesC (Bar D) W A (cellsC vs) := hl.kn (B := 0) (KN.of_below hW)
  have HY := Lib.hid hY
  have HL := Lib.hid hlW
  clear hY hJ hJx hBt hl hlW hW
  refine (callsIn_wide (n := 6)).1 (callsIn_of_wp Tryz.func135 rfl trivial ?_ rfl)
  simp only [Tryz.ntmps135, List.size_toArray, List.length_cons, List.length_nil, Nat.reduceAdd, Nat.reduceSub, Array.replicate_succ, Array.replicate_zero, List.push_toArray, List.append_toArray, List.nil_append, List.cons_append]
  gi_wp2_with fail
  gi_loopw [7] (fun iv wr => ∃ (k : Nat), k ≤ vs.length ∧ iv = .int .i64 k ∧ J k wr ∧ KN D W.heap.size W wr) (fun iv _ => vs.length - (intOf iv).toNat)
  case atStart => exact ⟨0, Nat.zero_le _, rfl, h0, KN.refl _ _ _⟩
  case round =>
    obtain ⟨k, hk, rfl, hJr, hkr⟩ := hrel
    clear h0
    by_cases hlt : k < vs.length
    · obtain ⟨x, hx⟩ : ∃ x, vs[k]? = some x := ⟨_, List.getElem?_eq_getElem hlt⟩
      obtain ⟨b, off, rfl, hb, c0⟩ := clock_at HL.out hx
      replace c0 := hkr.cell hb c0
      have hbb := World.block_lt_of_cell? wr _ c0
      simp only at hbb
      have HX := Lib.hid hx
      clear hx
      obtain ⟨fn, tmps, assign, body, hy, hR⟩ := yield_any (m' := 5) (HY.out k x _ HX.out hJr hkr.size)
      unfold encC at hy
      obtain ⟨xA, xc, xl⟩ := x
      simp only [Ck.v] at hy c0
      gi_wp2_with fail
      refine hR.mono ?_
      clear hR hy c0
      rintro e W5 (⟨rfl, hJ5, hk5, -⟩ | ⟨rfl, hJx5, -⟩)
      · have hk6 : KN D W.heap.size W W5 := hkr.trans hk5
        clear hk5 hkr hJr
        gi_wp2_with fail
        go_roundw
        case rel => exact ⟨k + 1, by omega, by go_num, hJ5, hk6⟩
        case measure => simp [intOf]; omega
      · gi_wp2_with fail
        refine bodyPost_ret (results_none rfl _ _ _) rfl ?_
        exact ⟨⟨_, rfl⟩, .inr ⟨k, hlt, hJx5⟩⟩
    · gi_wp2_with fail
      go_end0
      have hke : k = vs.length := by omega
      exact ⟨⟨_, rfl⟩, .inl (hke ▸ hJr)⟩
end Go.Proofs.YtleejffjnknohaaGreat.V4

namespace Go.Proofs.YtleejffjnknohaaGreat.V4
open Go.RowKit Go.Shelf
open S2 (Sc LiesP)

attribute [local go_sem] Oper.semAt_some

/-- A value with its schema, as it lies in a variable. -/
def cellsT (x : Sc × Vl) : Array Value := #[.int .i64 x.1.k, x.1.v1, .int .u64 x.2.n, .int .u64 x.2.m, x.2.s1, x.2.c1, x.2.v1]
/-- .. as it is handed over. -/
def valT (x : Sc × Vl) : Value := .agg (cellsT x)
def encT (x : Sc × Vl) : Array Value := #[valT x]
/-- Whatever is in the value has a schema. -/
def SafeT (x : Sc × Vl) : Prop := x.2.vs = [] ∨ x.1.ins ≠ []

/-- The two ways out of a round as one. -/
theorem one_way {e : Ending} {p q : Prop} (h : (e = .returned (.bool true) ∧ p) ∨ (e = .returned (.bool false) ∧ q)) : ∃ r : Bool, e = .returned (.bool r) ∧ (if r then p else q) := by
  rcases h with ⟨h1, h2⟩ | ⟨h1, h2⟩
  · exact ⟨true, h1, h2⟩
  · exact ⟨false, h1, h2⟩

set_option maxHeartbeats 400000 in
theorem inside_any (x : Sc × Vl) (w : World) : Calls Tryz.prog 40 #[valT x] w fun e w' =>
    e = .returned (.func (.func 58) #[] #[.pointer (some ⟨w.heap.size, 0, none⟩)]) ∧ w.alloc (.cells (cellsT x) 84) = w' := by
  obtain ⟨⟨k, A, c, l⟩, xn, xm, xsA, xsc, xss, xcA, xcc, xcs, xvA, xvc, xvs⟩ := x
  unfold valT cellsT
  simp only [Sc.k, Sc.v1, Vl.n, Vl.m, Vl.s1, Vl.c1, Vl.v1]
  go_enter Tryz.func40, Tryz.ntmps40
  go_wp2_with fail
  go_ret
  exact ⟨rfl, rfl⟩

set_option maxRecDepth 100000 in
set_option maxHeartbeats 1000000 in
theorem inside_seq (Bt D : Nat) (x : Sc × Vl) (w : World) (h1 : x.1.Inp (Bar D) w) (h2 : x.2.Inp (Bar D) w) (hs : SafeT x) (hBt : ∀ i v, (cellsT x)[i]? = some v → w.cell? ⟨Bt, i, none⟩ = some v) :
    SeqO Tryz.prog 58 #[.pointer (some ⟨Bt, 0, none⟩)] encT D (fun _ => True) (kidsT x) w := by
  intro l J Jx W hW hJ hJx hY h0
  have hb1 : W.cell? ⟨Bt, 1, none⟩ = some x.1.v1 := (hW.cell (p := ⟨Bt, 1, none⟩) (World.block_lt_of_cell? w _ (hBt 1 _ rfl))).trans (hBt 1 _ rfl)
  have hb6 : W.cell? ⟨Bt, 6, none⟩ = some x.2.v1 := (hW.cell (p := ⟨Bt, 6, none⟩) (World.block_lt_of_cell? w _ (hBt 6 _ rfl))).trans (hBt 6 _ rfl)
  have g1 : x.1.Inp (Bar D) W := sc_kn (B := 0) h1 (KN.of_below hW)
  have g2 : x.2.Inp (Bar D) W := h2.kn (B := 0) (KN.of_below hW)
  have HY := Lib.hid hY
  have HJ := Lib.hid hJ
  clear hY hJ hJx hBt h1 h2 hW
  obtain ⟨⟨k0, A, c, ins⟩, n0, m0, sA, sc, ss, cA, cc, cs, vA, vc, vs⟩ := x
  simp only [Sc.v1, Vl.v1] at hb1 hb6
  obtain ⟨hlS, hnS⟩ : LiesP (Bar D) W A ins ∧ ins.length * 32 ≤ 140737488351232 := by
    cases g1 with
    | mk _ _ _ _ h1 _ _ h3 _ => exact ⟨h1, h3⟩
  obtain ⟨hlV, hnV⟩ : LiesC (Bar D) W vA (cellsV vs) ∧ vs.length * 88 ≤ 140737488351232 := by
    cases g2 with
    | mk _ _ _ _ _ _ _ _ _ _ _ _ _ _ _ _ _ _ _ h9 h10 _ => exact ⟨h9, h10.2.2⟩
  have HS := Lib.hid hlS
  have HV := Lib.hid hlV
  have HSA := Lib.hid hs
  clear g1 g2 hlS hlV hs
  refine (callsIn_wide (n := 6)).1 (callsIn_of_wp Tryz.func58 rfl trivial ?_ rfl)
  simp only [Tryz.ntmps58, List.size_toArray, List.length_cons, List.length_nil, Nat.reduceAdd, Nat.reduceSub, Array.replicate_succ, Array.replicate_zero, List.push_toArray, List.append_toArray, List.nil_append, List.cons_append]
  gi_wp2_with fail
  gi_loopw [13] (fun iv wr => ∃ (k : Nat), k ≤ vs.length ∧ iv = .int .i64 k ∧ J k wr ∧ KN D W.heap.size W wr) (fun iv _ => vs.length - (intOf iv).toNat)
  case atStart => exact ⟨0, Nat.zero_le _, rfl, h0, KN.refl _ _ _⟩
  case round =>
    obtain ⟨k, hk, rfl, hJr, hkr⟩ := hrel
    clear h0
    by_cases hlt : k < vs.length
    · obtain ⟨x, hx⟩ : ∃ x, vs[k]? = some x := ⟨_, List.getElem?_eq_getElem hlt⟩
      obtain ⟨b, off, rfl, hb, c0, c1, c2, c3, c4⟩ := value_at HV.out hx
      replace c0 := hkr.cell hb c0
      replace c1 := hkr.cell hb c1
      replace c2 := hkr.cell hb c2
      replace c3 := hkr.cell hb c3
      replace c4 := hkr.cell hb c4
      have hbb := World.block_lt_of_cell? wr _ c0
      simp only at hbb
      have hi0 : 0 < ins.length := by
        rcases HSA.out with h | h
        · simp only [Vl.vs] at h; subst h; simp at hlt
        · exact List.length_pos_iff.2 h
      obtain ⟨q, hq⟩ : ∃ q, min k (ins.length - 1) = q := ⟨_, rfl⟩
      have hql : q < ins.length := by omega
      obtain ⟨y, hy0⟩ : ∃ y, ins[q]? = some y := ⟨_, List.getElem?_eq_getElem hql⟩
      obtain ⟨b', off', rfl, hb', hc'⟩ : ∃ b off, A = some ⟨b, off, none⟩ ∧ Bar D b ∧ ∀ i x, ins[i]? = some x → W.cell? ⟨b, off + i * 2, none⟩ = some (.int .i64 x.k) ∧ W.cell? ⟨b, off + i * 2 + 1, none⟩ = some x.v1 := by
        rcases HS.out with h | h
        · subst h; simp at hql
        · exact h
      have d0 := hkr.cell hb' (hc' q y hy0).1
      have d1 := hkr.cell hb' (hc' q y hy0).2
      have hbb' := World.block_lt_of_cell? wr _ d0
      simp only at hbb'
      have hkid : (kidsT (Sc.mk k0 (some ⟨b', off', none⟩) c ins, Vl.mk n0 m0 sA sc ss cA cc cs (some ⟨b, off, none⟩) vc vs))[k]? = some (y, x) := by
        rw [kidsT_at]
        simp only [Vl.vs, hx, Option.map_some, Sc.ins, scAt, hq, hy0, Option.getD_some]
      have HX := Lib.hid hkid
      clear hkid hx hc' hy0
      have hbr : Below wr.heap.size wr (wr.alloc (.cells #[.int .u64 x.n, .int .u64 x.m, x.s1, x.c1, x.v1] 32)) := (Below.refl _ wr).alloc (Nat.le_refl _) _
      obtain ⟨xn, xm, xsA, xsc, xss, xcA, xcc, xcs, xvA, xvc, xvs⟩ := x
      obtain ⟨yk, yA, yc, yl⟩ := y
      simp only [Vl.n, Vl.m, Vl.s1, Vl.c1, Vl.v1, Sc.k, Sc.v1] at c0 c1 c2 c3 c4 d0 d1
      simp only [Vl.n, Vl.m, Vl.s1, Vl.c1, Vl.v1] at hbr
      have hbr2 : Below wr.heap.size wr (wr.alloc (.cells #[.int .u64 xn, .int .u64 xm, .slice xsA xss.length xsc, .slice xcA xcs.length xcc, .slice xvA xvs.length xvc] 32)).drew := ⟨hbr.os, hbr.tape, hbr.output, hbr.size, hbr.block⟩
      obtain ⟨fn, tmps, assign, body, hy, hR⟩ := yield_any (m' := 5) (HY.out k _ _ HX.out (HJ.out _ _ _ hJr (hbr2.mono hkr.size)) (Nat.le_trans hkr.size hbr2.size))
      unfold encT valT cellsT at hy
      simp only [Sc.k, Sc.v1, Vl.n, Vl.m, Vl.s1, Vl.c1, Vl.v1] at hy
      have hmn : min (k : Int) (IntKind.i64.wrap ((ins.length : Int) - 1)) = (q : Int) := by
        have : IntKind.i64.wrap ((ins.length : Int) - 1) = (ins.length : Int) - 1 := IntWalk.i64_in _ (by omega)
        rw [this]; omega
      clear hq
      have hmx : Tryz.prog.follows .mixedOrders = true := by kernel_rfl
      have hR2 := hR.mono fun e W' h => one_way h
      clear hR
      gi_wp2_with fail
      gi_region_with_o (refine hR2.mono ?_; rintro e W5 ⟨r, rfl, hr⟩)
      all_goals (
        clear hR2 hy c0 c1 c2 c3 c4 d0 d1
        cases r with
        | true =>
          obtain ⟨hJ5, hk5, -⟩ := hr
          have hk6 : KN D W.heap.size W W5 := hkr.trans ((KN.of_below hbr2).trans hk5)
          clear hk5 hbr2 hbr hkr hJr
          gi_wp2_with fail
          go_roundw
          case rel => exact ⟨k + 1, by omega, by go_num, hJ5, hk6⟩
          case measure => simp [intOf]; omega
        | false =>
          gi_wp2_with fail
          refine bodyPost_ret (results_none rfl _ _ _) rfl ?_
          exact ⟨⟨_, rfl⟩, .inr ⟨k, by rw [kidsT_len]; exact hlt, hr.1⟩⟩)
    · gi_wp2_with fail
      go_end0
      have hke : k = vs.length := by omega
      refine ⟨⟨_, rfl⟩, .inl ?_⟩
      rw [kidsT_len]
      exact hke ▸ hJr
end Go.Proofs.YtleejffjnknohaaGreat.V4

namespace Go.Proofs.YtleejffjnknohaaGreat.V4
open Go.RowKit Go.Shelf
open S2 (Sc LiesP)

attribute [local go_sem] Oper.semAt_some

/-- Two values, as they lie in a variable. -/
def cellsK (x : Vl × Vl) : Array Value := #[.int .u64 x.1.n, .int .u64 x.1.m, x.1.s1, x.1.c1, x.1.v1, .int .u64 x.2.n, .int .u64 x.2.m, x.2.s1, x.2.c1, x.2.v1]
/-- .. as they are handed over. -/
def valK (x : Vl × Vl) : Value := .agg (cellsK x)
def encK (x : Vl × Vl) : Array Value := #[valK x]
/-- Whatever is in the one has a fellow in the other. -/
def SafeK (x : Vl × Vl) : Prop := x.1.vs.length ≤ x.2.vs.length

theorem kidsC_len (x : Vl × Vl) (h : SafeK x) : (kidsC x).length = x.1.vs.length := by unfold SafeK at h; simp [kidsC]; omega

end Go.Proofs.YtleejffjnknohaaGreat.V4

namespace Go.Proofs.YtleejffjnknohaaGreat.S2
open Go.RowKit

/-- What a schema of kind 8 has. -/
theorem is_cause {k : Int} {A : Option Addr} {c : Nat} {l : List Sc} (h : isT 16 (Sc.mk k A c l).er = true) (hk : k = 8) : ∃ x, l = [x] ∧ isT 15 x.er = true := by
  rw [isT_succ, Bool.and_eq_true] at h
  subst hk
  have h1 : (l.length : Int) = 1 := of_decide_eq_true h.1
  match l, h1 with
  | [x], _ => exact ⟨x, rfl, by simpa using h.2⟩
theorem is_pair {n : Nat} {k : Int} {A : Option Addr} {c : Nat} {l : List Sc} (h : isT (n + 1) (Sc.mk k A c l).er = true) (hk : k = 5) : ∃ x y, l = [x, y] := by
  rw [isT_succ, Bool.and_eq_true] at h
  subst hk
  have h1 : (l.length : Int) = 2 := of_decide_eq_true h.1
  match l, h1 with
  | [x, y], _ => exact ⟨x, y, rfl⟩

theorem lies_first {n : Nat} {w : World} {A : Option Addr} {x : Sc} {l : List Sc} (h : LiesS n w A (x :: l)) : ∃ b off, A = some ⟨b, off, none⟩ ∧ b < n ∧ w.cell? ⟨b, off, none⟩ = some (.int .i64 x.k) ∧ w.cell? ⟨b, off + 1, none⟩ = some x.v1 := by
  obtain ⟨b, off, hA, hb, hc⟩ := h.get (k := 0) (by simp)
  have := hc 0 x rfl
  simp only [Nat.zero_mul, Nat.add_zero] at this
  exact ⟨b, off, hA, hb, this⟩
theorem lies_second {n : Nat} {w : World} {b off : Nat} {x y : Sc} {l : List Sc} (h : LiesS n w (some ⟨b, off, none⟩) (x :: y :: l)) : w.cell? ⟨b, off + 2, none⟩ = some (.int .i64 y.k) ∧ w.cell? ⟨b, off + 2 + 1, none⟩ = some y.v1 := by
  obtain ⟨b, off, hA, hb, hc⟩ := h.get (k := 0) (by simp)
  cases hA
  exact hc 1 y rfl

theorem level_not {t : Tr} (h : isT 16 t = false) : levelT t = 0 := by simp [levelT, h]
theorem level_last {t : Tr} (h : isT 16 t = true) (hk : t.k = 6) : levelT t = 2 := by simp [levelT, h, hk]
theorem level_plain {t : Tr} (h : isT 16 t = true) (hk : t.k ≠ 6) (hc : causalT t = false) : levelT t = 1 := by simp [levelT, h, hk, hc]
theorem level_cause {t : Tr} (h : isT 16 t = true) (hk : t.k ≠ 6) (hc : causalT t = true) : levelT t = 3 := by simp [levelT, h, hk, hc]
theorem causal_k {t : Tr} (h : t.k ≠ 8) : causalT t = false := by
  unfold causalT
  split
  · rename_i k k1 x r
    exact decide_eq_false fun e => h e.1
  · rfl
theorem causal_k1 {k : Int} {A : Option Addr} {c : Nat} {x : Sc} (h : x.k ≠ 5) : causalT (Sc.mk k A c [x]).er = false := by
  obtain ⟨k1, A1, c1, l1⟩ := x
  simp only [er_mk, List.map_cons, List.map_nil]
  cases l1 with
  | nil => rfl
  | cons z l1 => exact decide_eq_false fun e => h e.2.1
theorem causal_two {A A1 : Option Addr} {c c1 : Nat} {x y : Sc} : causalT (Sc.mk 8 A c [.mk 5 A1 c1 [x, y]]).er = decide ((Sc.mk 8 A c [.mk 5 A1 c1 [x, y]]).er = causeT y.er) := by
  simp only [er_mk, List.map_cons, List.map_nil, causalT, causeT]
  simp
theorem causal_lean {A A1 : Option Addr} {c c1 : Nat} {x y : Sc} : causalT (Sc.mk 8 A c [.mk 5 A1 c1 [x, y]]).er = decide (x.er = leanT) := by
  simp only [er_mk, List.map_cons, List.map_nil, causalT]
  simp

/-- 3 or 1. -/
def lv3 (q : Bool) : Int := if q then 3 else 1

end Go.Proofs.YtleejffjnknohaaGreat.S2

namespace Go.Proofs.YtleejffjnknohaaGreat.S2
open Go.RowKit

set_option maxHeartbeats 400000 in
theorem inside_any (s : Sc) (w : World) : Calls Tryz.prog 35 #[s.val] w (RetV w s.v1) := by
  obtain ⟨k0, A, c, l⟩ := s
  simp only [val_mk]
  go_enter Tryz.func35, Tryz.ntmps35
  go_wp2_with fail
  go_ret
  exact ⟨rfl, allocB _ _⟩

/-- It alone, not what is in it. -/
def shapedS (s : Sc) : Bool := decide ((s.ins.length : Int) = arI s.k)

theorem dec_int (n : Nat) (m : Int) : ((n : Int) == m) = decide ((n : Int) = m) := by
  by_cases h : (n : Int) = m <;> simp [h]

set_option maxHeartbeats 400000 in
theorem shaped_any (s : Sc) (w : World) : Calls Tryz.prog 36 #[s.val] w (RetV w (.bool (shapedS s))) := by
  obtain ⟨k, A, c, l⟩ := s
  simp only [val_mk]
  by_cases h0 : k = 1 ∨ k = 2 ∨ k = 3 ∨ k = 6 ∨ k = 7
  · rcases h0 with rfl | rfl | rfl | rfl | rfl
    all_goals
      go_enter Tryz.func36, Tryz.ntmps36
      go_wp2_with fail
      go_ret
      exact ⟨ret_bool (dec_int _ _), allocB _ _⟩
  · by_cases h1 : k = 4 ∨ k = 8
    · rcases h1 with rfl | rfl
      all_goals
        go_enter Tryz.func36, Tryz.ntmps36
        go_wp2_with fail
        go_ret
        exact ⟨ret_bool (dec_int _ _), allocB _ _⟩
    · by_cases h2 : k = 5
      · subst h2
        go_enter Tryz.func36, Tryz.ntmps36
        go_wp2_with fail
        go_ret
        exact ⟨ret_bool (dec_int _ _), allocB _ _⟩
      · have HA : Hid (shapedS (.mk k A c l) = false) := by
          show decide ((l.length : Int) = arI k) = false
          unfold arI
          rw [if_neg h0, if_neg h1, if_neg h2]
          exact decide_eq_false (by omega)
        have e1 : k ≠ 1 := fun h => h0 (by simp [h])
        have e2 : k ≠ 2 := fun h => h0 (by simp [h])
        have e3 : k ≠ 3 := fun h => h0 (by simp [h])
        have e6 : k ≠ 6 := fun h => h0 (by simp [h])
        have e7 : k ≠ 7 := fun h => h0 (by simp [h])
        have e4 : k ≠ 4 := fun h => h1 (by simp [h])
        have e8 : k ≠ 8 := fun h => h1 (by simp [h])
        clear h0 h1
        go_enter Tryz.func36, Tryz.ntmps36
        go_wp2_with fail
        go_ret
        exact ⟨ret_bool HA.out.symm, allocB _ _⟩

theorem retN_mk {w w' : World} {t : Tr} {v : Value} (s : Sc) (hb : Below w.heap.size w w') (hv : v = s.val) (he : s.er = t) (hi : s.Inp (fun b => w.heap.size ≤ b ∧ b < w'.heap.size) w') : RetN w t (.returned v) w' := ⟨s, by rw [hv], he, hi, hb⟩
theorem RetN.toS {w w' : World} {t : Tr} {e : Ending} (h : RetN w t e w') : RetS w t e w' := by
  obtain ⟨s, h1, h2, h3, h4⟩ := h
  exact ⟨s, h1, h2, h3.mono fun b hP => hP.2, h4⟩
theorem inp_leaf (P : Nat → Prop) (w : World) (k : Int) : (Sc.mk k none 0 []).Inp P w := .mk _ _ _ _ LiesP.nil (by simp) (by simp) (by simp) (by simp)
theorem inp_one {P : Nat → Prop} {b : Nat} {w : World} {k : Int} {x : Sc} (hP : P b) (h0 : w.cell? ⟨b, 0, none⟩ = some (.int .i64 x.k)) (h1 : w.cell? ⟨b, 1, none⟩ = some x.v1) (hx : x.Inp P w) : (Sc.mk k (some ⟨b, 0, none⟩) 1 [x]).Inp P w := by
  refine .mk _ _ _ _ (.inr ⟨b, 0, rfl, hP, fun i y hy => ?_⟩) (by simp) (by simp) (by simp) (fun y hy => by rw [List.mem_singleton.1 hy]; exact hx)
  match i, hy with
  | 0, hy => simp at hy; subst hy; exact ⟨h0, h1⟩
theorem inp_two {P : Nat → Prop} {b : Nat} {w : World} {k : Int} {x y : Sc} (hP : P b) (h0 : w.cell? ⟨b, 0, none⟩ = some (.int .i64 x.k)) (h1 : w.cell? ⟨b, 1, none⟩ = some x.v1)
    (h2 : w.cell? ⟨b, 2, none⟩ = some (.int .i64 y.k)) (h3 : w.cell? ⟨b, 3, none⟩ = some y.v1) (hx : x.Inp P w) (hy : y.Inp P w) : (Sc.mk k (some ⟨b, 0, none⟩) 2 [x, y]).Inp P w := by
  refine .mk _ _ _ _ (.inr ⟨b, 0, rfl, hP, fun i z hz => ?_⟩) (by simp) (by simp) (by simp) (fun z hz => by rcases List.mem_cons.1 hz with rfl | hz; exact hx; rw [List.mem_singleton.1 hz]; exact hy)
  match i, hz with
  | 0, hz => simp at hz; subst hz; exact ⟨h0, h1⟩
  | 1, hz => simp at hz; subst hz; exact ⟨h2, h3⟩

end Go.Proofs.YtleejffjnknohaaGreat.S2
