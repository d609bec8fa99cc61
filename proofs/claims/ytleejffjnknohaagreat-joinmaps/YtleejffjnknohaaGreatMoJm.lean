/- JoinMapsSaid is proved: at every input the law returns true, and each argument reads afterwards as it read before. No condition. What JoinMaps does: it answers true. No condition but that what is handed in lies in memory. Three maps that grow side by side, in memory. No condition. What the law's own helper with does: a key and a number onto the rows of a value. No condition but that the rows are the caller's own. A load that stores wait for by way of other operations may be taken first, too. No condition. Maps of numbers joined, made key by key: plain mathematics. No condition. -/
import Derived.Test.YtleejffjnknohaaGreatMo24
import Derived.Test.YtleejffjnknohaaGreatMo13
import Derived.Test.YtleejffjnknohaaGreatMo14
import Derived.Test.YtleejffjnknohaaGreatMo23
import Derived.Test.YtleejffjnknohaaGreatMo04
import Derived.Test.YtleejffjnknohaaGreatMo25
import Derived.Deep.DeepCutAuto
import Derived.Sort.CutIn
import Derived.WalkKit
import Derived.ProofKit
import Derived.OpenShut
namespace Go.Proofs.YtleejffjnknohaaGreat.J5
open S2 (Tr isT)
open V4 (Va isV botT shortV)

/-- The key of the i-th one. -/
def ky (i : Nat) : Str := [byt (97 + (i : Int))]
theorem ky_lt {i j : Nat} (h : i < j) (hj : j ≤ 100) : ky i < ky j := by
  unfold ky
  rw [List.cons_lt_cons_iff]
  exact .inl ((byt_lt (by omega) (by omega)).2 (by omega))
theorem cmpS_neg {a b : Str} (h : a < b) : cmpS a b < 0 := by unfold cmpS; rw [if_pos h]; decide
theorem cmpS_pos {a b : Str} (h : b < a) : 0 < cmpS a b := by
  unfold cmpS
  rw [if_neg (fun h2 => List.lt_irrefl a (List.lt_trans h2 h)), if_pos h]
  decide

/-- n entries from the i-th one on: those above 0. -/
def kv (f : Nat → Int) : Nat → Nat → List (Str × Va)
  | _, 0 => []
  | i, n + 1 => if 0 < f i then (ky i, numE (f i)) :: kv f (i + 1) n else kv f (i + 1) n
theorem kv_snoc (f : Nat → Int) : ∀ n i, kv f i (n + 1) = kv f i n ++ (if 0 < f (i + n) then [(ky (i + n), numE (f (i + n)))] else [])
  | 0, i => by simp only [kv, Nat.add_zero, List.nil_append]
  | n + 1, i => by
    have ih := kv_snoc f n (i + 1)
    rw [show i + 1 + n = i + (n + 1) by omega] at ih
    rw [kv, ih]
    conv => rhs; rw [kv]
    split <;> rfl
theorem kv_mem {f : Nat → Int} : ∀ {n i : Nat} {p : Str × Va}, p ∈ kv f i n → ∃ j, i ≤ j ∧ j < i + n ∧ 0 < f j ∧ p = (ky j, numE (f j))
  | 0, _, _, h => by cases h
  | n + 1, i, p, h => by
    rw [kv] at h
    split at h
    · rename_i h0
      rcases List.mem_cons.1 h with rfl | h
      · exact ⟨i, by omega, by omega, h0, rfl⟩
      · obtain ⟨j, h1, h2, h3⟩ := kv_mem h
        exact ⟨j, by omega, by omega, h3⟩
    · obtain ⟨j, h1, h2, h3⟩ := kv_mem h
      exact ⟨j, by omega, by omega, h3⟩
theorem kv_len (f : Nat → Int) : ∀ n i, (kv f i n).length ≤ n
  | 0, _ => Nat.le_refl _
  | n + 1, i => by
    have := kv_len f n (i + 1)
    rw [kv]
    split
    · simp only [List.length_cons]; omega
    · omega
theorem kv_srt {f : Nat → Int} : ∀ {n i : Nat}, i + n ≤ 100 → R1.Srt ((kv f i n).map (·.1))
  | 0, _, _ => .nil
  | n + 1, i, h => by
    rw [kv]
    have ih := kv_srt (f := f) (n := n) (i := i + 1) (by omega)
    split
    · refine List.pairwise_cons.2 ⟨fun s hs => ?_, ih⟩
      obtain ⟨p, hp, rfl⟩ := List.mem_map.1 hs
      obtain ⟨j, h1, h2, _, rfl⟩ := kv_mem hp
      exact ky_lt (by omega) (by omega)
    · exact ih

section
variable {M V : Type} (c : M → M → Int) (z : V)
theorem mix_hl {x : M × V} {a b : List (M × V)} (h : ∀ y ∈ b, c x.1 y.1 < 0) : mix c z (x :: a) b = (x.1, x.2, z) :: mix c z a b := by
  cases b with
  | nil => exact mix_left c z x a
  | cons y b => exact mix_lt c z a b (h y (by simp))
theorem mix_hr {y : M × V} {a b : List (M × V)} (h : ∀ x ∈ a, 0 < c x.1 y.1) : mix c z a (y :: b) = (y.1, z, y.2) :: mix c z a b := by
  cases a with
  | nil => exact mix_right c z y b
  | cons x a => exact mix_gt c z a b (h x (by simp))
end

theorem num_r (a : Int) (ha : 0 < a) : joinE (.mk 1 []) (numE a) .zero = some (numE a) := by
  have := joinE_num a 0
  rw [Int.max_eq_left (by omega)] at this
  exact this
theorem num_l (a : Int) (ha : 0 < a) : joinE (.mk 1 []) .zero (numE a) = some (numE a) := by
  have := joinE_num 0 a
  rw [Int.max_eq_right (by omega)] at this
  exact this

theorem kv_join (f g : Nat → Int) (hf : ∀ i, 0 ≤ f i) (hg : ∀ i, 0 ≤ g i) : ∀ n i, i + n ≤ 100 → allE (joinE (.mk 1 [])) (mix cmpS .zero (kv f i n) (kv g i n)) = some (kv (fun j => max (f j) (g j)) i n)
  | 0, i, _ => by rw [kv, kv, kv, mix_nil]; rfl
  | n + 1, i, h => by
    have ih := kv_join f g hf hg n (i + 1) (by omega)
    have up : ∀ (k : Nat → Int), ∀ y ∈ kv k (i + 1) n, ky i < y.1 := fun k y hy => by
      obtain ⟨j, h1, h2, _, rfl⟩ := kv_mem hy
      exact ky_lt (by omega) (by omega)
    have hf0 := hf i
    have hg0 := hg i
    rw [kv, kv, kv]
    by_cases h1 : 0 < f i
    · rw [if_pos h1, if_pos (show 0 < max (f i) (g i) by omega)]
      by_cases h2 : 0 < g i
      · rw [if_pos h2, mix_eq cmpS Va.zero (x := (ky i, numE (f i))) (y := (ky i, numE (g i))) _ _ (cmpS_ok.refl _), allE, joinE_num, ih]
        rfl
      · rw [if_neg h2, mix_hl cmpS Va.zero (fun y hy => cmpS_neg (up g y hy)), allE, num_r _ h1, ih, Int.max_eq_left (by omega)]
        rfl
    · rw [if_neg h1]
      by_cases h2 : 0 < g i
      · rw [if_pos h2, if_pos (show 0 < max (f i) (g i) by omega), mix_hr cmpS Va.zero (fun x hx => cmpS_pos (up f x hx)), allE, num_l _ h2, ih, Int.max_eq_right (by omega)]
        rfl
      · rw [if_neg h2, if_neg (show ¬ 0 < max (f i) (g i) by omega), ih]

/-- .. as a value. -/
def kvV (f : Nat → Int) (k : Nat) : Va := .mk 0 0 ((kv f 0 k).map (·.1)) [] ((kv f 0 k).map (·.2))
theorem isT_41 : isT 16 (.mk 4 [.mk 1 []]) = true := by decide
theorem kvV_is (f : Nat → Int) (k : Nat) (hk : k ≤ 20) : isV (.mk 4 [.mk 1 []]) (kvV f k) = true := by
  have hl := kv_len f k 0
  refine isV_map.2 ⟨_, _, rfl, kv_srt (by omega), by simp, by simp; omega, List.all_eq_true.2 fun s hs => ?_, fun y hy => ?_⟩
  · obtain ⟨p, hp, rfl⟩ := List.mem_map.1 hs
    obtain ⟨j, _, _, _, rfl⟩ := kv_mem hp
    rfl
  · obtain ⟨p, hp, rfl⟩ := List.mem_map.1 hy
    obtain ⟨j, _, _, h0, rfl⟩ := kv_mem hp
    refine ⟨is_num _, fun e => ?_⟩
    have e2 : (numE (f j)).n = (botT (.mk 1 [])).n := congrArg Va.n e
    have e3 : (botT (.mk 1 [])).n = 0 := by decide
    rw [e3] at e2
    have : f j = 0 := e2
    omega
theorem jm_join (f g : Nat → Int) (hf : ∀ i, 0 ≤ f i) (hg : ∀ i, 0 ≤ g i) (k : Nat) (hk : k ≤ 20) : joinF (.mk 4 [.mk 1 []]) (kvV f k) (kvV g k) = .ok (kvV (fun j => max (f j) (g j)) k) := by
  refine joinF_ok isT_41 (kvV_is f k hk) (kvV_is g k hk) ?_
  have hj := kv_join f g hf hg k 0 (by omega)
  rw [joinE, if_pos rfl]
  unfold mapE
  rw [show (kvV f k).s.zip (kvV f k).v = kv f 0 k from zip_parts _, show (kvV g k).s.zip (kvV g k).v = kv g 0 k from zip_parts _]
  have hl := allE_len hj
  have hl2 := kv_len (fun j => max (f j) (g j)) k 0
  unfold togE
  rw [if_neg (by omega), hj]
  rfl
end Go.Proofs.YtleejffjnknohaaGreat.J5

namespace Go.Proofs.YtleejffjnknohaaGreat.J5
open Go.RowKit Go.Shelf

/-- Those of D wait for i, or for one of D. -/
def downWait (md : Region.Mode) (ops : Array Oper) (D : Nat → Bool) (i : Nat) : Bool :=
  (List.range ops.size).all fun j => !D j || match ops[j]? with
    | some o => o.after.any fun e => Region.binds md e && (e.on == i || D e.on)
    | none => true
theorem downWait_spec {md : Region.Mode} {ops : Array Oper} {D : Nat → Bool} {i : Nat} (h : downWait md ops D i = true) {j : Nat} {o : Oper} (hj : ops[j]? = some o) (hl : D j = true) : ∃ e ∈ o.after, Region.binds md e = true ∧ (e.on = i ∨ D e.on = true) := by
  unfold downWait at h
  have hlt : j < ops.size := (Array.getElem?_eq_some_iff.1 hj).1
  have := List.all_eq_true.1 h j (List.mem_range.2 hlt)
  rw [hl, hj] at this
  simp only [Bool.not_true, Bool.false_or] at this
  obtain ⟨x, hx, he⟩ := Array.any_eq_true.1 this
  simp only [Bool.and_eq_true, Bool.or_eq_true, beq_iff_eq] at he
  exact ⟨_, Array.getElem_mem hx, he.1, he.2⟩
theorem anyLate_has {D : Nat → Bool} {listed : Array Bool} {k : Nat} (h1 : D k = true) (h2 : listed.getD k false = true) : anyLate D listed = true := by
  have hk : k < listed.size := by
    rcases Nat.lt_or_ge k listed.size with h | h
    · exact h
    · simp [Array.getElem?_eq_none h] at h2
  exact List.any_eq_true.2 ⟨k, List.mem_range.2 hk, by rw [h1, h2]; rfl⟩
theorem anyLate_sub {D late : Nat → Bool} {listed : Array Bool} (hD : ∀ j, late j = true → D j = true) (h : anyLate D listed = false) : anyLate late listed = false := by
  cases hl : anyLate late listed with
  | false => rfl
  | true =>
    obtain ⟨k, _, hk⟩ := List.any_eq_true.1 hl
    rw [Bool.and_eq_true] at hk
    rw [anyLate_has (hD k hk.1) hk.2] at h
    cases h

section
variable {P : Program} {ops : Array Oper} {Q : Exit → Act → World → Prop} {md : Region.Mode} {late : Nat → Bool} {S T : World → Prop}

/-- One that all late ones wait for, by way of D's, may be taken first, if it yields wherever S holds. -/
theorem wpAnyC_firstD {i : Nat} {oi : Oper} {v : Value} (D : Nat → Bool) (hi : ops[i]? = some oi) (hsel : ∀ (j : Nat) (o : Oper) cs b, ops[j]? = some o → o.op ≠ .select cs b)
    (hQ : ∀ c a w, Q (.panic c) (a.put oi.dst v) w → Q (.panic c) a w) (hle : D i = false) (hD : ∀ j, late j = true → D j = true) (hw : downWait md ops D i = true) :
    ∀ (fuel : Nat) (listed : Array Bool) (a : Act) (w : World),
      (∀ (j : Nat) (oj : Oper), ops[j]? = some oj → j ≠ i → listed.getD j true = false → (∀ e ∈ oj.after, Region.binds md e = true → e.on ≠ i) → oi.apart ops oj = true) →
      i ∈ Region.ready md ops listed → anyLate D listed = false → YieldsIf P ops S oi v a → T w → S w →
      wpAnyC P md ops Q late S T fuel (listed.setIfInBounds i true) (a.put oi.dst v) w → wpAnyC P md ops Q late S T (fuel + 1) listed a w := by
  intro fuel
  induction fuel with
  | zero =>
    intro listed a w _ hr _ hy hT hS H
    refine ⟨fun h => (by rw [h] at hr; cases hr), fun j hj => ?_⟩
    by_cases hji : j = i
    · subst hji; exact hy.wpOp hi hS ⟨⟨hT, fun _ => hS⟩, H⟩
    · have := ready_mono hj hji
      rw [H.1] at this
      cases this
  | succ fuel ih =>
    intro listed a w hfree hr hno hy hT hS H
    refine ⟨fun h => (by rw [h] at hr; cases hr), fun j hj => ?_⟩
    by_cases hji : j = i
    · subst hji; exact hy.wpOp hi hS ⟨⟨hT, fun _ => hS⟩, H⟩
    · have h1 := H.2 j (ready_mono hj hji)
      obtain ⟨hjun, oj, hoj, hall⟩ := mem_ready.1 hj
      have hnot := waits_not hr hall
      have hjl : D j = false := by
        cases hl : D j with
        | false => rfl
        | true =>
          obtain ⟨e, he, hb, ho | ho⟩ := downWait_spec hw hoj hl
          · exact absurd ho (hnot e he hb)
          · rw [anyLate_has ho (hall e he hb)] at hno; cases hno
      have h2 := wpOp_putIf hoj (hfree j oj hoj hji hjun hnot) (fun cs b => hsel i oi cs b hi) (fun cs b => hsel j oj cs b hoj) hQ hy h1
      refine wpOp_mono (fun a' w' h3 => ?_) h2
      have hno2 := anyLate_set hjl hno
      have hS' : S w' := h3.2.1.2 (by rw [Array.setIfInBounds_comm _ _ (Ne.symm hji)]; exact anyLate_sub hD (anyLate_set hle hno2))
      refine ⟨⟨h3.2.1.1, fun _ => hS'⟩, ih (listed.setIfInBounds j true) a' w' (fun k ok hk hki hun hno3 => ?_) (ready_mono hr (Ne.symm hji)) hno2 h3.1 h3.2.1.1 hS' ?_⟩
      · refine hfree k ok hk hki ?_ hno3
        by_cases hjk : j = k
        · subst hjk; exact hjun
        · rw [getD_set_ne true hjk] at hun; exact hun
      · rw [Array.setIfInBounds_comm _ _ hji]
        exact h3.2.2
/-- In slots. -/
theorem takeD (D : Nat → Bool) (i d : Nat) {oi : Oper} {v : Value} {fuel : Nat} {listed : Array Bool} {l : List Value} {df : List Deferred} {w : World} (hi : ops[i]? = some oi) (hd : oi.dst = some d)
    (hs : Region.noSelect ops = true) (hf : Region.free md ops listed i = true) (hr : (Region.ready md ops listed).contains i = true) (hle : D i = false) (hD : ∀ j, late j = true → D j = true) (hw : downWait md ops D i = true) (hno : anyLate D listed = false)
    (hQ : ∀ c a w, Q (.panic c) (Act.put a (some d) v) w → Q (.panic c) a w) (hy : YieldsIf P ops S oi v ⟨l.toArray, df⟩) (hT : T w) (hS : S w)
    (h : wpAnyC P md ops Q late S T fuel (listed.setIfInBounds i true) ⟨(l.set d v).toArray, df⟩ w) : wpAnyC P md ops Q late S T (fuel + 1) listed ⟨l.toArray, df⟩ w := by
  refine wpAnyC_firstD D hi (Region.noSelect_spec hs) (by rw [hd]; exact hQ) hle hD hw fuel listed ⟨l.toArray, df⟩ w (Region.free_spec hi hf) (by simpa using hr) hno hy hT hS ?_
  rw [hd]
  simpa [Act.put] using h
end
end Go.Proofs.YtleejffjnknohaaGreat.J5

namespace Go.Proofs.YtleejffjnknohaaGreat.J5
open Go.RowKit Go.Shelf
open C3 (belAl allocB)
open V4 (Va Vl cellsV cellsV_append vlNum)

/-- A row of keys, a row of values: the caller's own, from block B on. -/
structure Pr (B : Nat) (v1 v2 : Value) (l : List (Str × Va)) (W : World) : Prop where
  rm : W.ownsRow B 9 1 v1 l.length (l.map fun p => .string (S p.1))
  rv : W.ownsRow B 32 5 v2 l.length (cellsV (l.map fun p => vlNum p.2.n))
  ne : v1.ownBlock = none ∨ v1.ownBlock ≠ v2.ownBlock
theorem Pr.nil (B : Nat) (W : World) : Pr B (.slice none 0 0) (.slice none 0 0) [] W := ⟨World.ownsRow_nil _ _ _ _, World.ownsRow_nil _ _ _ _, .inl rfl⟩
theorem Pr.keep {B : Nat} {v1 v2 : Value} {l : List (Str × Va)} {W W' : World} (h : Pr B v1 v2 l W) (hk : ∀ b, B ≤ b → b < W.heap.size → v1.ownBlock = some b ∨ v2.ownBlock = some b → W'.heap[b]? = W.heap[b]?) : Pr B v1 v2 l W' :=
  ⟨row_keep h.rm fun b hb => hk b (h.rm.lt b hb).1 (h.rm.lt b hb).2 (.inl hb), row_keep h.rv fun b hb => hk b (h.rv.lt b hb).1 (h.rv.lt b hb).2 (.inr hb), h.ne⟩

/-- The pair behind the call: rows of the caller's own or new; all else stays. -/
structure Pw (B : Nat) (w : World) (v1 v2 u1 u2 : Value) (l : List (Str × Va)) (W : World) : Prop where
  os : W.os = w.os
  tape : W.tape = w.tape
  output : W.output = w.output
  size : w.heap.size ≤ W.heap.size
  same : ∀ b, b < w.heap.size → some b ≠ v1.ownBlock → some b ≠ v2.ownBlock → W.heap[b]? = w.heap[b]?
  pr : Pr B u1 u2 l W
  o1 : u1.ownBlock = v1.ownBlock ∨ ∃ b, u1.ownBlock = some b ∧ w.heap.size ≤ b
  o2 : u2.ownBlock = v2.ownBlock ∨ ∃ b, u2.ownBlock = some b ∧ w.heap.size ≤ b
theorem Pw.put {B : Nat} {w : World} {v1 v2 u1 u2 : Value} {l : List (Str × Va)} {W W' : World} (h : Pw B w v1 v2 u1 u2 l W) (h1 : W'.os = W.os) (h2 : W'.tape = W.tape) (h3 : W'.output = W.output) (hs : W'.heap.size = W.heap.size) (X : Nat → Prop) (hX : ∀ b, ¬ X b → W'.heap[b]? = W.heap[b]?) (hw : ∀ b, X b → w.heap.size ≤ b) (n1 : ∀ b, X b → some b ≠ u1.ownBlock) (n2 : ∀ b, X b → some b ≠ u2.ownBlock) : Pw B w v1 v2 u1 u2 l W' :=
  ⟨h1.trans h.os, h2.trans h.tape, h3.trans h.output, by rw [hs]; exact h.size, fun b hb e1 e2 => (hX b fun hx => by have := hw b hx; omega).trans (h.same b hb e1 e2), h.pr.keep fun b _ _ ho => hX b fun hx => by
    rcases ho with ho | ho
    · exact n1 b hx ho.symm
    · exact n2 b hx ho.symm, h.o1, h.o2⟩
theorem Pw.start {B : Nat} {w W : World} {v1 v2 : Value} {l : List (Str × Va)} (h : Pr B v1 v2 l w) (hb : Below w.heap.size w W) : Pw B w v1 v2 v1 v2 l W :=
  ⟨hb.os, hb.tape, hb.output, hb.size, fun b hlt _ _ => hb.block b hlt, h.keep fun b _ hlt _ => hb.block b hlt, .inl rfl, .inl rfl⟩
theorem Pr.two {B : Nat} {v1 v2 : Value} {l : List (Str × Va)} {W : World} (h : Pr B v1 v2 l W) : Two 9 B W v1 v2 v1 v2 l.length l.length (l.map fun p => .string (S p.1)) (cellsV (l.map fun p => vlNum p.2.n)) W.drew :=
  ⟨rfl, rfl, rfl, Nat.le_refl _, fun _ _ _ _ => rfl, h.rm, h.rv, .inl rfl, .inl rfl, h.ne⟩
/-- The rows one longer. -/
theorem Pw.of_two {B : Nat} {w V W : World} {v1 v2 u1 u2 : Value} {l : List (Str × Va)} {s : Str} {n : Int} (hb : Below w.heap.size w V) (ht : Two 9 B V v1 v2 u1 u2 (l.length + 1) (l.length + 1) ((l.map fun p => .string (S p.1)) ++ [.string (S s)]) (cellsV (l.map fun p => vlNum p.2.n) ++ [.int .u64 n, .int .u64 0, .slice none 0 0, .slice none 0 0, .slice none 0 0]) W) : Pw B w v1 v2 u1 u2 (l ++ [(s, numE n)]) W := by
  refine ⟨ht.os.trans hb.os, ht.tape.trans hb.tape, ht.output.trans hb.output, Nat.le_trans hb.size ht.size, fun b hlt e1 e2 => (ht.same b (Nat.lt_of_lt_of_le hlt hb.size) e1 e2).trans (hb.block b hlt), ⟨?_, ?_, ht.ne⟩, ?_, ?_⟩
  · rw [List.length_append, List.map_append]; exact ht.rm
  · rw [List.length_append, List.map_append, cellsV_append]; exact ht.rv
  · exact ht.om.imp id fun ⟨b, e, hb2⟩ => ⟨b, e, Nat.le_trans hb.size hb2⟩
  · exact ht.ov.imp id fun ⟨b, e, hb2⟩ => ⟨b, e, Nat.le_trans hb.size hb2⟩

/-- What with answers. -/
def RetW (B : Nat) (w : World) (v1 v2 : Value) (l : List (Str × Va)) (e : Ending) (w' : World) : Prop :=
  ∃ u1 u2, e = .returned (.agg #[.int .u64 0, .int .u64 0, u1, .slice none 0 0, u2]) ∧ Pw B w v1 v2 u1 u2 l w'

/-- Behind the appends: the value's box, the result's box, the rows one longer. -/
def WMid (B : Nat) (w : World) (v1 v2 : Value) (l : List (Str × Va)) (W : World) : Prop :=
  ∃ u1 u2, Blk W w.heap.size 32 #[.int .u64 0, .int .u64 0, u1, .slice none 0 0, u2] ∧ Blk W (w.heap.size + 1) 32 #[.int .u64 0, .int .u64 0, .slice none 0 0, .slice none 0 0, .slice none 0 0] ∧ Pw B w v1 v2 u1 u2 l W ∧
    (∀ b, w.heap.size ≤ b → b < w.heap.size + 2 → some b ≠ u1.ownBlock) ∧ (∀ b, w.heap.size ≤ b → b < w.heap.size + 2 → some b ≠ u2.ownBlock)
theorem wmid_mk {B : Nat} {w W : World} {v1 v2 u1 u2 o1 o2 : Value} {l : List (Str × Va)} (h0 : Blk W w.heap.size 32 #[.int .u64 0, .int .u64 0, o1, .slice none 0 0, o2]) (h1 : Blk W (w.heap.size + 1) 32 #[.int .u64 0, .int .u64 0, .slice none 0 0, .slice none 0 0, .slice none 0 0]) (hp : Pw B w v1 v2 u1 u2 l W)
    (n1 : ∀ b, w.heap.size ≤ b → b < w.heap.size + 2 → some b ≠ u1.ownBlock) (n2 : ∀ b, w.heap.size ≤ b → b < w.heap.size + 2 → some b ≠ u2.ownBlock) : WMid B w v1 v2 l ((W.setCell ⟨w.heap.size, 2, none⟩ u1).setCell ⟨w.heap.size, 4, none⟩ u2) := by
  refine ⟨u1, u2, (h0.set 2 u1).set 4 u2, (h1.other (by omega) 2 u1).other (by omega) 4 u2, hp.put rfl rfl rfl (by simp) (fun b => b = w.heap.size) (fun b hb => ?_) (fun b hb => by omega) (fun b hb => n1 b (by omega) (by omega)) (fun b hb => n2 b (by omega) (by omega)), n1, n2⟩
  rw [Below.heap_setCell _ _ _ _ (by simpa using hb), Below.heap_setCell _ _ _ _ (by simpa using hb)]

theorem wp_region_C {P : Program} {Q : Exit → Act → World → Prop} {ops : Array Oper} {id : Nat} {a : Act} {w : World} (late : Nat → Bool) (S T : World → Prop) (hm : P.follows .mixedOrders = true)
    (h : wpAnyC P .any ops Q late S T ops.size (Array.replicate ops.size false) a w.drew) : (Code.region id ops true).wp P Q a w := wp_region_any hm (wpAny_of_C _ _ _ _ h)

set_option maxRecDepth 100000 in
set_option maxHeartbeats 2000000 in
theorem with_any (B : Nat) (v1 v2 : Value) (l : List (Str × Va)) (s : Str) (n : Int) (w : World) (hp : Pr B v1 v2 l w) (hB : B ≤ w.heap.size) (hl : l.length ≤ 1000) :
    Calls Tryz.prog 19 #[.agg #[.int .u64 0, .int .u64 0, v1, .slice none 0 0, v2], .string (S s), .int .u64 n] w (RetW B w v1 v2 (l ++ if 0 < n then [(s, numE n)] else [])) := by
  obtain ⟨A, c, rfl, -⟩ := row_form hp.rm
  obtain ⟨A2, c2, rfl, -⟩ := row_form hp.rv
  obtain ⟨k, hk⟩ : ∃ k, l.length = k := ⟨_, rfl⟩
  rw [hk] at hp ⊢
  obtain ⟨V, hV⟩ : ∃ V, (w.alloc (.cells #[.int .u64 0, .int .u64 0, .slice A k c, .slice none 0 0, .slice A2 k c2] 32)).alloc (.cells #[.int .u64 0, .int .u64 0, .slice none 0 0, .slice none 0 0, .slice none 0 0] 32) = V := ⟨_, rfl⟩
  obtain ⟨q0, q1, hbV, hsV⟩ := blk2 hV
  have HP := Lib.hid hp
  have l1 : w.heap.size ≠ (w.heap.size + 1) := by omega
  by_cases h0 : 0 < n
  · have hg : decide (0 < n) = true := decide_eq_true h0
    rw [if_pos h0]
    have HLK := Lib.hid hk
    have hp' : Pr B (.slice A k c) (.slice A2 k c2) l V := hp.keep fun b _ hlt _ => hbV.block b hlt
    have HT0 := Lib.hid hp'.two
    rw [hk] at HT0
    have HN : Hid (some w.heap.size ≠ (Value.slice A k c).ownBlock ∧ some w.heap.size ≠ (Value.slice A2 k c2).ownBlock) := ⟨fun e => by have := (hp.rm.lt _ e.symm).2; omega, fun e => by have := (hp.rv.lt _ e.symm).2; omega⟩
    have HN1 : Hid (some (w.heap.size + 1) ≠ (Value.slice A k c).ownBlock ∧ some (w.heap.size + 1) ≠ (Value.slice A2 k c2).ownBlock) := ⟨fun e => by have := (hp.rm.lt _ e.symm).2; omega, fun e => by have := (hp.rv.lt _ e.symm).2; omega⟩
    have HS : Hid (∀ (vm vv : Value) (nm nv : Nat) (ms vs : List Value) (W : World), Two 9 B V (.slice A k c) (.slice A2 k c2) vm vv nm nv ms vs W → (fun W => W.cell? ⟨w.heap.size, 2, none⟩ = some (.slice A k c) ∧ W.cell? ⟨w.heap.size, 4, none⟩ = some (.slice A2 k c2)) W) := fun _ _ _ _ _ _ _ h => ⟨h.cell HN.out.1 HN.out.2 (blk_cell q0 2 _ rfl), h.cell HN.out.1 HN.out.2 (blk_cell q0 4 _ rfl)⟩
    have HBV : Hid (B ≤ V.heap.size) := Nat.le_trans hB hbV.size
    have HBW := Lib.hid hbV
    have HSZ := Lib.hid hsV
    have HQ0 := Lib.hid q0
    have HQ1 := Lib.hid q1
    have hk1000 : k ≤ 1000 := by omega
    obtain ⟨i1, hi, hz0, hz1, hz2⟩ := info_parts Tryz.infoStrJ
    obtain ⟨i2, hi2, hy0, hy1, hy2⟩ := info_parts Tryz.infoVal
    clear hp hp' hk hbV hsV q0 q1 hl hB h0
    go_enter Tryz.func19, Tryz.ntmps19
    go_upto_if 8 with fail
    go_cut [] (fun wx => Hid (WMid B w (.slice A k c) (.slice A2 k c2) (l ++ [(s, numE n)]) wx))
    case first =>
      go_upto_region 2 with fail
      clear hV
      refine wp_region_C (fun j => decide (12 ≤ j)) (fun W => W.cell? ⟨w.heap.size, 2, none⟩ = some (.slice A k c) ∧ W.cell? ⟨w.heap.size, 4, none⟩ = some (.slice A2 k c2)) (fun _ => True) (by kernel_rfl) ?_
      obtain ⟨D, hD⟩ : ∃ D, V.drew = D := ⟨_, rfl⟩
      have HSD : Hid (D.heap.size = w.heap.size + 2) := by rw [← hD]; exact HSZ.out
      rw [hD] at HT0 ⊢
      clear hD
      refine takeA 0 9 (v := ?t1_v) rfl rfl (by kernel_rfl) (by kernel_rfl) (by kernel_rfl) rfl (by kernel_rfl) (by kernel_rfl) (fun _ _ _ h => h) (Or.inl ⟨by rfl, ?t1_h⟩) trivial (HS.out _ _ _ _ _ _ _ HT0.out) ?t1_r
      case t1_h => (intro w hSw; (try dsimp only at hSw); go_simp; try (with_reducible rfl))
      simp only [List.set_cons_zero, List.set_cons_succ]
      refine takeA 1 10 (v := ?t2_v) rfl rfl (by kernel_rfl) (by kernel_rfl) (by kernel_rfl) rfl (by kernel_rfl) (by kernel_rfl) (fun _ _ _ h => h) (Or.inl ⟨by rfl, ?t2_h⟩) trivial (HS.out _ _ _ _ _ _ _ HT0.out) ?t2_r
      case t2_h => (intro w hSw; (try dsimp only at hSw); go_simp; try (with_reducible rfl))
      simp only [List.set_cons_zero, List.set_cons_succ]
      refine takeA 2 11 (v := ?t3_v) rfl rfl (by kernel_rfl) (by kernel_rfl) (by kernel_rfl) rfl (by kernel_rfl) (by kernel_rfl) (fun _ _ _ h => h) (Or.inl ⟨by rfl, ?t3_h⟩) trivial (HS.out _ _ _ _ _ _ _ HT0.out) ?t3_r
      case t3_h => (intro w hSw; (try dsimp only at hSw); go_simp; try (with_reducible rfl))
      simp only [List.set_cons_zero, List.set_cons_succ]
      refine takeA 5 14 (v := ?t4_v) rfl rfl (by kernel_rfl) (by kernel_rfl) (by kernel_rfl) rfl (by kernel_rfl) (by kernel_rfl) (fun _ _ _ h => h) (Or.inl ⟨by rfl, ?t4_h⟩) trivial (HS.out _ _ _ _ _ _ _ HT0.out) ?t4_r
      case t4_h => (intro w hSw; (try dsimp only at hSw); go_simp; try (with_reducible rfl))
      simp only [List.set_cons_zero, List.set_cons_succ]
      refine takeA 6 15 (v := ?t5_v) rfl rfl (by kernel_rfl) (by kernel_rfl) (by kernel_rfl) rfl (by kernel_rfl) (by kernel_rfl) (fun _ _ _ h => h) (Or.inl ⟨by rfl, ?t5_h⟩) trivial (HS.out _ _ _ _ _ _ _ HT0.out) ?t5_r
      case t5_h => (intro w hSw; (try dsimp only at hSw); go_simp; try (with_reducible rfl))
      simp only [List.set_cons_zero, List.set_cons_succ]
      refine takeB 7 16 (v := ?t6_v) rfl rfl (by kernel_rfl) (by kernel_rfl) (by kernel_rfl) rfl (fun _ _ _ h => h) (Or.inl ⟨by rfl, ?t6_h⟩) trivial (HS.out _ _ _ _ _ _ _ HT0.out) ?t6_r
      case t6_h => (intro w hSw; (try dsimp only at hSw); go_simp; try (with_reducible rfl))
      simp only [List.set_cons_zero, List.set_cons_succ]
      refine takeB 8 17 (v := ?t7_v) rfl rfl (by kernel_rfl) (by kernel_rfl) (by kernel_rfl) rfl (fun _ _ _ h => h) (Or.inl ⟨by rfl, ?t7_h⟩) trivial (HS.out _ _ _ _ _ _ _ HT0.out) ?t7_r
      case t7_h => (intro w hSw; (try dsimp only at hSw); go_simp; try (with_reducible rfl))
      simp only [List.set_cons_zero, List.set_cons_succ]
      refine wpAnyC_ready (rs := [3, 9]) (by kernel_rfl) (by simp) ?_
      refine AllReadyC.cons rfl (fun K hK => ?c1_3) (AllReadyC.cons rfl (fun K hK => ?c1_9) AllReadyC.nil)
      case c1_3 =>
        go_simp
        have tDm := Lib.hid (HT0.out.alloc (.cells #[.string (S s)] 9))
        have hm : Cells (D.alloc (.cells #[.string (S s)] 9)) D.heap.size [.string (S s)] := Cells.new _ _ _
        obtain ⟨Dm, hW⟩ : ∃ X, D.alloc (.cells #[.string (S s)] 9) = X := ⟨_, rfl⟩
        have sDm : D.heap.size < Dm.heap.size := by rw [← hW]; simp
        try replace hv := hv.alloc (.cells #[.string (S s)] 9)
        try rw [hW] at hm
        try rw [hW] at hv
        rw [hW] at tDm ⊢
        refine hK.out _ _ trivial (fun _ => HS.out _ _ _ _ _ _ _ tDm.out) ?_
        clear hK K
        refine wpAnyC_ready (rs := [4, 9]) (by kernel_rfl) (by simp) ?_
        refine AllReadyC.cons rfl (fun K hK => ?c2_4) (AllReadyC.cons rfl (fun K hK => ?c2_9) AllReadyC.nil)
        case c2_4 =>
          refine step_appAt rfl (.tmp 10) (.tmp 12) 29 rfl B 9 i1 (.string { data := #[] }) 1 16 Tryz.underlying29 hi hz0 hz1 hz2 rfl (by decide) (.slice A k c) _ _ rfl tDm.out.rm ⟨D.heap.size, 0, none⟩ 1 1 [.string (S s)] rfl rfl hm (fun u hu => by rw [List.mem_singleton.1 hu]; rfl) (by unfold maxLen; omega) (by omega) (Nat.le_trans HBV.out tDm.out.size) ?_
          intro um Dma hr1 hg1 ho1
          have tDma := Lib.hid (tDm.out.appM hr1 hg1 ho1 rfl)
          obtain ⟨A3, c3, hA3, _⟩ := row_form tDma.out.rm
          subst hA3
          try replace hv := hv.grown hg1 fun e => (by have h1 := (HP.out.rm.lt _ e.symm).2; have h2 := HSD.out; omega)
          clear hr1 hg1 ho1
          refine hK.out _ _ trivial (fun _ => HS.out _ _ _ _ _ _ _ tDma.out) ?_
          clear hK K
          simp only [Act.put, List.setIfInBounds_toArray]
          refine takeA 11 20 (v := ?t8_v) rfl rfl (by kernel_rfl) (by kernel_rfl) (by kernel_rfl) rfl (by kernel_rfl) (by kernel_rfl) (fun _ _ _ h => h) (Or.inl ⟨by rfl, ?t8_h⟩) trivial (HS.out _ _ _ _ _ _ _ tDma.out) ?t8_r
          case t8_h => (intro w hSw; (try dsimp only at hSw); go_simp; try (with_reducible rfl))
          simp only [List.set_cons_zero, List.set_cons_succ]
          refine wpAnyC_ready (rs := [9]) (by kernel_rfl) (by simp) ?_
          refine AllReadyC.cons rfl (fun K hK => ?_) AllReadyC.nil
          go_simp
          have tDmav := Lib.hid (tDma.out.alloc (.cells #[.int .u64 n, .int .u64 0, .slice none 0 0, .slice none 0 0, .slice none 0 0] 32))
          have hv : Cells (Dma.alloc (.cells #[.int .u64 n, .int .u64 0, .slice none 0 0, .slice none 0 0, .slice none 0 0] 32)) Dma.heap.size [.int .u64 n, .int .u64 0, .slice none 0 0, .slice none 0 0, .slice none 0 0] := Cells.new _ _ _
          obtain ⟨Dmav, hW⟩ : ∃ X, Dma.alloc (.cells #[.int .u64 n, .int .u64 0, .slice none 0 0, .slice none 0 0, .slice none 0 0] 32) = X := ⟨_, rfl⟩
          have sDmav : Dma.heap.size < Dmav.heap.size := by rw [← hW]; simp
          try replace hm := hm.alloc (.cells #[.int .u64 n, .int .u64 0, .slice none 0 0, .slice none 0 0, .slice none 0 0] 32)
          try rw [hW] at hm
          try rw [hW] at hv
          rw [hW] at tDmav ⊢
          refine hK.out _ _ trivial (fun _ => HS.out _ _ _ _ _ _ _ tDmav.out) ?_
          clear hK K
          refine wpAnyC_ready (rs := [10]) (by kernel_rfl) (by simp) ?_
          refine AllReadyC.cons rfl (fun K hK => ?_) AllReadyC.nil
          refine step_appAt rfl (.tmp 15) (.tmp 18) 25 rfl B 32 i2 _ 5 88 Tryz.underlying25 hi2 hy0 hy1 hy2 rfl (by decide) (.slice A2 k c2) _ _ rfl tDmav.out.rv ⟨Dma.heap.size, 0, none⟩ 1 1 [.int .u64 n, .int .u64 0, .slice none 0 0, .slice none 0 0, .slice none 0 0] rfl rfl hv (by simp [Value.oneCell']) (by unfold maxLen; omega) (by omega) (Nat.le_trans HBV.out tDmav.out.size) ?_
          intro uv Dmavb hr1 hg1 ho1
          have tDmavb := Lib.hid (tDmav.out.appV hr1 hg1 ho1 rfl)
          obtain ⟨A4, c4, hA4, _⟩ := row_form tDmavb.out.rv
          subst hA4
          clear hr1 hg1 ho1
          refine hK.out _ _ trivial (fun _ => HS.out _ _ _ _ _ _ _ tDmavb.out) ?_
          clear hK K
          simp only [Act.put, List.setIfInBounds_toArray]
          have hD9 : Blk Dmavb w.heap.size 32 #[.int .u64 0, .int .u64 0, .slice A k c, .slice none 0 0, .slice A2 k c2] := (tDmavb.out.same _ (HQ0.out.lt) HN.out.1 HN.out.2).trans HQ0.out
          have hE9 : Blk Dmavb (w.heap.size + 1) 32 #[.int .u64 0, .int .u64 0, .slice none 0 0, .slice none 0 0, .slice none 0 0] := (tDmavb.out.same _ (HQ1.out.lt) HN1.out.1 HN1.out.2).trans HQ1.out
          have HTE := Lib.hid (Pw.of_two (s := s) (n := n) HBW.out (by rw [HLK.out]; exact tDmavb.out))
          have HMID : Hid (WMid B w (.slice A k c) (.slice A2 k c2) (l ++ [(s, numE n)]) ((Dmavb.setCell ⟨w.heap.size, 2, none⟩ (.slice A3 (k + 1) c3)).setCell ⟨w.heap.size, 4, none⟩ (.slice A4 (k + 1) c4))) := wmid_mk hD9 hE9 HTE.out (fun b h1 h2 => own_far tDmavb.out.om (by have := HSZ.out; omega) (fun e => by have := (HP.out.rm.lt _ e.symm).2; omega)) (fun b h1 h2 => own_far tDmavb.out.ov (by have := HSZ.out; omega) (fun e => by have := (HP.out.rv.lt _ e.symm).2; omega))
          obtain ⟨W9, hW9⟩ : ∃ X, Dmavb = X := ⟨_, rfl⟩
          rw [hW9] at hD9 hE9 HMID ⊢
          clear hW9
          have HD9 := Lib.hid (And.intro hD9 hE9)
          have g0 : W9.cell? ⟨w.heap.size, 0, none⟩ = some (.int .u64 0) := blk_cell hD9 0 _ rfl
          have g1 : W9.cell? ⟨w.heap.size, 1, none⟩ = some (.int .u64 0) := blk_cell hD9 1 _ rfl
          have g2 : W9.cell? ⟨w.heap.size, 2, none⟩ = some (.slice A k c) := blk_cell hD9 2 _ rfl
          have g3 : W9.cell? ⟨w.heap.size, 3, none⟩ = some (.slice none 0 0) := blk_cell hD9 3 _ rfl
          have g4 : W9.cell? ⟨w.heap.size, 4, none⟩ = some (.slice A2 k c2) := blk_cell hD9 4 _ rfl
          have f2 := blk_frozen hD9 2
          have f4 := blk_frozen hD9 4
          refine wpAnyC_ready (rs := [12]) (by kernel_rfl) (by simp) ?_
          refine AllReadyC.cons rfl (fun K hK => ?_) AllReadyC.nil
          go_simp
          refine hK.out _ _ trivial (fun h => absurd (Eq.trans h.symm (by kernel_rfl)) Bool.false_ne_true) ?_
          clear hK K
          refine wpAnyC_ready (rs := [13]) (by kernel_rfl) (by simp) ?_
          refine AllReadyC.cons rfl (fun K hK => ?_) AllReadyC.nil
          go_simp
          refine hK.out _ _ trivial (fun h => absurd (Eq.trans h.symm (by kernel_rfl)) Bool.false_ne_true) ?_
          clear hK K
          refine wpAnyC_ready (rs := [14]) (by kernel_rfl) (by simp) ?_
          refine AllReadyC.cons rfl (fun K hK => ?_) AllReadyC.nil
          go_simp
          refine hK.out _ _ trivial (fun h => absurd (Eq.trans h.symm (by kernel_rfl)) Bool.false_ne_true) ?_
          clear hK K
          refine wpAnyC_done (by kernel_rfl) ?_ _
          go_wp2_with fail
          go_meet
          exact HMID
        case c2_9 =>
          go_simp
          have tDmv := Lib.hid (tDm.out.alloc (.cells #[.int .u64 n, .int .u64 0, .slice none 0 0, .slice none 0 0, .slice none 0 0] 32))
          have hv : Cells (Dm.alloc (.cells #[.int .u64 n, .int .u64 0, .slice none 0 0, .slice none 0 0, .slice none 0 0] 32)) Dm.heap.size [.int .u64 n, .int .u64 0, .slice none 0 0, .slice none 0 0, .slice none 0 0] := Cells.new _ _ _
          obtain ⟨Dmv, hW⟩ : ∃ X, Dm.alloc (.cells #[.int .u64 n, .int .u64 0, .slice none 0 0, .slice none 0 0, .slice none 0 0] 32) = X := ⟨_, rfl⟩
          have sDmv : Dm.heap.size < Dmv.heap.size := by rw [← hW]; simp
          try replace hm := hm.alloc (.cells #[.int .u64 n, .int .u64 0, .slice none 0 0, .slice none 0 0, .slice none 0 0] 32)
          try rw [hW] at hm
          try rw [hW] at hv
          rw [hW] at tDmv ⊢
          refine hK.out _ _ trivial (fun _ => HS.out _ _ _ _ _ _ _ tDmv.out) ?_
          clear hK K
          refine wpAnyC_ready (rs := [4]) (by kernel_rfl) (by simp) ?_
          refine AllReadyC.cons rfl (fun K hK => ?_) AllReadyC.nil
          refine step_appAt rfl (.tmp 10) (.tmp 12) 29 rfl B 9 i1 (.string { data := #[] }) 1 16 Tryz.underlying29 hi hz0 hz1 hz2 rfl (by decide) (.slice A k c) _ _ rfl tDmv.out.rm ⟨D.heap.size, 0, none⟩ 1 1 [.string (S s)] rfl rfl hm (fun u hu => by rw [List.mem_singleton.1 hu]; rfl) (by unfold maxLen; omega) (by omega) (Nat.le_trans HBV.out tDmv.out.size) ?_
          intro um Dmva hr1 hg1 ho1
          have tDmva := Lib.hid (tDmv.out.appM hr1 hg1 ho1 rfl)
          obtain ⟨A3, c3, hA3, _⟩ := row_form tDmva.out.rm
          subst hA3
          try replace hv := hv.grown hg1 fun e => (by have h1 := (HP.out.rm.lt _ e.symm).2; have h2 := HSD.out; omega)
          clear hr1 hg1 ho1
          refine hK.out _ _ trivial (fun _ => HS.out _ _ _ _ _ _ _ tDmva.out) ?_
          clear hK K
          simp only [Act.put, List.setIfInBounds_toArray]
          refine takeA 11 20 (v := ?t9_v) rfl rfl (by kernel_rfl) (by kernel_rfl) (by kernel_rfl) rfl (by kernel_rfl) (by kernel_rfl) (fun _ _ _ h => h) (Or.inl ⟨by rfl, ?t9_h⟩) trivial (HS.out _ _ _ _ _ _ _ tDmva.out) ?t9_r
          case t9_h => (intro w hSw; (try dsimp only at hSw); go_simp; try (with_reducible rfl))
          simp only [List.set_cons_zero, List.set_cons_succ]
          refine wpAnyC_ready (rs := [10]) (by kernel_rfl) (by simp) ?_
          refine AllReadyC.cons rfl (fun K hK => ?_) AllReadyC.nil
          refine step_appAt rfl (.tmp 15) (.tmp 18) 25 rfl B 32 i2 _ 5 88 Tryz.underlying25 hi2 hy0 hy1 hy2 rfl (by decide) (.slice A2 k c2) _ _ rfl tDmva.out.rv ⟨Dm.heap.size, 0, none⟩ 1 1 [.int .u64 n, .int .u64 0, .slice none 0 0, .slice none 0 0, .slice none 0 0] rfl rfl hv (by simp [Value.oneCell']) (by unfold maxLen; omega) (by omega) (Nat.le_trans HBV.out tDmva.out.size) ?_
          intro uv Dmvab hr1 hg1 ho1
          have tDmvab := Lib.hid (tDmva.out.appV hr1 hg1 ho1 rfl)
          obtain ⟨A4, c4, hA4, _⟩ := row_form tDmvab.out.rv
          subst hA4
          clear hr1 hg1 ho1
          refine hK.out _ _ trivial (fun _ => HS.out _ _ _ _ _ _ _ tDmvab.out) ?_
          clear hK K
          simp only [Act.put, List.setIfInBounds_toArray]
          have hD9 : Blk Dmvab w.heap.size 32 #[.int .u64 0, .int .u64 0, .slice A k c, .slice none 0 0, .slice A2 k c2] := (tDmvab.out.same _ (HQ0.out.lt) HN.out.1 HN.out.2).trans HQ0.out
          have hE9 : Blk Dmvab (w.heap.size + 1) 32 #[.int .u64 0, .int .u64 0, .slice none 0 0, .slice none 0 0, .slice none 0 0] := (tDmvab.out.same _ (HQ1.out.lt) HN1.out.1 HN1.out.2).trans HQ1.out
          have HTE := Lib.hid (Pw.of_two (s := s) (n := n) HBW.out (by rw [HLK.out]; exact tDmvab.out))
          have HMID : Hid (WMid B w (.slice A k c) (.slice A2 k c2) (l ++ [(s, numE n)]) ((Dmvab.setCell ⟨w.heap.size, 2, none⟩ (.slice A3 (k + 1) c3)).setCell ⟨w.heap.size, 4, none⟩ (.slice A4 (k + 1) c4))) := wmid_mk hD9 hE9 HTE.out (fun b h1 h2 => own_far tDmvab.out.om (by have := HSZ.out; omega) (fun e => by have := (HP.out.rm.lt _ e.symm).2; omega)) (fun b h1 h2 => own_far tDmvab.out.ov (by have := HSZ.out; omega) (fun e => by have := (HP.out.rv.lt _ e.symm).2; omega))
          obtain ⟨W9, hW9⟩ : ∃ X, Dmvab = X := ⟨_, rfl⟩
          rw [hW9] at hD9 hE9 HMID ⊢
          clear hW9
          have HD9 := Lib.hid (And.intro hD9 hE9)
          have g0 : W9.cell? ⟨w.heap.size, 0, none⟩ = some (.int .u64 0) := blk_cell hD9 0 _ rfl
          have g1 : W9.cell? ⟨w.heap.size, 1, none⟩ = some (.int .u64 0) := blk_cell hD9 1 _ rfl
          have g2 : W9.cell? ⟨w.heap.size, 2, none⟩ = some (.slice A k c) := blk_cell hD9 2 _ rfl
          have g3 : W9.cell? ⟨w.heap.size, 3, none⟩ = some (.slice none 0 0) := blk_cell hD9 3 _ rfl
          have g4 : W9.cell? ⟨w.heap.size, 4, none⟩ = some (.slice A2 k c2) := blk_cell hD9 4 _ rfl
          have f2 := blk_frozen hD9 2
          have f4 := blk_frozen hD9 4
          refine wpAnyC_ready (rs := [12]) (by kernel_rfl) (by simp) ?_
          refine AllReadyC.cons rfl (fun K hK => ?_) AllReadyC.nil
          go_simp
          refine hK.out _ _ trivial (fun h => absurd (Eq.trans h.symm (by kernel_rfl)) Bool.false_ne_true) ?_
          clear hK K
          refine wpAnyC_ready (rs := [13]) (by kernel_rfl) (by simp) ?_
          refine AllReadyC.cons rfl (fun K hK => ?_) AllReadyC.nil
          go_simp
          refine hK.out _ _ trivial (fun h => absurd (Eq.trans h.symm (by kernel_rfl)) Bool.false_ne_true) ?_
          clear hK K
          refine wpAnyC_ready (rs := [14]) (by kernel_rfl) (by simp) ?_
          refine AllReadyC.cons rfl (fun K hK => ?_) AllReadyC.nil
          go_simp
          refine hK.out _ _ trivial (fun h => absurd (Eq.trans h.symm (by kernel_rfl)) Bool.false_ne_true) ?_
          clear hK K
          refine wpAnyC_done (by kernel_rfl) ?_ _
          go_wp2_with fail
          go_meet
          exact HMID
      case c1_9 =>
        go_simp
        have tDv := Lib.hid (HT0.out.alloc (.cells #[.int .u64 n, .int .u64 0, .slice none 0 0, .slice none 0 0, .slice none 0 0] 32))
        have hv : Cells (D.alloc (.cells #[.int .u64 n, .int .u64 0, .slice none 0 0, .slice none 0 0, .slice none 0 0] 32)) D.heap.size [.int .u64 n, .int .u64 0, .slice none 0 0, .slice none 0 0, .slice none 0 0] := Cells.new _ _ _
        obtain ⟨Dv, hW⟩ : ∃ X, D.alloc (.cells #[.int .u64 n, .int .u64 0, .slice none 0 0, .slice none 0 0, .slice none 0 0] 32) = X := ⟨_, rfl⟩
        have sDv : D.heap.size < Dv.heap.size := by rw [← hW]; simp
        try replace hm := hm.alloc (.cells #[.int .u64 n, .int .u64 0, .slice none 0 0, .slice none 0 0, .slice none 0 0] 32)
        try rw [hW] at hm
        try rw [hW] at hv
        rw [hW] at tDv ⊢
        refine hK.out _ _ trivial (fun _ => HS.out _ _ _ _ _ _ _ tDv.out) ?_
        clear hK K
        refine wpAnyC_ready (rs := [3]) (by kernel_rfl) (by simp) ?_
        refine AllReadyC.cons rfl (fun K hK => ?_) AllReadyC.nil
        go_simp
        have tDvm := Lib.hid (tDv.out.alloc (.cells #[.string (S s)] 9))
        have hm : Cells (Dv.alloc (.cells #[.string (S s)] 9)) Dv.heap.size [.string (S s)] := Cells.new _ _ _
        obtain ⟨Dvm, hW⟩ : ∃ X, Dv.alloc (.cells #[.string (S s)] 9) = X := ⟨_, rfl⟩
        have sDvm : Dv.heap.size < Dvm.heap.size := by rw [← hW]; simp
        try replace hv := hv.alloc (.cells #[.string (S s)] 9)
        try rw [hW] at hm
        try rw [hW] at hv
        rw [hW] at tDvm ⊢
        refine hK.out _ _ trivial (fun _ => HS.out _ _ _ _ _ _ _ tDvm.out) ?_
        clear hK K
        refine wpAnyC_ready (rs := [4]) (by kernel_rfl) (by simp) ?_
        refine AllReadyC.cons rfl (fun K hK => ?_) AllReadyC.nil
        refine step_appAt rfl (.tmp 10) (.tmp 12) 29 rfl B 9 i1 (.string { data := #[] }) 1 16 Tryz.underlying29 hi hz0 hz1 hz2 rfl (by decide) (.slice A k c) _ _ rfl tDvm.out.rm ⟨Dv.heap.size, 0, none⟩ 1 1 [.string (S s)] rfl rfl hm (fun u hu => by rw [List.mem_singleton.1 hu]; rfl) (by unfold maxLen; omega) (by omega) (Nat.le_trans HBV.out tDvm.out.size) ?_
        intro um Dvma hr1 hg1 ho1
        have tDvma := Lib.hid (tDvm.out.appM hr1 hg1 ho1 rfl)
        obtain ⟨A3, c3, hA3, _⟩ := row_form tDvma.out.rm
        subst hA3
        try replace hv := hv.grown hg1 fun e => (by have h1 := (HP.out.rm.lt _ e.symm).2; have h2 := HSD.out; omega)
        clear hr1 hg1 ho1
        refine hK.out _ _ trivial (fun _ => HS.out _ _ _ _ _ _ _ tDvma.out) ?_
        clear hK K
        simp only [Act.put, List.setIfInBounds_toArray]
        refine takeA 11 20 (v := ?t10_v) rfl rfl (by kernel_rfl) (by kernel_rfl) (by kernel_rfl) rfl (by kernel_rfl) (by kernel_rfl) (fun _ _ _ h => h) (Or.inl ⟨by rfl, ?t10_h⟩) trivial (HS.out _ _ _ _ _ _ _ tDvma.out) ?t10_r
        case t10_h => (intro w hSw; (try dsimp only at hSw); go_simp; try (with_reducible rfl))
        simp only [List.set_cons_zero, List.set_cons_succ]
        refine wpAnyC_ready (rs := [10]) (by kernel_rfl) (by simp) ?_
        refine AllReadyC.cons rfl (fun K hK => ?_) AllReadyC.nil
        refine step_appAt rfl (.tmp 15) (.tmp 18) 25 rfl B 32 i2 _ 5 88 Tryz.underlying25 hi2 hy0 hy1 hy2 rfl (by decide) (.slice A2 k c2) _ _ rfl tDvma.out.rv ⟨D.heap.size, 0, none⟩ 1 1 [.int .u64 n, .int .u64 0, .slice none 0 0, .slice none 0 0, .slice none 0 0] rfl rfl hv (by simp [Value.oneCell']) (by unfold maxLen; omega) (by omega) (Nat.le_trans HBV.out tDvma.out.size) ?_
        intro uv Dvmab hr1 hg1 ho1
        have tDvmab := Lib.hid (tDvma.out.appV hr1 hg1 ho1 rfl)
        obtain ⟨A4, c4, hA4, _⟩ := row_form tDvmab.out.rv
        subst hA4
        clear hr1 hg1 ho1
        refine hK.out _ _ trivial (fun _ => HS.out _ _ _ _ _ _ _ tDvmab.out) ?_
        clear hK K
        simp only [Act.put, List.setIfInBounds_toArray]
        have hD9 : Blk Dvmab w.heap.size 32 #[.int .u64 0, .int .u64 0, .slice A k c, .slice none 0 0, .slice A2 k c2] := (tDvmab.out.same _ (HQ0.out.lt) HN.out.1 HN.out.2).trans HQ0.out
        have hE9 : Blk Dvmab (w.heap.size + 1) 32 #[.int .u64 0, .int .u64 0, .slice none 0 0, .slice none 0 0, .slice none 0 0] := (tDvmab.out.same _ (HQ1.out.lt) HN1.out.1 HN1.out.2).trans HQ1.out
        have HTE := Lib.hid (Pw.of_two (s := s) (n := n) HBW.out (by rw [HLK.out]; exact tDvmab.out))
        have HMID : Hid (WMid B w (.slice A k c) (.slice A2 k c2) (l ++ [(s, numE n)]) ((Dvmab.setCell ⟨w.heap.size, 2, none⟩ (.slice A3 (k + 1) c3)).setCell ⟨w.heap.size, 4, none⟩ (.slice A4 (k + 1) c4))) := wmid_mk hD9 hE9 HTE.out (fun b h1 h2 => own_far tDvmab.out.om (by have := HSZ.out; omega) (fun e => by have := (HP.out.rm.lt _ e.symm).2; omega)) (fun b h1 h2 => own_far tDvmab.out.ov (by have := HSZ.out; omega) (fun e => by have := (HP.out.rv.lt _ e.symm).2; omega))
        obtain ⟨W9, hW9⟩ : ∃ X, Dvmab = X := ⟨_, rfl⟩
        rw [hW9] at hD9 hE9 HMID ⊢
        clear hW9
        have HD9 := Lib.hid (And.intro hD9 hE9)
        have g0 : W9.cell? ⟨w.heap.size, 0, none⟩ = some (.int .u64 0) := blk_cell hD9 0 _ rfl
        have g1 : W9.cell? ⟨w.heap.size, 1, none⟩ = some (.int .u64 0) := blk_cell hD9 1 _ rfl
        have g2 : W9.cell? ⟨w.heap.size, 2, none⟩ = some (.slice A k c) := blk_cell hD9 2 _ rfl
        have g3 : W9.cell? ⟨w.heap.size, 3, none⟩ = some (.slice none 0 0) := blk_cell hD9 3 _ rfl
        have g4 : W9.cell? ⟨w.heap.size, 4, none⟩ = some (.slice A2 k c2) := blk_cell hD9 4 _ rfl
        have f2 := blk_frozen hD9 2
        have f4 := blk_frozen hD9 4
        refine wpAnyC_ready (rs := [12]) (by kernel_rfl) (by simp) ?_
        refine AllReadyC.cons rfl (fun K hK => ?_) AllReadyC.nil
        go_simp
        refine hK.out _ _ trivial (fun h => absurd (Eq.trans h.symm (by kernel_rfl)) Bool.false_ne_true) ?_
        clear hK K
        refine wpAnyC_ready (rs := [13]) (by kernel_rfl) (by simp) ?_
        refine AllReadyC.cons rfl (fun K hK => ?_) AllReadyC.nil
        go_simp
        refine hK.out _ _ trivial (fun h => absurd (Eq.trans h.symm (by kernel_rfl)) Bool.false_ne_true) ?_
        clear hK K
        refine wpAnyC_ready (rs := [14]) (by kernel_rfl) (by simp) ?_
        refine AllReadyC.cons rfl (fun K hK => ?_) AllReadyC.nil
        go_simp
        refine hK.out _ _ trivial (fun h => absurd (Eq.trans h.symm (by kernel_rfl)) Bool.false_ne_true) ?_
        clear hK K
        refine wpAnyC_done (by kernel_rfl) ?_ _
        go_wp2_with fail
        go_meet
        exact HMID
    obtain ⟨u1, u2, q2, q3, HPW, m1, m2⟩ := hcut
    obtain ⟨A3, c3, rfl, -⟩ := row_form HPW.pr.rm
    obtain ⟨A4, c4, rfl, -⟩ := row_form HPW.pr.rv
    obtain ⟨n3, hn3⟩ : ∃ n3, (l ++ [(s, numE n)]).length = n3 := ⟨_, rfl⟩
    rw [hn3] at q2 HPW m1 m2
    obtain ⟨W2, hW2⟩ : ∃ W2, wc = W2 := ⟨_, rfl⟩
    rw [hW2] at q2 q3 HPW
    rw [hW2]
    have HPX := Lib.hid HPW
    clear hW2 hn3 hV HPW
    have a0 : W2.cell? ⟨w.heap.size, 0, none⟩ = some (.int .u64 0) := blk_cell q2 0 _ rfl
    have a1 : W2.cell? ⟨w.heap.size, 1, none⟩ = some (.int .u64 0) := blk_cell q2 1 _ rfl
    have a2 : W2.cell? ⟨w.heap.size, 2, none⟩ = some (.slice A3 n3 c3) := blk_cell q2 2 _ rfl
    have a3 : W2.cell? ⟨w.heap.size, 3, none⟩ = some (.slice none 0 0) := blk_cell q2 3 _ rfl
    have a4 : W2.cell? ⟨w.heap.size, 4, none⟩ = some (.slice A4 n3 c4) := blk_cell q2 4 _ rfl
    have d0 : W2.cell? ⟨w.heap.size + 1, 0, none⟩ = some (.int .u64 0) := blk_cell q3 0 _ rfl
    have f0 := blk_frozen q3 0
    have d1 : W2.cell? ⟨w.heap.size + 1, 1, none⟩ = some (.int .u64 0) := blk_cell q3 1 _ rfl
    have f1 := blk_frozen q3 1
    have d2 : W2.cell? ⟨w.heap.size + 1, 2, none⟩ = some (.slice none 0 0) := blk_cell q3 2 _ rfl
    have f2 := blk_frozen q3 2
    have d3 : W2.cell? ⟨w.heap.size + 1, 3, none⟩ = some (.slice none 0 0) := blk_cell q3 3 _ rfl
    have f3 := blk_frozen q3 3
    have d4 : W2.cell? ⟨w.heap.size + 1, 4, none⟩ = some (.slice none 0 0) := blk_cell q3 4 _ rfl
    have f4 := blk_frozen q3 4
    go_wp2_with fail
    refine bodyPost_ret (V4.results_cellV rfl _ _ (w.heap.size + 1) (.int .u64 0) (.int .u64 0) (.slice A3 n3 c3) (.slice none 0 0) (.slice A4 n3 c4) rfl (blk_cell (set5_blk q3) 0 _ rfl) (blk_cell (set5_blk q3) 1 _ rfl) (blk_cell (set5_blk q3) 2 _ rfl) (blk_cell (set5_blk q3) 3 _ rfl) (blk_cell (set5_blk q3) 4 _ rfl)) rfl ?_
    have hb := set5_bel (N := w.heap.size) (Below.refl w.heap.size W2) (D := w.heap.size + 1) (by omega) (v0 := .int .u64 0) (v1 := .int .u64 0) (v2 := .slice A3 n3 c3) (v3 := .slice none 0 0) (v4 := .slice A4 n3 c4)
    exact ⟨_, _, rfl, HPX.out.put hb.os hb.tape hb.output set5_size (fun b => b = w.heap.size + 1) (fun b hb => set5_low hb) (fun b hb => by omega) (fun b hb => m1 b (by omega) (by omega)) (fun b hb => m2 b (by omega) (by omega))⟩
  · have hg : decide (0 < n) = false := decide_eq_false h0
    rw [if_neg h0, List.append_nil]
    clear h0
    have a0 : V.cell? ⟨w.heap.size, 0, none⟩ = some (.int .u64 0) := blk_cell q0 0 _ rfl
    have a1 : V.cell? ⟨w.heap.size, 1, none⟩ = some (.int .u64 0) := blk_cell q0 1 _ rfl
    have a2 : V.cell? ⟨w.heap.size, 2, none⟩ = some (.slice A k c) := blk_cell q0 2 _ rfl
    have a3 : V.cell? ⟨w.heap.size, 3, none⟩ = some (.slice none 0 0) := blk_cell q0 3 _ rfl
    have a4 : V.cell? ⟨w.heap.size, 4, none⟩ = some (.slice A2 k c2) := blk_cell q0 4 _ rfl
    have d0 : V.cell? ⟨w.heap.size + 1, 0, none⟩ = some (.int .u64 0) := blk_cell q1 0 _ rfl
    have f0 := blk_frozen q1 0
    have d1 : V.cell? ⟨w.heap.size + 1, 1, none⟩ = some (.int .u64 0) := blk_cell q1 1 _ rfl
    have f1 := blk_frozen q1 1
    have d2 : V.cell? ⟨w.heap.size + 1, 2, none⟩ = some (.slice none 0 0) := blk_cell q1 2 _ rfl
    have f2 := blk_frozen q1 2
    have d3 : V.cell? ⟨w.heap.size + 1, 3, none⟩ = some (.slice none 0 0) := blk_cell q1 3 _ rfl
    have f3 := blk_frozen q1 3
    have d4 : V.cell? ⟨w.heap.size + 1, 4, none⟩ = some (.slice none 0 0) := blk_cell q1 4 _ rfl
    have f4 := blk_frozen q1 4
    go_enter Tryz.func19, Tryz.ntmps19
    go_wp2_with fail
    refine bodyPost_ret (V4.results_cellV rfl _ _ (w.heap.size + 1) (.int .u64 0) (.int .u64 0) (.slice A k c) (.slice none 0 0) (.slice A2 k c2) rfl (blk_cell (set5_blk q1) 0 _ rfl) (blk_cell (set5_blk q1) 1 _ rfl) (blk_cell (set5_blk q1) 2 _ rfl) (blk_cell (set5_blk q1) 3 _ rfl) (blk_cell (set5_blk q1) 4 _ rfl)) rfl ?_
    have hb := set5_bel (N := w.heap.size) (Below.refl w.heap.size V) (D := w.heap.size + 1) (by omega) (v0 := .int .u64 0) (v1 := .int .u64 0) (v2 := .slice A k c) (v3 := .slice none 0 0) (v4 := .slice A2 k c2)
    exact ⟨_, _, rfl, (Pw.start HP.out hbV).put hb.os hb.tape hb.output set5_size (fun b => b = w.heap.size + 1) (fun b hb => set5_low hb) (fun b hb => by omega) (fun b hb e => by have := (HP.out.rm.lt _ e.symm).2; omega) (fun b hb e => by have := (HP.out.rv.lt _ e.symm).2; omega)⟩
end Go.Proofs.YtleejffjnknohaaGreat.J5

namespace Go.Proofs.YtleejffjnknohaaGreat.J5
open Go.RowKit Go.Shelf
open C3 (belAl allocB)
open V4 (Va Vl cellsV vlNum vlNum_in er_mk)

/-- Bytes that lie in memory. -/
def LiesU (w : World) (A : Option Addr) (bs : List Int) : Prop :=
  bs = [] ∨ ∃ b off, A = some ⟨b, off, none⟩ ∧ b < w.heap.size ∧ ∀ i x, bs[i]? = some x → w.cell? ⟨b, off + i, none⟩ = some (.int .u8 x)
theorem LiesU.get {w : World} {A : Option Addr} {bs : List Int} (h : LiesU w A bs) {k : Nat} (hk : k < bs.length) :
    ∃ b off, A = some ⟨b, off, none⟩ ∧ b < w.heap.size ∧ ∀ i x, bs[i]? = some x → w.cell? ⟨b, off + i, none⟩ = some (.int .u8 x) := by
  rcases h with h | h
  · subst h; simp at hk
  · exact h
theorem LiesU.later {w w' : World} {A : Option Addr} {bs : List Int} (h : LiesU w A bs) (hb : Below w.heap.size w w') : LiesU w' A bs := by
  rcases h with h | ⟨b, off, hA, hlt, h⟩
  · exact .inl h
  · exact .inr ⟨b, off, hA, Nat.lt_of_lt_of_le hlt hb.size, fun i x hx => (hb.cell (p := ⟨b, off + i, none⟩) hlt).trans (h i x hx)⟩

/-- What stands at the i-th key: the byte's rest by 5, or nothing. -/
def fv (bs : List Int) (i : Nat) : Int := (bs[i]?.getD 0).tmod 5
theorem fv_in {bs : List Int} {i : Nat} {x : Int} (h : bs[i]? = some x) : fv bs i = x.tmod 5 := by unfold fv; rw [h]; rfl
theorem fv_out {bs : List Int} {i : Nat} (h : bs.length ≤ i) : fv bs i = 0 := by unfold fv; rw [List.getElem?_eq_none h]; rfl
theorem fv_ok {bs : List Int} (h : ∀ x ∈ bs, 0 ≤ x ∧ x ≤ 255) (i : Nat) : 0 ≤ fv bs i ∧ fv bs i ≤ 4 := by
  unfold fv
  cases hx : bs[i]? with
  | none => exact ⟨by decide, by decide⟩
  | some x =>
    have := h x (List.mem_of_getElem? hx)
    show 0 ≤ x.tmod 5 ∧ x.tmod 5 ≤ 4
    rw [Int.tmod_eq_emod_of_nonneg this.1]
    omega

/-- None of the two has a block of the other two. -/
def Apart (a1 a2 b1 b2 : Value) : Prop := ∀ k, a1.ownBlock = some k ∨ a2.ownBlock = some k → b1.ownBlock ≠ some k ∧ b2.ownBlock ≠ some k
theorem Apart.symm {a1 a2 b1 b2 : Value} (h : Apart a1 a2 b1 b2) : Apart b1 b2 a1 a2 := fun k hk => ⟨fun e => by
    have := h k (.inl e)
    rcases hk with hk | hk
    · exact this.1 hk
    · exact this.2 hk, fun e => by
    have := h k (.inr e)
    rcases hk with hk | hk
    · exact this.1 hk
    · exact this.2 hk⟩

/-- Three pairs of rows. -/
structure Rw3 (U : World) (x1 x2 y1 y2 z1 z2 : Value) (lx ly lz : List (Str × Va)) (W : World) : Prop where
  rx : Pr (U.heap.size + 3) x1 x2 lx W
  ry : Pr (U.heap.size + 3) y1 y2 ly W
  rz : Pr (U.heap.size + 3) z1 z2 lz W
  xy : Apart x1 x2 y1 y2
  xz : Apart x1 x2 z1 z2
  yz : Apart y1 y2 z1 z2
  bel : Below U.heap.size U W
section
variable {U W W' : World} {x1 x2 y1 y2 z1 z2 u1 u2 : Value} {lx ly lz l : List (Str × Va)} {B : Nat}
theorem Pr.aside (h : Pr B y1 y2 ly W) (hp : Pw B W x1 x2 u1 u2 l W') (ha : Apart x1 x2 y1 y2) : Pr B y1 y2 ly W' :=
  h.keep fun b _ hlt ho => hp.same b hlt (fun e => by
    have := ha b (.inl e.symm)
    rcases ho with ho | ho
    · exact this.1 ho
    · exact this.2 ho) (fun e => by
    have := ha b (.inr e.symm)
    rcases ho with ho | ho
    · exact this.1 ho
    · exact this.2 ho)
theorem Apart.grown (ha : Apart x1 x2 y1 y2) (hp : Pw B W x1 x2 u1 u2 l W') (h : Pr B y1 y2 ly W) : Apart u1 u2 y1 y2 := fun k hk => by
  have far : W.heap.size ≤ k → y1.ownBlock ≠ some k ∧ y2.ownBlock ≠ some k := fun hle => ⟨fun e => by have := (h.rm.lt k e).2; omega, fun e => by have := (h.rv.lt k e).2; omega⟩
  rcases hk with hk | hk
  · rcases hp.o1 with e | ⟨b, e, hb⟩
    · exact ha k (.inl (e.symm.trans hk))
    · rw [e] at hk; have := Option.some.inj hk; exact far (by omega)
  · rcases hp.o2 with e | ⟨b, e, hb⟩
    · exact ha k (.inr (e.symm.trans hk))
    · rw [e] at hk; have := Option.some.inj hk; exact far (by omega)
theorem Pw.bel (hp : Pw (U.heap.size + 3) W x1 x2 u1 u2 l W') (h : Pr (U.heap.size + 3) x1 x2 lx W) (hb : Below U.heap.size U W) : Below U.heap.size U W' :=
  ⟨hp.os.trans hb.os, hp.tape.trans hb.tape, hp.output.trans hb.output, Nat.le_trans hb.size hp.size, fun b hlt => (hp.same b (Nat.lt_of_lt_of_le hlt hb.size) (fun e => by have := (h.rm.lt b e.symm).1; omega) (fun e => by have := (h.rv.lt b e.symm).1; omega)).trans (hb.block b hlt)⟩
theorem Rw3.stepX (h : Rw3 U x1 x2 y1 y2 z1 z2 lx ly lz W) (hp : Pw (U.heap.size + 3) W x1 x2 u1 u2 l W') : Rw3 U u1 u2 y1 y2 z1 z2 l ly lz W' :=
  ⟨hp.pr, h.ry.aside hp h.xy, h.rz.aside hp h.xz, h.xy.grown hp h.ry, h.xz.grown hp h.rz, h.yz, hp.bel h.rx h.bel⟩
theorem Rw3.stepY (h : Rw3 U x1 x2 y1 y2 z1 z2 lx ly lz W) (hp : Pw (U.heap.size + 3) W y1 y2 u1 u2 l W') : Rw3 U x1 x2 u1 u2 z1 z2 lx l lz W' :=
  ⟨h.rx.aside hp h.xy.symm, hp.pr, h.rz.aside hp h.yz, (h.xy.symm.grown hp h.rx).symm, h.xz, h.yz.grown hp h.rz, hp.bel h.ry h.bel⟩
theorem Rw3.stepZ (h : Rw3 U x1 x2 y1 y2 z1 z2 lx ly lz W) (hp : Pw (U.heap.size + 3) W z1 z2 u1 u2 l W') : Rw3 U x1 x2 y1 y2 u1 u2 lx ly l W' :=
  ⟨h.rx.aside hp h.xz.symm, h.ry.aside hp h.yz.symm, hp.pr, h.xy, (h.xz.symm.grown hp h.rx).symm, (h.yz.symm.grown hp h.ry).symm, hp.bel h.rz h.bel⟩
theorem Rw3.keep (h : Rw3 U x1 x2 y1 y2 z1 z2 lx ly lz W) (hk : ∀ b, U.heap.size + 3 ≤ b → b < W.heap.size → W'.heap[b]? = W.heap[b]?) (hb : Below U.heap.size U W') : Rw3 U x1 x2 y1 y2 z1 z2 lx ly lz W' :=
  ⟨h.rx.keep fun b h1 h2 _ => hk b h1 h2, h.ry.keep fun b h1 h2 _ => hk b h1 h2, h.rz.keep fun b h1 h2 _ => hk b h1 h2, h.xy, h.xz, h.yz, hb⟩

/-- The boxes of the three. -/
structure Bx3 (U : World) (x1 x2 y1 y2 z1 z2 : Value) (W : World) : Prop where
  qx : Blk W U.heap.size 32 #[.int .u64 0, .int .u64 0, x1, .slice none 0 0, x2]
  qy : Blk W (U.heap.size + 1) 32 #[.int .u64 0, .int .u64 0, y1, .slice none 0 0, y2]
  qz : Blk W (U.heap.size + 2) 32 #[.int .u64 0, .int .u64 0, z1, .slice none 0 0, z2]
theorem Bx3.later (h : Bx3 U x1 x2 y1 y2 z1 z2 W) (hb : Below W.heap.size W W') : Bx3 U x1 x2 y1 y2 z1 z2 W' := ⟨h.qx.below hb, h.qy.below hb, h.qz.below hb⟩
theorem Bx3.step {v1 v2 : Value} (h : Bx3 U x1 x2 y1 y2 z1 z2 W) (hr : Pr (U.heap.size + 3) v1 v2 lx W) (hp : Pw (U.heap.size + 3) W v1 v2 u1 u2 l W') : Bx3 U x1 x2 y1 y2 z1 z2 W' := by
  have hs : ∀ b, b < U.heap.size + 3 → b < W.heap.size → W'.heap[b]? = W.heap[b]? := fun b h1 h2 => hp.same b h2 (fun e => by have := (hr.rm.lt b e.symm).1; omega) (fun e => by have := (hr.rv.lt b e.symm).1; omega)
  exact ⟨(hs _ (by omega) h.qx.lt).trans h.qx, (hs _ (by omega) h.qy.lt).trans h.qy, (hs _ (by omega) h.qz.lt).trans h.qz⟩

/-- Between the rounds. -/
def JM (U : World) (f g : Nat → Int) (k : Nat) (W : World) : Prop :=
  ∃ x1 x2 y1 y2 z1 z2, Bx3 U x1 x2 y1 y2 z1 z2 W ∧ Rw3 U x1 x2 y1 y2 z1 z2 (kv f 0 k) (kv g 0 k) (kv (fun j => max (f j) (g j)) 0 k) W
theorem JM.mk' {f g : Nat → Int} {k : Nat} {o1 o2 p1 p2 q1 q2 : Value} (hb : Bx3 U o1 o2 p1 p2 q1 q2 W) (h : Rw3 U x1 x2 y1 y2 z1 z2 (kv f 0 k) (kv g 0 k) (kv (fun j => max (f j) (g j)) 0 k) W) :
    JM U f g k (set5 (set5 (set5 W U.heap.size (.int .u64 0) (.int .u64 0) x1 (.slice none 0 0) x2) (U.heap.size + 1) (.int .u64 0) (.int .u64 0) y1 (.slice none 0 0) y2) (U.heap.size + 2) (.int .u64 0) (.int .u64 0) z1 (.slice none 0 0) z2) := by
  refine ⟨x1, x2, y1, y2, z1, z2, ⟨?_, ?_, ?_⟩, h.keep (fun b h1 h2 => ?_) (set5_bel (set5_bel (set5_bel h.bel (Nat.le_refl _)) (by omega)) (by omega))⟩
  · exact (set5_low (by omega)).trans ((set5_low (by omega)).trans (set5_blk hb.qx))
  · exact (set5_low (by omega)).trans (set5_blk ((set5_low (by omega)).trans hb.qy))
  · exact set5_blk ((set5_low (by omega)).trans ((set5_low (by omega)).trans hb.qz))
  · rw [set5_low (by omega), set5_low (by omega), set5_low (by omega)]
theorem JM.later {f g : Nat → Int} {k : Nat} (h : JM U f g k W) (hb : Below W.heap.size W W') : JM U f g k W' := by
  obtain ⟨x1, x2, y1, y2, z1, z2, h1, h2⟩ := h
  exact ⟨x1, x2, y1, y2, z1, z2, h1.later hb, h2.keep (fun b _ hlt => hb.block b hlt) (h2.bel.trans (hb.mono h2.bel.size))⟩

/-- Such a pair of rows is a value. -/
theorem Pr.val {f : Nat → Int} {k : Nat} (hf : ∀ i, 0 ≤ f i ∧ f i ≤ 4) (hk : k ≤ 20) (h : Pr B x1 x2 (kv f 0 k) W) :
    ∃ (A1 : Option Addr) (c1 : Nat) (A2 : Option Addr) (c2 : Nat) (ss : List Str) (vs : List Vl), x1 = .slice A1 ss.length c1 ∧ x2 = .slice A2 vs.length c2 ∧ (Vl.mk 0 0 A1 c1 ss none 0 [] A2 c2 vs).In W ∧ (Vl.mk 0 0 A1 c1 ss none 0 [] A2 c2 vs).er = kvV f k := by
  obtain ⟨A1, c1, rfl, -⟩ := row_form h.rm
  obtain ⟨A2, c2, rfl, -⟩ := row_form h.rv
  have hl := kv_len f k 0
  have hh : Hd encS 9 B (fun _ => True) (.slice A1 (kv f 0 k).length c1) (.slice A2 (kv f 0 k).length c2) ((kv f 0 k).map fun p => (p.1, vlNum p.2.n)) W := by
    refine ⟨?_, ?_, h.ne, fun _ _ => trivial, fun _ _ => trivial, fun p hp => ?_⟩
    · rw [List.length_map, List.map_map]; exact h.rm
    · rw [List.length_map, List.map_map]; exact h.rv
    · obtain ⟨q, hq, rfl⟩ := List.mem_map.1 hp
      obtain ⟨j, _, _, h0, rfl⟩ := kv_mem hq
      have := hf j
      exact vlNum_in (f j) (by omega) _ _
  have hv := hh.valS (by rw [List.length_map]) (by rw [List.length_map]; omega) (fun p hp => by
    obtain ⟨q, hq, rfl⟩ := List.mem_map.1 hp
    obtain ⟨j, _, _, _, rfl⟩ := kv_mem hq
    show 1 ≤ maxLen
    decide)
  rw [List.map_map, List.map_map] at hv
  refine ⟨A1, c1, A2, c2, _, _, ?_, ?_, hv.mono fun b hb => hb.2, ?_⟩
  · rw [List.length_map]
  · rw [List.length_map]
  · rw [er_mk, kvV]
    congr 1
    rw [List.map_map]
    refine List.map_congr_left fun q hq => ?_
    obtain ⟨j, _, _, _, rfl⟩ := kv_mem hq
    rfl
end

theorem with_kv (B : Nat) (v1 v2 : Value) (f : Nat → Int) (k : Nat) (w : World) (hp : Pr B v1 v2 (kv f 0 k) w) (hB : B ≤ w.heap.size) (hk : k ≤ 100) :
    Calls Tryz.prog 19 #[.agg #[.int .u64 0, .int .u64 0, v1, .slice none 0 0, v2], .string (S (ky k)), .int .u64 (f k)] w (RetW B w v1 v2 (kv f 0 (k + 1))) := by
  have h := with_any B v1 v2 (kv f 0 k) (ky k) (f k) w hp hB (by have := kv_len f k 0; omega)
  rw [kv_snoc, Nat.zero_add]
  exact h
end Go.Proofs.YtleejffjnknohaaGreat.J5

namespace Go.Proofs.YtleejffjnknohaaGreat.J5
open Go.RowKit Go.Shelf
open C3 (Tk belAl allocB)
open S2 (Sc Tr isT)
open V4 (Va Vl Ck isV botT Bxd val_mk er_mk scLeaf scLeaf_in scRow scRow_in mk_inj)

/-- What such a statement leaves: the outcome o as a value in a box of its own, and an error. -/
def VMidK (U : World) (o : Except Int Va) (s1 s2 : Value) (wx : World) : Prop :=
  ∃ (pb : Nat) (z : Vl), s1 = .pointer (some ⟨pb, 0, none⟩) ∧ U.heap.size ≤ pb ∧ V4.Bxd wx pb #[.int .u64 z.n, .int .u64 z.m, z.s1, z.c1, z.v1] ∧ z.In wx ∧ Below U.heap.size U wx ∧ ((o = .ok z.er ∧ s2 = .nilIface) ∨ (∃ n, o = .error n ∧ z = vlZ ∧ s2 = errV n))
theorem VMidK.ok {U : World} {o : Except Int Va} {v : Va} {s1 s2 : Value} {wx : World} (h : VMidK U o s1 s2 wx) (ho : o = .ok v) : ∃ (pb : Nat) (z : Vl), s1 = .pointer (some ⟨pb, 0, none⟩) ∧ s2 = .nilIface ∧ U.heap.size ≤ pb ∧ V4.Bxd wx pb #[.int .u64 z.n, .int .u64 z.m, z.s1, z.c1, z.v1] ∧ z.er = v ∧ z.In wx ∧ Below U.heap.size U wx := by
  obtain ⟨pb, z, h1, h2, h3, h4, h5, ⟨e, e2⟩ | ⟨n, e, _⟩⟩ := h
  · rw [ho] at e; exact ⟨pb, z, h1, e2, h2, h3, (Except.ok.inj e).symm, h4, h5⟩
  · rw [ho] at e; cases e
theorem VMidK.err {U : World} {o : Except Int Va} {n : Int} {s1 s2 : Value} {wx : World} (h : VMidK U o s1 s2 wx) (ho : o = .error n) : ∃ (pb : Nat), s1 = .pointer (some ⟨pb, 0, none⟩) ∧ s2 = errV n ∧ U.heap.size ≤ pb ∧ V4.Bxd wx pb #[.int .u64 0, .int .u64 0, .slice none 0 0, .slice none 0 0, .slice none 0 0] ∧ Below U.heap.size U wx := by
  obtain ⟨pb, z, h1, h2, h3, h4, h5, ⟨e, _⟩ | ⟨k, e, rfl, e2⟩⟩ := h
  · rw [ho] at e; cases e
  · rw [ho] at e; cases e; exact ⟨pb, h1, e2, h2, h3, h5⟩
theorem blk_bxd {W : World} {b : Nat} {t : TypeId} {cs : Array Value} (h : Blk W b t cs) : V4.Bxd W b cs := ⟨h.lt, fun i v hv => blk_cell h i v hv⟩
theorem vmidk_mk {U T : World} {o : Except Int Va} {pb : Nat} {z : Vl} {ev z0 z1 z2 z3 z4 : Value} (hq : Blk T pb 32 #[z0, z1, z2, z3, z4]) (hpb : U.heap.size ≤ pb) (hz : z.Inp (fun b => b < T.heap.size ∧ b ≠ pb) T) (he : (o = .ok z.er ∧ ev = .nilIface) ∨ (∃ n, o = .error n ∧ z = vlZ ∧ ev = errV n)) (hb : Below U.heap.size U T) :
    VMidK U o (.pointer (some ⟨pb, 0, none⟩)) ev (set5 T pb (.int .u64 z.n) (.int .u64 z.m) z.s1 z.c1 z.v1) :=
  ⟨pb, z, rfl, hpb, blk_bxd (set5_blk hq), (hz.keep fun _ hP => set5_low hP.2).mono fun _ hP => Nat.lt_of_lt_of_le hP.1 (Nat.le_of_eq set5_size.symm), set5_bel hb hpb, he⟩

theorem JM.start (U : World) (f g : Nat → Int) : JM U f g 0 (((U.alloc (.cells #[.int .u64 0, .int .u64 0, .slice none 0 0, .slice none 0 0, .slice none 0 0] 32)).alloc (.cells #[.int .u64 0, .int .u64 0, .slice none 0 0, .slice none 0 0, .slice none 0 0] 32)).alloc (.cells #[.int .u64 0, .int .u64 0, .slice none 0 0, .slice none 0 0, .slice none 0 0] 32)) := by
  have ap : Apart (.slice none 0 0) (.slice none 0 0) (.slice none 0 0) (.slice none 0 0) := fun k hk => by rcases hk with h | h <;> cases h
  have b1 := Blk.new U 32 #[.int .u64 0, .int .u64 0, .slice none 0 0, .slice none 0 0, .slice none 0 0]
  have b2 := Blk.new (U.alloc (.cells #[.int .u64 0, .int .u64 0, .slice none 0 0, .slice none 0 0, .slice none 0 0] 32)) 32 #[.int .u64 0, .int .u64 0, .slice none 0 0, .slice none 0 0, .slice none 0 0]
  have b3 := Blk.new ((U.alloc (.cells #[.int .u64 0, .int .u64 0, .slice none 0 0, .slice none 0 0, .slice none 0 0] 32)).alloc (.cells #[.int .u64 0, .int .u64 0, .slice none 0 0, .slice none 0 0, .slice none 0 0] 32)) 32 #[.int .u64 0, .int .u64 0, .slice none 0 0, .slice none 0 0, .slice none 0 0]
  rw [World.size_alloc] at b2
  rw [World.size_alloc, World.size_alloc] at b3
  exact ⟨_, _, _, _, _, _, ⟨(b1.below (allocB _ _)).below (allocB _ _), b2.below (allocB _ _), b3⟩, ⟨Pr.nil _ _, Pr.nil _ _, Pr.nil _ _, ap, ap, ap, belAl (belAl (belAl (Below.refl _ _)))⟩⟩

set_option maxRecDepth 100000 in
set_option maxHeartbeats 8000000 in
theorem joinMaps_all (A A' : Option Addr) (c c' : Nat) (xs ys : List Int) (w : World) (hl : LiesU w A xs) (hl' : LiesU w A' ys) (hx : ∀ x ∈ xs, 0 ≤ x ∧ x ≤ 255) (hy : ∀ x ∈ ys, 0 ≤ x ∧ x ≤ 255) (hn : xs.length ≤ 9223372036854775807) (hn' : ys.length ≤ 9223372036854775807) :
    Calls Tryz.prog 6 #[.slice A xs.length c, .slice A' ys.length c'] w (RetV w (.bool true)) := by
  have HLX := Lib.hid hl
  have HLY := Lib.hid hl'
  have HFX := Lib.hid (fv_ok hx)
  have HFY := Lib.hid (fv_ok hy)
  have HBX := Lib.hid hx
  have HBY := Lib.hid hy
  clear hl hl' hx hy
  by_cases h1 : 20 < xs.length
  · have g1 : decide ((20 : Int) < (xs.length : Int)) = true := decide_eq_true (by omega)
    clear h1
    go_enter Tryz.func6, Tryz.ntmps6
    go_wp2_with fail
    refine (known_any w).mono ?_
    rintro e W0 ⟨rfl, bW0⟩
    go_wp2_with fail
    go_ret
    exact ⟨rfl, bW0⟩
  have g1 : decide ((20 : Int) < (xs.length : Int)) = false := decide_eq_false (by omega)
  by_cases h2 : 20 < ys.length
  · have g2 : decide ((20 : Int) < (ys.length : Int)) = true := decide_eq_true (by omega)
    clear h1 h2
    go_enter Tryz.func6, Tryz.ntmps6
    go_wp2_with fail
    refine (known_any w).mono ?_
    rintro e W0 ⟨rfl, bW0⟩
    go_wp2_with fail
    go_ret
    exact ⟨rfl, bW0⟩
  have g2 : decide ((20 : Int) < (ys.length : Int)) = false := decide_eq_false (by omega)
  go_enter Tryz.func6, Tryz.ntmps6
  go_wp2_with fail
  refine (known_any w).mono ?_
  rintro e W0 ⟨rfl, bW0⟩
  go_wp2_with fail
  clear g1 g2
  obtain ⟨f, hf⟩ : ∃ f, fv xs = f := ⟨_, rfl⟩
  obtain ⟨g, hg⟩ : ∃ g, fv ys = g := ⟨_, rfl⟩
  have HF := Lib.hid hf
  have HG := Lib.hid hg
  rw [hf] at HFX
  rw [hg] at HFY
  clear hf hg
  go_loopw [8] (fun iv wr => ∃ (k : Nat), k ≤ max xs.length ys.length ∧ iv = .int .i64 k ∧ Hid (JM W0 f g k wr)) (fun iv _ => 60 - (intOf iv).toNat)
  case atStart => exact ⟨0, by omega, rfl, JM.start W0 f g⟩
  case round =>
    obtain ⟨k, hk, rfl, HJ⟩ := hrel
    have hk20 : k ≤ 20 := by omega
    by_cases hlt : k < max xs.length ys.length
    · skip
      go_upto_region 7 with fail
      go_cut [36] from 27 to 36 (fun sq wx => sq = .bool true ∧ wx = wr)
      case first =>
        have HC : Hid ((decide (k < xs.length) || decide (k < ys.length)) = true) := by show _ = _; simp; omega
        clear hlt
        go_wp2_with fail
        all_goals (go_meet; first | exact ⟨rfl, rfl⟩ | exact ⟨by rw [HC.out], rfl⟩)
      obtain ⟨rfl, hw⟩ := hcut
      subst hw
      have hcv := conv_one (97 + (k : Int)) (by omega) wc
      go_upto_region 11 with fail
      clear hcv
      obtain ⟨V, hV⟩ : ∃ V, wc.alloc (.cells #[.int .u8 (97 + (k : Int))] 5) = V := ⟨_, rfl⟩
      rw [hV]
      have bWV : Below wc.heap.size wc V := by rw [← hV]; exact allocB _ _
      replace HJ : Hid (JM W0 f g k V) := HJ.out.later bWV
      clear hV bWV
      have e10 : S [byt (97 + (k : Int))] = S (ky k) := rfl
      rw [e10]
      clear e10
      have hB0 : Below W0.heap.size W0 V := by obtain ⟨_, _, _, _, _, _, _, h⟩ := HJ.out; exact h.bel
      have hBV : Below w.heap.size w V := bW0.trans (hB0.mono bW0.size)
      clear hB0
      go_upto_if 47 with fail
      go_cut [10] from 27 to 53 (fun sq wx => sq = .int .u64 (f k) ∧ wx = V)
      case first =>
        by_cases ha : k < xs.length
        · have g1 : decide ((k : Int) < (xs.length : Int)) = true := decide_eq_true (by omega)
          obtain ⟨b, off, rfl, hbb, hcl⟩ := (HLX.out).get ha
          obtain ⟨x, hx⟩ : ∃ x, xs[k]? = some x := ⟨_, List.getElem?_eq_getElem ha⟩
          have hxb := HBX.out x (List.mem_of_getElem? hx)
          have c1 : V.cell? ⟨b, off + k, none⟩ = some (.int .u8 x) := (hBV.cell (p := ⟨b, off + k, none⟩) hbb).trans (hcl k x hx)
          obtain ⟨q, hq⟩ : ∃ q, x.tmod 5 = q := ⟨_, rfl⟩
          have hq5 : 0 ≤ q ∧ q ≤ 4 := by rw [← hq, Int.tmod_eq_emod_of_nonneg hxb.1]; omega
          have HQ : Hid (f k = q) := by show _ = _; rw [← HF.out, fv_in hx, hq]
          clear hcl hx hbb
          go_wp2_with fail
          go_meet
          exact ⟨by rw [HQ.out], rfl⟩
        · have g1 : decide ((k : Int) < (xs.length : Int)) = false := decide_eq_false (by omega)
          have HQ : Hid (f k = 0) := by show _ = _; rw [← HF.out, fv_out (by omega)]
          go_wp2_with fail
          go_meet
          exact ⟨by rw [HQ.out], rfl⟩
      obtain ⟨rfl, hw⟩ := hcut
      subst hw
      obtain ⟨V, hV⟩ : ∃ V, wc = V := ⟨_, rfl⟩
      rw [hV] at HJ hBV
      rw [hV]
      clear hV
      go_upto_if 57 with fail
      go_cut [11] from 27 to 63 (fun sq wx => sq = .int .u64 (g k) ∧ wx = V)
      case first =>
        by_cases ha : k < ys.length
        · have g1 : decide ((k : Int) < (ys.length : Int)) = true := decide_eq_true (by omega)
          obtain ⟨b, off, rfl, hbb, hcl⟩ := (HLY.out).get ha
          obtain ⟨x, hx⟩ : ∃ x, ys[k]? = some x := ⟨_, List.getElem?_eq_getElem ha⟩
          have hxb := HBY.out x (List.mem_of_getElem? hx)
          have c1 : V.cell? ⟨b, off + k, none⟩ = some (.int .u8 x) := (hBV.cell (p := ⟨b, off + k, none⟩) hbb).trans (hcl k x hx)
          obtain ⟨q, hq⟩ : ∃ q, x.tmod 5 = q := ⟨_, rfl⟩
          have hq5 : 0 ≤ q ∧ q ≤ 4 := by rw [← hq, Int.tmod_eq_emod_of_nonneg hxb.1]; omega
          have HQ : Hid (g k = q) := by show _ = _; rw [← HG.out, fv_in hx, hq]
          clear hcl hx hbb
          go_wp2_with fail
          go_meet
          exact ⟨by rw [HQ.out], rfl⟩
        · have g1 : decide ((k : Int) < (ys.length : Int)) = false := decide_eq_false (by omega)
          have HQ : Hid (g k = 0) := by show _ = _; rw [← HG.out, fv_out (by omega)]
          go_wp2_with fail
          go_meet
          exact ⟨by rw [HQ.out], rfl⟩
      obtain ⟨rfl, hw⟩ := hcut
      subst hw
      obtain ⟨V, hV⟩ : ∃ V, wc = V := ⟨_, rfl⟩
      rw [hV] at HJ hBV
      rw [hV]
      clear hV
      go_upto_region 15 with fail
      obtain ⟨x1, x2, y1, y2, z1, z2, hb3, hr3⟩ := HJ.out
      have HS : Hid (∀ W, Bx3 W0 x1 x2 y1 y2 z1 z2 W → (fun W => W.cell? ⟨W0.heap.size, 0, none⟩ = some (.int .u64 0) ∧ W.cell? ⟨W0.heap.size, 1, none⟩ = some (.int .u64 0) ∧ W.cell? ⟨W0.heap.size, 2, none⟩ = some (x1) ∧ W.cell? ⟨W0.heap.size, 3, none⟩ = some (.slice none 0 0) ∧ W.cell? ⟨W0.heap.size, 4, none⟩ = some (x2) ∧ W.cell? ⟨W0.heap.size + 1, 0, none⟩ = some (.int .u64 0) ∧ W.cell? ⟨W0.heap.size + 1, 1, none⟩ = some (.int .u64 0) ∧ W.cell? ⟨W0.heap.size + 1, 2, none⟩ = some (y1) ∧ W.cell? ⟨W0.heap.size + 1, 3, none⟩ = some (.slice none 0 0) ∧ W.cell? ⟨W0.heap.size + 1, 4, none⟩ = some (y2) ∧ W.cell? ⟨W0.heap.size + 1 + 1, 0, none⟩ = some (.int .u64 0) ∧ W.cell? ⟨W0.heap.size + 1 + 1, 1, none⟩ = some (.int .u64 0) ∧ W.cell? ⟨W0.heap.size + 1 + 1, 2, none⟩ = some (z1) ∧ W.cell? ⟨W0.heap.size + 1 + 1, 3, none⟩ = some (.slice none 0 0) ∧ W.cell? ⟨W0.heap.size + 1 + 1, 4, none⟩ = some (z2)) W) := fun W h => ⟨blk_cell h.qx 0 _ rfl, blk_cell h.qx 1 _ rfl, blk_cell h.qx 2 _ rfl, blk_cell h.qx 3 _ rfl, blk_cell h.qx 4 _ rfl, blk_cell h.qy 0 _ rfl, blk_cell h.qy 1 _ rfl, blk_cell h.qy 2 _ rfl, blk_cell h.qy 3 _ rfl, blk_cell h.qy 4 _ rfl, blk_cell h.qz 0 _ rfl, blk_cell h.qz 1 _ rfl, blk_cell h.qz 2 _ rfl, blk_cell h.qz 3 _ rfl, blk_cell h.qz 4 _ rfl⟩
      refine wp_region_C (fun j => decide (14 ≤ j)) (fun W => W.cell? ⟨W0.heap.size, 0, none⟩ = some (.int .u64 0) ∧ W.cell? ⟨W0.heap.size, 1, none⟩ = some (.int .u64 0) ∧ W.cell? ⟨W0.heap.size, 2, none⟩ = some (x1) ∧ W.cell? ⟨W0.heap.size, 3, none⟩ = some (.slice none 0 0) ∧ W.cell? ⟨W0.heap.size, 4, none⟩ = some (x2) ∧ W.cell? ⟨W0.heap.size + 1, 0, none⟩ = some (.int .u64 0) ∧ W.cell? ⟨W0.heap.size + 1, 1, none⟩ = some (.int .u64 0) ∧ W.cell? ⟨W0.heap.size + 1, 2, none⟩ = some (y1) ∧ W.cell? ⟨W0.heap.size + 1, 3, none⟩ = some (.slice none 0 0) ∧ W.cell? ⟨W0.heap.size + 1, 4, none⟩ = some (y2) ∧ W.cell? ⟨W0.heap.size + 1 + 1, 0, none⟩ = some (.int .u64 0) ∧ W.cell? ⟨W0.heap.size + 1 + 1, 1, none⟩ = some (.int .u64 0) ∧ W.cell? ⟨W0.heap.size + 1 + 1, 2, none⟩ = some (z1) ∧ W.cell? ⟨W0.heap.size + 1 + 1, 3, none⟩ = some (.slice none 0 0) ∧ W.cell? ⟨W0.heap.size + 1 + 1, 4, none⟩ = some (z2)) (fun _ => True) (by kernel_rfl) ?_
      obtain ⟨D, hD⟩ : ∃ D, V.drew = D := ⟨_, rfl⟩
      have HB : Hid (Bx3 W0 x1 x2 y1 y2 z1 z2 D) := by rw [← hD]; exact ⟨hb3.qx, hb3.qy, hb3.qz⟩
      have HR : Hid (Rw3 W0 x1 x2 y1 y2 z1 z2 (kv f 0 k) (kv g 0 k) (kv (fun j => max (f j) (g j)) 0 k) D) := by rw [← hD]; exact hr3.keep (fun _ _ _ => rfl) hr3.bel.drew
      have hBD : Below w.heap.size w D := by rw [← hD]; exact hBV.drew
      rw [hD]
      clear hD hb3 hr3 HJ hBV
      refine takeD (fun j => decide (j = 3 ∨ j = 7 ∨ 13 ≤ j)) 0 64 (v := ?mm1_v) rfl rfl (by kernel_rfl) (by kernel_rfl) (by kernel_rfl) rfl (fun j h => by simp at h ⊢; omega) (by kernel_rfl) (by kernel_rfl) (fun _ _ _ h => h) (Or.inl ⟨by rfl, ?mm1_h⟩) trivial (HS.out _ HB.out) ?mm1_r
      case mm1_h => (intro w hSw; (try dsimp only at hSw); go_simp; try (with_reducible rfl))
      simp only [List.set_cons_zero, List.set_cons_succ]
      refine takeD (fun j => decide (j = 7 ∨ 13 ≤ j)) 4 68 (v := ?mm2_v) rfl rfl (by kernel_rfl) (by kernel_rfl) (by kernel_rfl) rfl (fun j h => by simp at h ⊢; omega) (by kernel_rfl) (by kernel_rfl) (fun _ _ _ h => h) (Or.inl ⟨by rfl, ?mm2_h⟩) trivial (HS.out _ HB.out) ?mm2_r
      case mm2_h => (intro w hSw; (try dsimp only at hSw); go_simp; try (with_reducible rfl))
      simp only [List.set_cons_zero, List.set_cons_succ]
      refine takeD (fun j => decide (13 ≤ j)) 8 72 (v := ?mm3_v) rfl rfl (by kernel_rfl) (by kernel_rfl) (by kernel_rfl) rfl (fun j h => by simp at h ⊢; omega) (by kernel_rfl) (by kernel_rfl) (fun _ _ _ h => h) (Or.inl ⟨by rfl, ?mm3_h⟩) trivial (HS.out _ HB.out) ?mm3_r
      case mm3_h => (intro w hSw; (try dsimp only at hSw); go_simp; try (with_reducible rfl))
      simp only [List.set_cons_zero, List.set_cons_succ]
      refine takeB 1 65 (v := ?mm4_v) rfl rfl (by kernel_rfl) (by kernel_rfl) (by kernel_rfl) rfl (fun _ _ _ h => h) (Or.inl ⟨by rfl, ?mm4_h⟩) trivial (HS.out _ HB.out) ?mm4_r
      case mm4_h => (intro w hSw; (try dsimp only at hSw); go_simp; try (with_reducible rfl))
      simp only [List.set_cons_zero, List.set_cons_succ]
      refine takeB 2 66 (v := ?mm5_v) rfl rfl (by kernel_rfl) (by kernel_rfl) (by kernel_rfl) rfl (fun _ _ _ h => h) (Or.inl ⟨by rfl, ?mm5_h⟩) trivial (HS.out _ HB.out) ?mm5_r
      case mm5_h => (intro w hSw; (try dsimp only at hSw); go_simp; try (with_reducible rfl))
      simp only [List.set_cons_zero, List.set_cons_succ]
      refine takeB 5 69 (v := ?mm6_v) rfl rfl (by kernel_rfl) (by kernel_rfl) (by kernel_rfl) rfl (fun _ _ _ h => h) (Or.inl ⟨by rfl, ?mm6_h⟩) trivial (HS.out _ HB.out) ?mm6_r
      case mm6_h => (intro w hSw; (try dsimp only at hSw); go_simp; try (with_reducible rfl))
      simp only [List.set_cons_zero, List.set_cons_succ]
      refine takeB 6 70 (v := ?mm7_v) rfl rfl (by kernel_rfl) (by kernel_rfl) (by kernel_rfl) rfl (fun _ _ _ h => h) (Or.inl ⟨by rfl, ?mm7_h⟩) trivial (HS.out _ HB.out) ?mm7_r
      case mm7_h => (intro w hSw; (try dsimp only at hSw); go_simp; try (with_reducible rfl))
      simp only [List.set_cons_zero, List.set_cons_succ]
      refine takeB 9 73 (v := ?mm8_v) rfl rfl (by kernel_rfl) (by kernel_rfl) (by kernel_rfl) rfl (fun _ _ _ h => h) (Or.inl ⟨by rfl, ?mm8_h⟩) trivial (HS.out _ HB.out) ?mm8_r
      case mm8_h => (intro w hSw; (try dsimp only at hSw); go_simp; try (with_reducible rfl))
      simp only [List.set_cons_zero, List.set_cons_succ]
      refine takeB 10 74 (v := ?mm9_v) rfl rfl (by kernel_rfl) (by kernel_rfl) (by kernel_rfl) rfl (fun _ _ _ h => h) (Or.inl ⟨by rfl, ?mm9_h⟩) trivial (HS.out _ HB.out) ?mm9_r
      case mm9_h => (intro w hSw; (try dsimp only at hSw); go_simp; try (with_reducible rfl))
      simp only [List.set_cons_zero, List.set_cons_succ]
      refine takeB 11 75 (v := ?mm10_v) rfl rfl (by kernel_rfl) (by kernel_rfl) (by kernel_rfl) rfl (fun _ _ _ h => h) (Or.inl ⟨by rfl, ?mm10_h⟩) trivial (HS.out _ HB.out) ?mm10_r
      case mm10_h => (intro w hSw; (try dsimp only at hSw); go_simp; try (with_reducible rfl))
      simp only [List.set_cons_zero, List.set_cons_succ]
      refine takeB 12 76 (v := ?mm11_v) rfl rfl (by kernel_rfl) (by kernel_rfl) (by kernel_rfl) rfl (fun _ _ _ h => h) (Or.inl ⟨by rfl, ?mm11_h⟩) trivial (HS.out _ HB.out) ?mm11_r
      case mm11_h => (intro w hSw; (try dsimp only at hSw); go_simp; try (with_reducible rfl))
      simp only [List.set_cons_zero, List.set_cons_succ]
      refine wpAnyC_ready (rs := [3]) (by kernel_rfl) (by simp) ?_
      refine AllReadyC.cons rfl (fun K hK => ?_) AllReadyC.nil
      go_simp
      go_wp2_with (go_at_call 19; refine (with_kv (W0.heap.size + 3) x1 x2 f k _ HR.out.rx (by have := HB.out.qz.lt; omega) (by omega)).mono ?_; rintro e D0 ⟨u1, u2, rfl, hp⟩; (replace HB := Lib.hid (HB.out.step HR.out.rx hp); replace HR := Lib.hid (HR.out.stepX hp); obtain ⟨Ar, cr, rfl, -⟩ := row_form hp.pr.rm; obtain ⟨Br, dr, rfl, -⟩ := row_form hp.pr.rv; clear hp))
      refine hK.out _ _ trivial (fun _ => HS.out _ HB.out) ?_
      clear hK K
      refine wpAnyC_ready (rs := [7]) (by kernel_rfl) (by simp) ?_
      refine AllReadyC.cons rfl (fun K hK => ?_) AllReadyC.nil
      go_simp
      go_wp2_with (go_at_call 19; refine (with_kv (W0.heap.size + 3) y1 y2 g k _ HR.out.ry (by have := HB.out.qz.lt; omega) (by omega)).mono ?_; rintro e D1 ⟨u1, u2, rfl, hp⟩; (replace HB := Lib.hid (HB.out.step HR.out.ry hp); replace HR := Lib.hid (HR.out.stepY hp); obtain ⟨As, cs, rfl, -⟩ := row_form hp.pr.rm; obtain ⟨Bs, ds, rfl, -⟩ := row_form hp.pr.rv; clear hp))
      refine hK.out _ _ trivial (fun _ => HS.out _ HB.out) ?_
      clear hK K
      refine wpAnyC_ready (rs := [13]) (by kernel_rfl) (by simp) ?_
      refine AllReadyC.cons rfl (fun K hK => ?_) AllReadyC.nil
      go_simp
      go_wp2_with (go_at_call 19; refine (with_kv (W0.heap.size + 3) z1 z2 (fun j => max (f j) (g j)) k _ HR.out.rz (by have := HB.out.qz.lt; omega) (by omega)).mono ?_; rintro e D2 ⟨u1, u2, rfl, hp⟩; (replace HB := Lib.hid (HB.out.step HR.out.rz hp); replace HR := Lib.hid (HR.out.stepZ hp); obtain ⟨At, ct, rfl, -⟩ := row_form hp.pr.rm; obtain ⟨Bt, dt, rfl, -⟩ := row_form hp.pr.rv; clear hp))
      refine hK.out _ _ trivial (fun _ => HS.out _ HB.out) ?_
      clear hK K
      have HB9 := HB.out
      have a0 : D2.cell? ⟨W0.heap.size, 0, none⟩ = some (.int .u64 0) := blk_cell HB9.qx 0 _ rfl
      have f0 := blk_frozen HB9.qx 0
      have a1 : D2.cell? ⟨W0.heap.size, 1, none⟩ = some (.int .u64 0) := blk_cell HB9.qx 1 _ rfl
      have f1 := blk_frozen HB9.qx 1
      have a2 : D2.cell? ⟨W0.heap.size, 2, none⟩ = some (x1) := blk_cell HB9.qx 2 _ rfl
      have f2 := blk_frozen HB9.qx 2
      have a3 : D2.cell? ⟨W0.heap.size, 3, none⟩ = some (.slice none 0 0) := blk_cell HB9.qx 3 _ rfl
      have f3 := blk_frozen HB9.qx 3
      have a4 : D2.cell? ⟨W0.heap.size, 4, none⟩ = some (x2) := blk_cell HB9.qx 4 _ rfl
      have f4 := blk_frozen HB9.qx 4
      have a5 : D2.cell? ⟨W0.heap.size + 1, 0, none⟩ = some (.int .u64 0) := blk_cell HB9.qy 0 _ rfl
      have f5 := blk_frozen HB9.qy 0
      have a6 : D2.cell? ⟨W0.heap.size + 1, 1, none⟩ = some (.int .u64 0) := blk_cell HB9.qy 1 _ rfl
      have f6 := blk_frozen HB9.qy 1
      have a7 : D2.cell? ⟨W0.heap.size + 1, 2, none⟩ = some (y1) := blk_cell HB9.qy 2 _ rfl
      have f7 := blk_frozen HB9.qy 2
      have a8 : D2.cell? ⟨W0.heap.size + 1, 3, none⟩ = some (.slice none 0 0) := blk_cell HB9.qy 3 _ rfl
      have f8 := blk_frozen HB9.qy 3
      have a9 : D2.cell? ⟨W0.heap.size + 1, 4, none⟩ = some (y2) := blk_cell HB9.qy 4 _ rfl
      have f9 := blk_frozen HB9.qy 4
      have a10 : D2.cell? ⟨W0.heap.size + 1 + 1, 0, none⟩ = some (.int .u64 0) := blk_cell HB9.qz 0 _ rfl
      have f10 := blk_frozen HB9.qz 0
      have a11 : D2.cell? ⟨W0.heap.size + 1 + 1, 1, none⟩ = some (.int .u64 0) := blk_cell HB9.qz 1 _ rfl
      have f11 := blk_frozen HB9.qz 1
      have a12 : D2.cell? ⟨W0.heap.size + 1 + 1, 2, none⟩ = some (z1) := blk_cell HB9.qz 2 _ rfl
      have f12 := blk_frozen HB9.qz 2
      have a13 : D2.cell? ⟨W0.heap.size + 1 + 1, 3, none⟩ = some (.slice none 0 0) := blk_cell HB9.qz 3 _ rfl
      have f13 := blk_frozen HB9.qz 3
      have a14 : D2.cell? ⟨W0.heap.size + 1 + 1, 4, none⟩ = some (z2) := blk_cell HB9.qz 4 _ rfl
      have f14 := blk_frozen HB9.qz 4
      clear HB9
      refine wpAnyC_ready (rs := [14]) (by kernel_rfl) (by simp) ?_
      refine AllReadyC.cons rfl (fun K hK => ?_) AllReadyC.nil
      go_simp
      refine hK.out _ _ trivial (fun h => absurd (Eq.trans h.symm (by kernel_rfl)) Bool.false_ne_true) ?_
      clear hK K
      refine wpAnyC_ready (rs := [15]) (by kernel_rfl) (by simp) ?_
      refine AllReadyC.cons rfl (fun K hK => ?_) AllReadyC.nil
      go_simp
      refine hK.out _ _ trivial (fun h => absurd (Eq.trans h.symm (by kernel_rfl)) Bool.false_ne_true) ?_
      clear hK K
      refine wpAnyC_ready (rs := [16]) (by kernel_rfl) (by simp) ?_
      refine AllReadyC.cons rfl (fun K hK => ?_) AllReadyC.nil
      go_simp
      refine hK.out _ _ trivial (fun h => absurd (Eq.trans h.symm (by kernel_rfl)) Bool.false_ne_true) ?_
      clear hK K
      refine wpAnyC_done (by kernel_rfl) ?_ _
      clear a0 f0 a1 f1 a2 f2 a3 f3 a4 f4 a5 f5 a6 f6 a7 f7 a8 f8 a9 f9 a10 f10 a11 f11 a12 f12 a13 f13 a14 f14
      go_wp2_with fail
      go_roundw
      case rel => exact ⟨k + 1, by omega, by go_num, JM.mk' HB.out HR.out⟩
      case measure => simp [intOf]; omega
    · have ha : ¬ k < xs.length := by omega
      have hb : ¬ k < ys.length := by omega
      obtain ⟨x1, x2, y1, y2, z1, z2, hb3, hr3⟩ := HJ.out
      have HFZ : Hid (∀ i, 0 ≤ (fun j => max (f j) (g j)) i ∧ (fun j => max (f j) (g j)) i ≤ 4) := fun i => by have := HFX.out i; have := HFY.out i; simp only; omega
      obtain ⟨Ax, cx, Bx, dx, sx, vx, rfl, rfl, IX, EX⟩ := hr3.rx.val HFX.out hk20
      obtain ⟨Ay, cy, By, dy, sy, vy, rfl, rfl, IY, EY⟩ := hr3.ry.val HFY.out hk20
      obtain ⟨Az, cz, Bz, dz, sz, vz, rfl, rfl, IZ, EZ⟩ := hr3.rz.val HFZ.out hk20
      have Bwr : Below w.heap.size w wr := bW0.trans (hr3.bel.mono bW0.size)
      obtain ⟨o, ho⟩ : ∃ o, joinF (.mk 4 [.mk 1 []]) (kvV f k) (kvV g k) = o := ⟨_, rfl⟩
      have K1 : Hid (o = .ok (kvV (fun j => max (f j) (g j)) k)) := by show _ = _; rw [← ho]; exact jm_join f g (fun i => (HFX.out i).1) (fun i => (HFY.out i).1) k hk20
      have HJJ : Hid (∀ (b : Nat) (W : World), Bxd W b #[.int .i64 1, .slice none 0 0] → (Vl.mk 0 0 Ax cx sx none 0 [] Bx dx vx).In W → (Vl.mk 0 0 Ay cy sy none 0 [] By dy vy).In W → Calls Tryz.prog 15 #[.agg #[.int .i64 4, .slice (some ⟨b, 0, none⟩) 1 1], .agg #[.int .u64 0, .int .u64 0, .slice Ax sx.length cx, .slice none 0 0, .slice Bx vx.length dx], .agg #[.int .u64 0, .int .u64 0, .slice Ay sy.length cy, .slice none 0 0, .slice By vy.length dy]] W (RetK W o)) := fun b W h1 h2 h3 => by
        have h := Join_any False False.elim (scRow 4 b [scLeaf 1]) (Vl.mk 0 0 Ax cx sx none 0 [] Bx dx vx) (Vl.mk 0 0 Ay cy sy none 0 [] By dy vy) W (scRow_in 4 h1 rfl (by simp) (fun s hs => by rw [List.mem_singleton.1 hs]; exact scLeaf_in _ _ _)) h2 h3 (fun _ => .inr (noP_one (by decide) (noP_leaf (by decide))))
        rw [EX, EY] at h
        rw [← ho]
        exact h
      have Xx := blk_bxd hb3.qx
      have Xy := blk_bxd hb3.qy
      have Xz := blk_bxd hb3.qz
      have EZ' := Lib.hid EZ
      clear hb3 hr3 ho EX EY EZ HJ HFX HFY HFZ
      go_upto_region 16 with fail
      go_cut [12, 13] (fun s1 s2 wx => Hid (VMidK wr o s1 s2 wx))
      case first =>
        have HXI := Lib.hid (And.intro IX IY)
        have HK : Hid (∀ W, Below wr.heap.size wr W → (fun w' => w'.cell? ⟨W0.heap.size, 0, none⟩ = some (.int .u64 0) ∧ w'.cell? ⟨W0.heap.size, 1, none⟩ = some (.int .u64 0) ∧ w'.cell? ⟨W0.heap.size, 2, none⟩ = some (.slice Ax sx.length cx) ∧ w'.cell? ⟨W0.heap.size, 3, none⟩ = some (.slice none 0 0) ∧ w'.cell? ⟨W0.heap.size, 4, none⟩ = some (.slice Bx vx.length dx) ∧ w'.cell? ⟨W0.heap.size + 1, 0, none⟩ = some (.int .u64 0) ∧ w'.cell? ⟨W0.heap.size + 1, 1, none⟩ = some (.int .u64 0) ∧ w'.cell? ⟨W0.heap.size + 1, 2, none⟩ = some (.slice Ay sy.length cy) ∧ w'.cell? ⟨W0.heap.size + 1, 3, none⟩ = some (.slice none 0 0) ∧ w'.cell? ⟨W0.heap.size + 1, 4, none⟩ = some (.slice By vy.length dy)) W) := fun W hW => ⟨(hW.cell (p := ⟨W0.heap.size, 0, none⟩) Xx.1).trans (Xx.2 0 _ rfl), (hW.cell (p := ⟨W0.heap.size, 1, none⟩) Xx.1).trans (Xx.2 1 _ rfl), (hW.cell (p := ⟨W0.heap.size, 2, none⟩) Xx.1).trans (Xx.2 2 _ rfl), (hW.cell (p := ⟨W0.heap.size, 3, none⟩) Xx.1).trans (Xx.2 3 _ rfl), (hW.cell (p := ⟨W0.heap.size, 4, none⟩) Xx.1).trans (Xx.2 4 _ rfl), (hW.cell (p := ⟨W0.heap.size + 1, 0, none⟩) Xy.1).trans (Xy.2 0 _ rfl), (hW.cell (p := ⟨W0.heap.size + 1, 1, none⟩) Xy.1).trans (Xy.2 1 _ rfl), (hW.cell (p := ⟨W0.heap.size + 1, 2, none⟩) Xy.1).trans (Xy.2 2 _ rfl), (hW.cell (p := ⟨W0.heap.size + 1, 3, none⟩) Xy.1).trans (Xy.2 3 _ rfl), (hW.cell (p := ⟨W0.heap.size + 1, 4, none⟩) Xy.1).trans (Xy.2 4 _ rfl)⟩
        refine wp_region_noPanic ?_
        refine wp_region_held_drew (S := (fun w' => w'.cell? ⟨W0.heap.size, 0, none⟩ = some (.int .u64 0) ∧ w'.cell? ⟨W0.heap.size, 1, none⟩ = some (.int .u64 0) ∧ w'.cell? ⟨W0.heap.size, 2, none⟩ = some (.slice Ax sx.length cx) ∧ w'.cell? ⟨W0.heap.size, 3, none⟩ = some (.slice none 0 0) ∧ w'.cell? ⟨W0.heap.size, 4, none⟩ = some (.slice Bx vx.length dx) ∧ w'.cell? ⟨W0.heap.size + 1, 0, none⟩ = some (.int .u64 0) ∧ w'.cell? ⟨W0.heap.size + 1, 1, none⟩ = some (.int .u64 0) ∧ w'.cell? ⟨W0.heap.size + 1, 2, none⟩ = some (.slice Ay sy.length cy) ∧ w'.cell? ⟨W0.heap.size + 1, 3, none⟩ = some (.slice none 0 0) ∧ w'.cell? ⟨W0.heap.size + 1, 4, none⟩ = some (.slice By vy.length dy))) (by kernel_rfl) ?_ (fun hHeld => ?_)
        · exact HK.out _ (Below.refl _ _).drew
        obtain ⟨D, hD⟩ : ∃ D, wr.drew = D := ⟨_, rfl⟩
        rw [hD] at hHeld ⊢
        have HB : Hid (Below wr.heap.size wr D) := by rw [← hD]; exact (Below.refl _ _).drew
        clear hD
        refine V4.takeH 3 82 (v := ?t1_v) rfl rfl (by kernel_rfl) (by kernel_rfl) (by kernel_rfl) (fun _ _ _ h => h) (Or.inl ⟨by rfl, ?t1_h⟩) (by assumption) ?t1_r
        case t1_h => (intro w hSw; (try dsimp only at hSw); go_simp; try (with_reducible rfl))
        simp only [List.set_cons_zero, List.set_cons_succ]
        refine V4.takeH 4 83 (v := ?t2_v) rfl rfl (by kernel_rfl) (by kernel_rfl) (by kernel_rfl) (fun _ _ _ h => h) (Or.inl ⟨by rfl, ?t2_h⟩) (by assumption) ?t2_r
        case t2_h => (intro w hSw; (try dsimp only at hSw); go_simp; try (with_reducible rfl))
        simp only [List.set_cons_zero, List.set_cons_succ]
        refine wpAnyH_ready (rs := [0, 9]) (by kernel_rfl) (by simp) ?_
        refine AllReadyH.cons rfl (fun K hK => ?n3_a) (AllReadyH.cons rfl (fun K hK => ?n3_b) AllReadyH.nil)
        case n3_a =>
          go_simp
          go_wp2_with (go_at_call 16; refine (of_any 1 none 0 0 _).mono ?_; rintro e Da ⟨rfl, hbn⟩)
          replace HB : Hid (Below wr.heap.size wr Da) := HB.out.trans (hbn.mono HB.out.size)
          clear hbn
          refine hK.out _ _ ?_ (fun hHeld => ?_)
          · exact HK.out _ HB.out
          clear hK K
          refine wpAnyH_ready (rs := [1, 9]) (by kernel_rfl) (by simp) ?_
          refine AllReadyH.cons rfl (fun K hK => ?n4_a) (AllReadyH.cons rfl (fun K hK => ?n4_b) AllReadyH.nil)
          case n4_a =>
            go_simp
            obtain ⟨Dab, hDab⟩ : ∃ Dab, Da.alloc (.cells #[.int .i64 1, .slice none 0 0] 24) = Dab := ⟨_, rfl⟩
            rw [hDab]
            have hbn : Below Da.heap.size Da Dab := by rw [← hDab]; exact allocB _ _
            have HX1 : Hid (V4.Bxd Dab Da.heap.size #[.int .i64 1, .slice none 0 0]) := by rw [← hDab]; exact V4.Bxd.new
            replace HB : Hid (Below wr.heap.size wr Dab) := HB.out.trans (hbn.mono HB.out.size)
            clear hbn
            refine hK.out _ _ ?_ (fun hHeld => ?_)
            · exact HK.out _ HB.out
            clear hK K
            refine wpAnyH_ready (rs := [2, 9]) (by kernel_rfl) (by simp) ?_
            refine AllReadyH.cons rfl (fun K hK => ?n5_a) (AllReadyH.cons rfl (fun K hK => ?n5_b) AllReadyH.nil)
            case n5_a =>
              go_simp
              go_wp2_with (go_at_call 16; refine (of_any 4 (some ⟨Da.heap.size, 0, none⟩) 1 1 _).mono ?_; rintro e Dabc ⟨rfl, hbn⟩)
              replace HX1 := Lib.hid (HX1.out.later hbn)
              replace HB : Hid (Below wr.heap.size wr Dabc) := HB.out.trans (hbn.mono HB.out.size)
              clear hbn
              refine hK.out _ _ ?_ (fun hHeld => ?_)
              · exact HK.out _ HB.out
              clear hK K
              refine wpAnyH_ready (rs := [5, 9]) (by kernel_rfl) (by simp) ?_
              refine AllReadyH.cons rfl (fun K hK => ?n6_a) (AllReadyH.cons rfl (fun K hK => ?n6_b) AllReadyH.nil)
              case n6_a =>
                go_simp
                go_wp2_with (go_at_call 15; refine (HJJ.out (Da.heap.size) _ HX1.out (HXI.out.1.later HB.out) (HXI.out.2.later HB.out)).mono ?_; rintro e Dabcd hr; (obtain ⟨⟨zn, zm, zsA, zsc, zss, zcA, zcc, zcs, zvA, zvc, zvs⟩, ev, rfl, hzi, hbn, hze⟩ := retK_case hr; have HZE := Lib.hid hze; simp only [val_mk]; clear hr hze))
                replace HX1 := Lib.hid (HX1.out.later hbn)
                replace HB : Hid (Below wr.heap.size wr Dabcd) := HB.out.trans (hbn.mono HB.out.size)
                clear hbn
                refine hK.out _ _ ?_ (fun hHeld => ?_)
                · exact HK.out _ HB.out
                clear hK K
                refine V4.takeH 6 78 (v := ?t7_v) rfl rfl (by kernel_rfl) (by kernel_rfl) (by kernel_rfl) (fun _ _ _ h => h) (Or.inl ⟨by rfl, ?t7_h⟩) (by assumption) ?t7_r
                case t7_h => (intro w hSw; (try dsimp only at hSw); go_simp; try (with_reducible rfl))
                simp only [List.set_cons_zero, List.set_cons_succ]
                refine V4.takeH 7 85 (v := ?t8_v) rfl rfl (by kernel_rfl) (by kernel_rfl) (by kernel_rfl) (fun _ _ _ h => h) (Or.inl ⟨by rfl, ?t8_h⟩) (by assumption) ?t8_r
                case t8_h => (intro w hSw; (try dsimp only at hSw); go_simp; try (with_reducible rfl))
                simp only [List.set_cons_zero, List.set_cons_succ]
                refine V4.takeH 8 86 (v := ?t9_v) rfl rfl (by kernel_rfl) (by kernel_rfl) (by kernel_rfl) (fun _ _ _ h => h) (Or.inl ⟨by rfl, ?t9_h⟩) (by assumption) ?t9_r
                case t9_h => (intro w hSw; (try dsimp only at hSw); go_simp; try (with_reducible rfl))
                simp only [List.set_cons_zero, List.set_cons_succ]
                refine wpAnyH_ready (rs := [9]) (by kernel_rfl) (by simp) ?_
                refine AllReadyH.cons rfl (fun K hK => ?_) AllReadyH.nil
                go_simp
                obtain ⟨Dabcdp, hDabcdp⟩ : ∃ Dabcdp, Dabcd.alloc (.cells #[.int .u64 0, .int .u64 0, .slice none 0 0, .slice none 0 0, .slice none 0 0] 32) = Dabcdp := ⟨_, rfl⟩
                rw [hDabcdp]
                have hbn : Below Dabcd.heap.size Dabcd Dabcdp := by rw [← hDabcdp]; exact allocB _ _
                have HPB : Hid (Blk Dabcdp Dabcd.heap.size 32 #[.int .u64 0, .int .u64 0, .slice none 0 0, .slice none 0 0, .slice none 0 0]) := by rw [← hDabcdp]; exact Blk.new _ _ _
                have hpb : wr.heap.size ≤ Dabcd.heap.size := HB.out.size
                replace HX1 := Lib.hid (HX1.out.later hbn)
                replace HB : Hid (Below wr.heap.size wr Dabcdp) := HB.out.trans (hbn.mono HB.out.size)
                refine hK.out _ _ ?_ (fun hHeld => ?_)
                · exact HK.out _ HB.out
                clear hK K
                have HZI : Hid ((Vl.mk zn zm zsA zsc zss zcA zcc zcs zvA zvc zvs).Inp (fun b => b < Dabcdp.heap.size ∧ b ≠ Dabcd.heap.size) Dabcdp) := (hzi.keep fun b hP => hbn.block b hP.2).mono fun b hP => ⟨Nat.lt_of_lt_of_le hP.2 hbn.size, Nat.ne_of_lt hP.2⟩
                have qp := HPB.out
                have d0 : Dabcdp.cell? ⟨Dabcd.heap.size, 0, none⟩ = some (.int .u64 0) := blk_cell qp 0 _ rfl
                have d1 : Dabcdp.cell? ⟨Dabcd.heap.size, 1, none⟩ = some (.int .u64 0) := blk_cell qp 1 _ rfl
                have d2 : Dabcdp.cell? ⟨Dabcd.heap.size, 2, none⟩ = some (.slice none 0 0) := blk_cell qp 2 _ rfl
                have d3 : Dabcdp.cell? ⟨Dabcd.heap.size, 3, none⟩ = some (.slice none 0 0) := blk_cell qp 3 _ rfl
                have d4 : Dabcdp.cell? ⟨Dabcd.heap.size, 4, none⟩ = some (.slice none 0 0) := blk_cell qp 4 _ rfl
                have f0 := blk_frozen qp 0
                have f1 := blk_frozen qp 1
                have f2 := blk_frozen qp 2
                have f3 := blk_frozen qp 3
                have f4 := blk_frozen qp 4
                refine wpAnyH_ready (rs := [10]) (by kernel_rfl) (by simp) ?_
                refine AllReadyH.cons rfl (fun K hK => ?_) AllReadyH.nil
                go_simp
                obtain ⟨Y, hY⟩ : ∃ Y, set5 Dabcdp (Dabcd.heap.size) (.int .u64 zn) (.int .u64 zm) (.slice zsA zss.length zsc) (.slice zcA zcs.length zcc) (.slice zvA zvs.length zvc) = Y := ⟨_, rfl⟩
                change K _ (set5 Dabcdp (Dabcd.heap.size) (.int .u64 zn) (.int .u64 zm) (.slice zsA zss.length zsc) (.slice zcA zcs.length zcc) (.slice zvA zvs.length zvc))
                rw [hY]
                have HMID : Hid (VMidK wr o (.pointer (some ⟨Dabcd.heap.size, 0, none⟩)) ev Y) := by rw [← hY]; exact vmidk_mk (z := .mk zn zm zsA zsc zss zcA zcc zcs zvA zvc zvs) qp hpb HZI.out HZE.out HB.out
                replace HB : Hid (Below wr.heap.size wr Y) := by rw [← hY]; exact set5_bel HB.out hpb
                refine hK.out _ _ ?_ (fun hHeld => ?_)
                · exact HK.out _ HB.out
                clear hK K
                refine V4.takeH 11 13 (v := ?t10_v) rfl rfl (by kernel_rfl) (by kernel_rfl) (by kernel_rfl) (fun _ _ _ h => h) (Or.inl ⟨by rfl, ?t10_h⟩) (by assumption) ?t10_r
                case t10_h => (intro w hSw; (try dsimp only at hSw); go_simp; try (with_reducible rfl))
                simp only [List.set_cons_zero, List.set_cons_succ]
                refine wpAnyH_done (by kernel_rfl) ?_ _
                refine NoPanic.normal ?_
                go_wp2_with fail
                go_meet
                exact HMID
              case n6_b =>
                go_simp
                obtain ⟨Dabcp, hDabcp⟩ : ∃ Dabcp, Dabc.alloc (.cells #[.int .u64 0, .int .u64 0, .slice none 0 0, .slice none 0 0, .slice none 0 0] 32) = Dabcp := ⟨_, rfl⟩
                rw [hDabcp]
                have hbn : Below Dabc.heap.size Dabc Dabcp := by rw [← hDabcp]; exact allocB _ _
                have HPB : Hid (Blk Dabcp Dabc.heap.size 32 #[.int .u64 0, .int .u64 0, .slice none 0 0, .slice none 0 0, .slice none 0 0]) := by rw [← hDabcp]; exact Blk.new _ _ _
                have hpb : wr.heap.size ≤ Dabc.heap.size := HB.out.size
                replace HX1 := Lib.hid (HX1.out.later hbn)
                replace HB : Hid (Below wr.heap.size wr Dabcp) := HB.out.trans (hbn.mono HB.out.size)
                clear hbn
                refine hK.out _ _ ?_ (fun hHeld => ?_)
                · exact HK.out _ HB.out
                clear hK K
                refine wpAnyH_ready (rs := [5]) (by kernel_rfl) (by simp) ?_
                refine AllReadyH.cons rfl (fun K hK => ?_) AllReadyH.nil
                go_simp
                have HLT : Hid (Dabc.heap.size < Dabcp.heap.size) := HPB.out.lt
                go_wp2_with (go_at_call 15; refine (HJJ.out (Da.heap.size) _ HX1.out (HXI.out.1.later HB.out) (HXI.out.2.later HB.out)).mono ?_; rintro e Dabcpd hr; (obtain ⟨⟨zn, zm, zsA, zsc, zss, zcA, zcc, zcs, zvA, zvc, zvs⟩, ev, rfl, hzi, hbn, hze⟩ := retK_case hr; have HZE := Lib.hid hze; simp only [val_mk]; clear hr hze))
                replace HX1 := Lib.hid (HX1.out.later hbn)
                replace HPB := Lib.hid (HPB.out.below hbn)
                have HZI : Hid ((Vl.mk zn zm zsA zsc zss zcA zcc zcs zvA zvc zvs).Inp (fun b => b < Dabcpd.heap.size ∧ b ≠ Dabc.heap.size) Dabcpd) := hzi.mono fun b hP => ⟨hP.2, fun e => by have := hP.1; have := HLT.out; omega⟩
                replace HB : Hid (Below wr.heap.size wr Dabcpd) := HB.out.trans (hbn.mono HB.out.size)
                clear hbn
                refine hK.out _ _ ?_ (fun hHeld => ?_)
                · exact HK.out _ HB.out
                clear hK K
                refine V4.takeH 6 78 (v := ?t11_v) rfl rfl (by kernel_rfl) (by kernel_rfl) (by kernel_rfl) (fun _ _ _ h => h) (Or.inl ⟨by rfl, ?t11_h⟩) (by assumption) ?t11_r
                case t11_h => (intro w hSw; (try dsimp only at hSw); go_simp; try (with_reducible rfl))
                simp only [List.set_cons_zero, List.set_cons_succ]
                refine V4.takeH 7 85 (v := ?t12_v) rfl rfl (by kernel_rfl) (by kernel_rfl) (by kernel_rfl) (fun _ _ _ h => h) (Or.inl ⟨by rfl, ?t12_h⟩) (by assumption) ?t12_r
                case t12_h => (intro w hSw; (try dsimp only at hSw); go_simp; try (with_reducible rfl))
                simp only [List.set_cons_zero, List.set_cons_succ]
                refine V4.takeH 8 86 (v := ?t13_v) rfl rfl (by kernel_rfl) (by kernel_rfl) (by kernel_rfl) (fun _ _ _ h => h) (Or.inl ⟨by rfl, ?t13_h⟩) (by assumption) ?t13_r
                case t13_h => (intro w hSw; (try dsimp only at hSw); go_simp; try (with_reducible rfl))
                simp only [List.set_cons_zero, List.set_cons_succ]
                have qp := HPB.out
                have d0 : Dabcpd.cell? ⟨Dabc.heap.size, 0, none⟩ = some (.int .u64 0) := blk_cell qp 0 _ rfl
                have d1 : Dabcpd.cell? ⟨Dabc.heap.size, 1, none⟩ = some (.int .u64 0) := blk_cell qp 1 _ rfl
                have d2 : Dabcpd.cell? ⟨Dabc.heap.size, 2, none⟩ = some (.slice none 0 0) := blk_cell qp 2 _ rfl
                have d3 : Dabcpd.cell? ⟨Dabc.heap.size, 3, none⟩ = some (.slice none 0 0) := blk_cell qp 3 _ rfl
                have d4 : Dabcpd.cell? ⟨Dabc.heap.size, 4, none⟩ = some (.slice none 0 0) := blk_cell qp 4 _ rfl
                have f0 := blk_frozen qp 0
                have f1 := blk_frozen qp 1
                have f2 := blk_frozen qp 2
                have f3 := blk_frozen qp 3
                have f4 := blk_frozen qp 4
                refine wpAnyH_ready (rs := [10]) (by kernel_rfl) (by simp) ?_
                refine AllReadyH.cons rfl (fun K hK => ?_) AllReadyH.nil
                go_simp
                obtain ⟨Y, hY⟩ : ∃ Y, set5 Dabcpd (Dabc.heap.size) (.int .u64 zn) (.int .u64 zm) (.slice zsA zss.length zsc) (.slice zcA zcs.length zcc) (.slice zvA zvs.length zvc) = Y := ⟨_, rfl⟩
                change K _ (set5 Dabcpd (Dabc.heap.size) (.int .u64 zn) (.int .u64 zm) (.slice zsA zss.length zsc) (.slice zcA zcs.length zcc) (.slice zvA zvs.length zvc))
                rw [hY]
                have HMID : Hid (VMidK wr o (.pointer (some ⟨Dabc.heap.size, 0, none⟩)) ev Y) := by rw [← hY]; exact vmidk_mk (z := .mk zn zm zsA zsc zss zcA zcc zcs zvA zvc zvs) qp hpb HZI.out HZE.out HB.out
                replace HB : Hid (Below wr.heap.size wr Y) := by rw [← hY]; exact set5_bel HB.out hpb
                refine hK.out _ _ ?_ (fun hHeld => ?_)
                · exact HK.out _ HB.out
                clear hK K
                refine V4.takeH 11 13 (v := ?t14_v) rfl rfl (by kernel_rfl) (by kernel_rfl) (by kernel_rfl) (fun _ _ _ h => h) (Or.inl ⟨by rfl, ?t14_h⟩) (by assumption) ?t14_r
                case t14_h => (intro w hSw; (try dsimp only at hSw); go_simp; try (with_reducible rfl))
                simp only [List.set_cons_zero, List.set_cons_succ]
                refine wpAnyH_done (by kernel_rfl) ?_ _
                refine NoPanic.normal ?_
                go_wp2_with fail
                go_meet
                exact HMID
            case n5_b =>
              go_simp
              obtain ⟨Dabp, hDabp⟩ : ∃ Dabp, Dab.alloc (.cells #[.int .u64 0, .int .u64 0, .slice none 0 0, .slice none 0 0, .slice none 0 0] 32) = Dabp := ⟨_, rfl⟩
              rw [hDabp]
              have hbn : Below Dab.heap.size Dab Dabp := by rw [← hDabp]; exact allocB _ _
              have HPB : Hid (Blk Dabp Dab.heap.size 32 #[.int .u64 0, .int .u64 0, .slice none 0 0, .slice none 0 0, .slice none 0 0]) := by rw [← hDabp]; exact Blk.new _ _ _
              have hpb : wr.heap.size ≤ Dab.heap.size := HB.out.size
              replace HX1 := Lib.hid (HX1.out.later hbn)
              replace HB : Hid (Below wr.heap.size wr Dabp) := HB.out.trans (hbn.mono HB.out.size)
              clear hbn
              refine hK.out _ _ ?_ (fun hHeld => ?_)
              · exact HK.out _ HB.out
              clear hK K
              refine wpAnyH_ready (rs := [2]) (by kernel_rfl) (by simp) ?_
              refine AllReadyH.cons rfl (fun K hK => ?_) AllReadyH.nil
              go_simp
              go_wp2_with (go_at_call 16; refine (of_any 4 (some ⟨Da.heap.size, 0, none⟩) 1 1 _).mono ?_; rintro e Dabpc ⟨rfl, hbn⟩)
              replace HX1 := Lib.hid (HX1.out.later hbn)
              replace HPB := Lib.hid (HPB.out.below hbn)
              replace HB : Hid (Below wr.heap.size wr Dabpc) := HB.out.trans (hbn.mono HB.out.size)
              clear hbn
              refine hK.out _ _ ?_ (fun hHeld => ?_)
              · exact HK.out _ HB.out
              clear hK K
              refine wpAnyH_ready (rs := [5]) (by kernel_rfl) (by simp) ?_
              refine AllReadyH.cons rfl (fun K hK => ?_) AllReadyH.nil
              go_simp
              have HLT : Hid (Dab.heap.size < Dabpc.heap.size) := HPB.out.lt
              go_wp2_with (go_at_call 15; refine (HJJ.out (Da.heap.size) _ HX1.out (HXI.out.1.later HB.out) (HXI.out.2.later HB.out)).mono ?_; rintro e Dabpcd hr; (obtain ⟨⟨zn, zm, zsA, zsc, zss, zcA, zcc, zcs, zvA, zvc, zvs⟩, ev, rfl, hzi, hbn, hze⟩ := retK_case hr; have HZE := Lib.hid hze; simp only [val_mk]; clear hr hze))
              replace HX1 := Lib.hid (HX1.out.later hbn)
              replace HPB := Lib.hid (HPB.out.below hbn)
              have HZI : Hid ((Vl.mk zn zm zsA zsc zss zcA zcc zcs zvA zvc zvs).Inp (fun b => b < Dabpcd.heap.size ∧ b ≠ Dab.heap.size) Dabpcd) := hzi.mono fun b hP => ⟨hP.2, fun e => by have := hP.1; have := HLT.out; omega⟩
              replace HB : Hid (Below wr.heap.size wr Dabpcd) := HB.out.trans (hbn.mono HB.out.size)
              clear hbn
              refine hK.out _ _ ?_ (fun hHeld => ?_)
              · exact HK.out _ HB.out
              clear hK K
              refine V4.takeH 6 78 (v := ?t15_v) rfl rfl (by kernel_rfl) (by kernel_rfl) (by kernel_rfl) (fun _ _ _ h => h) (Or.inl ⟨by rfl, ?t15_h⟩) (by assumption) ?t15_r
              case t15_h => (intro w hSw; (try dsimp only at hSw); go_simp; try (with_reducible rfl))
              simp only [List.set_cons_zero, List.set_cons_succ]
              refine V4.takeH 7 85 (v := ?t16_v) rfl rfl (by kernel_rfl) (by kernel_rfl) (by kernel_rfl) (fun _ _ _ h => h) (Or.inl ⟨by rfl, ?t16_h⟩) (by assumption) ?t16_r
              case t16_h => (intro w hSw; (try dsimp only at hSw); go_simp; try (with_reducible rfl))
              simp only [List.set_cons_zero, List.set_cons_succ]
              refine V4.takeH 8 86 (v := ?t17_v) rfl rfl (by kernel_rfl) (by kernel_rfl) (by kernel_rfl) (fun _ _ _ h => h) (Or.inl ⟨by rfl, ?t17_h⟩) (by assumption) ?t17_r
              case t17_h => (intro w hSw; (try dsimp only at hSw); go_simp; try (with_reducible rfl))
              simp only [List.set_cons_zero, List.set_cons_succ]
              have qp := HPB.out
              have d0 : Dabpcd.cell? ⟨Dab.heap.size, 0, none⟩ = some (.int .u64 0) := blk_cell qp 0 _ rfl
              have d1 : Dabpcd.cell? ⟨Dab.heap.size, 1, none⟩ = some (.int .u64 0) := blk_cell qp 1 _ rfl
              have d2 : Dabpcd.cell? ⟨Dab.heap.size, 2, none⟩ = some (.slice none 0 0) := blk_cell qp 2 _ rfl
              have d3 : Dabpcd.cell? ⟨Dab.heap.size, 3, none⟩ = some (.slice none 0 0) := blk_cell qp 3 _ rfl
              have d4 : Dabpcd.cell? ⟨Dab.heap.size, 4, none⟩ = some (.slice none 0 0) := blk_cell qp 4 _ rfl
              have f0 := blk_frozen qp 0
              have f1 := blk_frozen qp 1
              have f2 := blk_frozen qp 2
              have f3 := blk_frozen qp 3
              have f4 := blk_frozen qp 4
              refine wpAnyH_ready (rs := [10]) (by kernel_rfl) (by simp) ?_
              refine AllReadyH.cons rfl (fun K hK => ?_) AllReadyH.nil
              go_simp
              obtain ⟨Y, hY⟩ : ∃ Y, set5 Dabpcd (Dab.heap.size) (.int .u64 zn) (.int .u64 zm) (.slice zsA zss.length zsc) (.slice zcA zcs.length zcc) (.slice zvA zvs.length zvc) = Y := ⟨_, rfl⟩
              change K _ (set5 Dabpcd (Dab.heap.size) (.int .u64 zn) (.int .u64 zm) (.slice zsA zss.length zsc) (.slice zcA zcs.length zcc) (.slice zvA zvs.length zvc))
              rw [hY]
              have HMID : Hid (VMidK wr o (.pointer (some ⟨Dab.heap.size, 0, none⟩)) ev Y) := by rw [← hY]; exact vmidk_mk (z := .mk zn zm zsA zsc zss zcA zcc zcs zvA zvc zvs) qp hpb HZI.out HZE.out HB.out
              replace HB : Hid (Below wr.heap.size wr Y) := by rw [← hY]; exact set5_bel HB.out hpb
              refine hK.out _ _ ?_ (fun hHeld => ?_)
              · exact HK.out _ HB.out
              clear hK K
              refine V4.takeH 11 13 (v := ?t18_v) rfl rfl (by kernel_rfl) (by kernel_rfl) (by kernel_rfl) (fun _ _ _ h => h) (Or.inl ⟨by rfl, ?t18_h⟩) (by assumption) ?t18_r
              case t18_h => (intro w hSw; (try dsimp only at hSw); go_simp; try (with_reducible rfl))
              simp only [List.set_cons_zero, List.set_cons_succ]
              refine wpAnyH_done (by kernel_rfl) ?_ _
              refine NoPanic.normal ?_
              go_wp2_with fail
              go_meet
              exact HMID
          case n4_b =>
            go_simp
            obtain ⟨Dap, hDap⟩ : ∃ Dap, Da.alloc (.cells #[.int .u64 0, .int .u64 0, .slice none 0 0, .slice none 0 0, .slice none 0 0] 32) = Dap := ⟨_, rfl⟩
            rw [hDap]
            have hbn : Below Da.heap.size Da Dap := by rw [← hDap]; exact allocB _ _
            have HPB : Hid (Blk Dap Da.heap.size 32 #[.int .u64 0, .int .u64 0, .slice none 0 0, .slice none 0 0, .slice none 0 0]) := by rw [← hDap]; exact Blk.new _ _ _
            have hpb : wr.heap.size ≤ Da.heap.size := HB.out.size
            replace HB : Hid (Below wr.heap.size wr Dap) := HB.out.trans (hbn.mono HB.out.size)
            clear hbn
            refine hK.out _ _ ?_ (fun hHeld => ?_)
            · exact HK.out _ HB.out
            clear hK K
            refine wpAnyH_ready (rs := [1]) (by kernel_rfl) (by simp) ?_
            refine AllReadyH.cons rfl (fun K hK => ?_) AllReadyH.nil
            go_simp
            obtain ⟨Dapb, hDapb⟩ : ∃ Dapb, Dap.alloc (.cells #[.int .i64 1, .slice none 0 0] 24) = Dapb := ⟨_, rfl⟩
            rw [hDapb]
            have hbn : Below Dap.heap.size Dap Dapb := by rw [← hDapb]; exact allocB _ _
            have HX1 : Hid (V4.Bxd Dapb Dap.heap.size #[.int .i64 1, .slice none 0 0]) := by rw [← hDapb]; exact V4.Bxd.new
            replace HPB := Lib.hid (HPB.out.below hbn)
            replace HB : Hid (Below wr.heap.size wr Dapb) := HB.out.trans (hbn.mono HB.out.size)
            clear hbn
            refine hK.out _ _ ?_ (fun hHeld => ?_)
            · exact HK.out _ HB.out
            clear hK K
            refine wpAnyH_ready (rs := [2]) (by kernel_rfl) (by simp) ?_
            refine AllReadyH.cons rfl (fun K hK => ?_) AllReadyH.nil
            go_simp
            go_wp2_with (go_at_call 16; refine (of_any 4 (some ⟨Dap.heap.size, 0, none⟩) 1 1 _).mono ?_; rintro e Dapbc ⟨rfl, hbn⟩)
            replace HX1 := Lib.hid (HX1.out.later hbn)
            replace HPB := Lib.hid (HPB.out.below hbn)
            replace HB : Hid (Below wr.heap.size wr Dapbc) := HB.out.trans (hbn.mono HB.out.size)
            clear hbn
            refine hK.out _ _ ?_ (fun hHeld => ?_)
            · exact HK.out _ HB.out
            clear hK K
            refine wpAnyH_ready (rs := [5]) (by kernel_rfl) (by simp) ?_
            refine AllReadyH.cons rfl (fun K hK => ?_) AllReadyH.nil
            go_simp
            have HLT : Hid (Da.heap.size < Dapbc.heap.size) := HPB.out.lt
            go_wp2_with (go_at_call 15; refine (HJJ.out (Dap.heap.size) _ HX1.out (HXI.out.1.later HB.out) (HXI.out.2.later HB.out)).mono ?_; rintro e Dapbcd hr; (obtain ⟨⟨zn, zm, zsA, zsc, zss, zcA, zcc, zcs, zvA, zvc, zvs⟩, ev, rfl, hzi, hbn, hze⟩ := retK_case hr; have HZE := Lib.hid hze; simp only [val_mk]; clear hr hze))
            replace HX1 := Lib.hid (HX1.out.later hbn)
            replace HPB := Lib.hid (HPB.out.below hbn)
            have HZI : Hid ((Vl.mk zn zm zsA zsc zss zcA zcc zcs zvA zvc zvs).Inp (fun b => b < Dapbcd.heap.size ∧ b ≠ Da.heap.size) Dapbcd) := hzi.mono fun b hP => ⟨hP.2, fun e => by have := hP.1; have := HLT.out; omega⟩
            replace HB : Hid (Below wr.heap.size wr Dapbcd) := HB.out.trans (hbn.mono HB.out.size)
            clear hbn
            refine hK.out _ _ ?_ (fun hHeld => ?_)
            · exact HK.out _ HB.out
            clear hK K
            refine V4.takeH 6 78 (v := ?t19_v) rfl rfl (by kernel_rfl) (by kernel_rfl) (by kernel_rfl) (fun _ _ _ h => h) (Or.inl ⟨by rfl, ?t19_h⟩) (by assumption) ?t19_r
            case t19_h => (intro w hSw; (try dsimp only at hSw); go_simp; try (with_reducible rfl))
            simp only [List.set_cons_zero, List.set_cons_succ]
            refine V4.takeH 7 85 (v := ?t20_v) rfl rfl (by kernel_rfl) (by kernel_rfl) (by kernel_rfl) (fun _ _ _ h => h) (Or.inl ⟨by rfl, ?t20_h⟩) (by assumption) ?t20_r
            case t20_h => (intro w hSw; (try dsimp only at hSw); go_simp; try (with_reducible rfl))
            simp only [List.set_cons_zero, List.set_cons_succ]
            refine V4.takeH 8 86 (v := ?t21_v) rfl rfl (by kernel_rfl) (by kernel_rfl) (by kernel_rfl) (fun _ _ _ h => h) (Or.inl ⟨by rfl, ?t21_h⟩) (by assumption) ?t21_r
            case t21_h => (intro w hSw; (try dsimp only at hSw); go_simp; try (with_reducible rfl))
            simp only [List.set_cons_zero, List.set_cons_succ]
            have qp := HPB.out
            have d0 : Dapbcd.cell? ⟨Da.heap.size, 0, none⟩ = some (.int .u64 0) := blk_cell qp 0 _ rfl
            have d1 : Dapbcd.cell? ⟨Da.heap.size, 1, none⟩ = some (.int .u64 0) := blk_cell qp 1 _ rfl
            have d2 : Dapbcd.cell? ⟨Da.heap.size, 2, none⟩ = some (.slice none 0 0) := blk_cell qp 2 _ rfl
            have d3 : Dapbcd.cell? ⟨Da.heap.size, 3, none⟩ = some (.slice none 0 0) := blk_cell qp 3 _ rfl
            have d4 : Dapbcd.cell? ⟨Da.heap.size, 4, none⟩ = some (.slice none 0 0) := blk_cell qp 4 _ rfl
            have f0 := blk_frozen qp 0
            have f1 := blk_frozen qp 1
            have f2 := blk_frozen qp 2
            have f3 := blk_frozen qp 3
            have f4 := blk_frozen qp 4
            refine wpAnyH_ready (rs := [10]) (by kernel_rfl) (by simp) ?_
            refine AllReadyH.cons rfl (fun K hK => ?_) AllReadyH.nil
            go_simp
            obtain ⟨Y, hY⟩ : ∃ Y, set5 Dapbcd (Da.heap.size) (.int .u64 zn) (.int .u64 zm) (.slice zsA zss.length zsc) (.slice zcA zcs.length zcc) (.slice zvA zvs.length zvc) = Y := ⟨_, rfl⟩
            change K _ (set5 Dapbcd (Da.heap.size) (.int .u64 zn) (.int .u64 zm) (.slice zsA zss.length zsc) (.slice zcA zcs.length zcc) (.slice zvA zvs.length zvc))
            rw [hY]
            have HMID : Hid (VMidK wr o (.pointer (some ⟨Da.heap.size, 0, none⟩)) ev Y) := by rw [← hY]; exact vmidk_mk (z := .mk zn zm zsA zsc zss zcA zcc zcs zvA zvc zvs) qp hpb HZI.out HZE.out HB.out
            replace HB : Hid (Below wr.heap.size wr Y) := by rw [← hY]; exact set5_bel HB.out hpb
            refine hK.out _ _ ?_ (fun hHeld => ?_)
            · exact HK.out _ HB.out
            clear hK K
            refine V4.takeH 11 13 (v := ?t22_v) rfl rfl (by kernel_rfl) (by kernel_rfl) (by kernel_rfl) (fun _ _ _ h => h) (Or.inl ⟨by rfl, ?t22_h⟩) (by assumption) ?t22_r
            case t22_h => (intro w hSw; (try dsimp only at hSw); go_simp; try (with_reducible rfl))
            simp only [List.set_cons_zero, List.set_cons_succ]
            refine wpAnyH_done (by kernel_rfl) ?_ _
            refine NoPanic.normal ?_
            go_wp2_with fail
            go_meet
            exact HMID
        case n3_b =>
          go_simp
          obtain ⟨Dp, hDp⟩ : ∃ Dp, D.alloc (.cells #[.int .u64 0, .int .u64 0, .slice none 0 0, .slice none 0 0, .slice none 0 0] 32) = Dp := ⟨_, rfl⟩
          rw [hDp]
          have hbn : Below D.heap.size D Dp := by rw [← hDp]; exact allocB _ _
          have HPB : Hid (Blk Dp D.heap.size 32 #[.int .u64 0, .int .u64 0, .slice none 0 0, .slice none 0 0, .slice none 0 0]) := by rw [← hDp]; exact Blk.new _ _ _
          have hpb : wr.heap.size ≤ D.heap.size := HB.out.size
          replace HB : Hid (Below wr.heap.size wr Dp) := HB.out.trans (hbn.mono HB.out.size)
          clear hbn
          refine hK.out _ _ ?_ (fun hHeld => ?_)
          · exact HK.out _ HB.out
          clear hK K
          refine wpAnyH_ready (rs := [0]) (by kernel_rfl) (by simp) ?_
          refine AllReadyH.cons rfl (fun K hK => ?_) AllReadyH.nil
          go_simp
          go_wp2_with (go_at_call 16; refine (of_any 1 none 0 0 _).mono ?_; rintro e Dpa ⟨rfl, hbn⟩)
          replace HPB := Lib.hid (HPB.out.below hbn)
          replace HB : Hid (Below wr.heap.size wr Dpa) := HB.out.trans (hbn.mono HB.out.size)
          clear hbn
          refine hK.out _ _ ?_ (fun hHeld => ?_)
          · exact HK.out _ HB.out
          clear hK K
          refine wpAnyH_ready (rs := [1]) (by kernel_rfl) (by simp) ?_
          refine AllReadyH.cons rfl (fun K hK => ?_) AllReadyH.nil
          go_simp
          obtain ⟨Dpab, hDpab⟩ : ∃ Dpab, Dpa.alloc (.cells #[.int .i64 1, .slice none 0 0] 24) = Dpab := ⟨_, rfl⟩
          rw [hDpab]
          have hbn : Below Dpa.heap.size Dpa Dpab := by rw [← hDpab]; exact allocB _ _
          have HX1 : Hid (V4.Bxd Dpab Dpa.heap.size #[.int .i64 1, .slice none 0 0]) := by rw [← hDpab]; exact V4.Bxd.new
          replace HPB := Lib.hid (HPB.out.below hbn)
          replace HB : Hid (Below wr.heap.size wr Dpab) := HB.out.trans (hbn.mono HB.out.size)
          clear hbn
          refine hK.out _ _ ?_ (fun hHeld => ?_)
          · exact HK.out _ HB.out
          clear hK K
          refine wpAnyH_ready (rs := [2]) (by kernel_rfl) (by simp) ?_
          refine AllReadyH.cons rfl (fun K hK => ?_) AllReadyH.nil
          go_simp
          go_wp2_with (go_at_call 16; refine (of_any 4 (some ⟨Dpa.heap.size, 0, none⟩) 1 1 _).mono ?_; rintro e Dpabc ⟨rfl, hbn⟩)
          replace HX1 := Lib.hid (HX1.out.later hbn)
          replace HPB := Lib.hid (HPB.out.below hbn)
          replace HB : Hid (Below wr.heap.size wr Dpabc) := HB.out.trans (hbn.mono HB.out.size)
          clear hbn
          refine hK.out _ _ ?_ (fun hHeld => ?_)
          · exact HK.out _ HB.out
          clear hK K
          refine wpAnyH_ready (rs := [5]) (by kernel_rfl) (by simp) ?_
          refine AllReadyH.cons rfl (fun K hK => ?_) AllReadyH.nil
          go_simp
          have HLT : Hid (D.heap.size < Dpabc.heap.size) := HPB.out.lt
          go_wp2_with (go_at_call 15; refine (HJJ.out (Dpa.heap.size) _ HX1.out (HXI.out.1.later HB.out) (HXI.out.2.later HB.out)).mono ?_; rintro e Dpabcd hr; (obtain ⟨⟨zn, zm, zsA, zsc, zss, zcA, zcc, zcs, zvA, zvc, zvs⟩, ev, rfl, hzi, hbn, hze⟩ := retK_case hr; have HZE := Lib.hid hze; simp only [val_mk]; clear hr hze))
          replace HX1 := Lib.hid (HX1.out.later hbn)
          replace HPB := Lib.hid (HPB.out.below hbn)
          have HZI : Hid ((Vl.mk zn zm zsA zsc zss zcA zcc zcs zvA zvc zvs).Inp (fun b => b < Dpabcd.heap.size ∧ b ≠ D.heap.size) Dpabcd) := hzi.mono fun b hP => ⟨hP.2, fun e => by have := hP.1; have := HLT.out; omega⟩
          replace HB : Hid (Below wr.heap.size wr Dpabcd) := HB.out.trans (hbn.mono HB.out.size)
          clear hbn
          refine hK.out _ _ ?_ (fun hHeld => ?_)
          · exact HK.out _ HB.out
          clear hK K
          refine V4.takeH 6 78 (v := ?t23_v) rfl rfl (by kernel_rfl) (by kernel_rfl) (by kernel_rfl) (fun _ _ _ h => h) (Or.inl ⟨by rfl, ?t23_h⟩) (by assumption) ?t23_r
          case t23_h => (intro w hSw; (try dsimp only at hSw); go_simp; try (with_reducible rfl))
          simp only [List.set_cons_zero, List.set_cons_succ]
          refine V4.takeH 7 85 (v := ?t24_v) rfl rfl (by kernel_rfl) (by kernel_rfl) (by kernel_rfl) (fun _ _ _ h => h) (Or.inl ⟨by rfl, ?t24_h⟩) (by assumption) ?t24_r
          case t24_h => (intro w hSw; (try dsimp only at hSw); go_simp; try (with_reducible rfl))
          simp only [List.set_cons_zero, List.set_cons_succ]
          refine V4.takeH 8 86 (v := ?t25_v) rfl rfl (by kernel_rfl) (by kernel_rfl) (by kernel_rfl) (fun _ _ _ h => h) (Or.inl ⟨by rfl, ?t25_h⟩) (by assumption) ?t25_r
          case t25_h => (intro w hSw; (try dsimp only at hSw); go_simp; try (with_reducible rfl))
          simp only [List.set_cons_zero, List.set_cons_succ]
          have qp := HPB.out
          have d0 : Dpabcd.cell? ⟨D.heap.size, 0, none⟩ = some (.int .u64 0) := blk_cell qp 0 _ rfl
          have d1 : Dpabcd.cell? ⟨D.heap.size, 1, none⟩ = some (.int .u64 0) := blk_cell qp 1 _ rfl
          have d2 : Dpabcd.cell? ⟨D.heap.size, 2, none⟩ = some (.slice none 0 0) := blk_cell qp 2 _ rfl
          have d3 : Dpabcd.cell? ⟨D.heap.size, 3, none⟩ = some (.slice none 0 0) := blk_cell qp 3 _ rfl
          have d4 : Dpabcd.cell? ⟨D.heap.size, 4, none⟩ = some (.slice none 0 0) := blk_cell qp 4 _ rfl
          have f0 := blk_frozen qp 0
          have f1 := blk_frozen qp 1
          have f2 := blk_frozen qp 2
          have f3 := blk_frozen qp 3
          have f4 := blk_frozen qp 4
          refine wpAnyH_ready (rs := [10]) (by kernel_rfl) (by simp) ?_
          refine AllReadyH.cons rfl (fun K hK => ?_) AllReadyH.nil
          go_simp
          obtain ⟨Y, hY⟩ : ∃ Y, set5 Dpabcd (D.heap.size) (.int .u64 zn) (.int .u64 zm) (.slice zsA zss.length zsc) (.slice zcA zcs.length zcc) (.slice zvA zvs.length zvc) = Y := ⟨_, rfl⟩
          change K _ (set5 Dpabcd (D.heap.size) (.int .u64 zn) (.int .u64 zm) (.slice zsA zss.length zsc) (.slice zcA zcs.length zcc) (.slice zvA zvs.length zvc))
          rw [hY]
          have HMID : Hid (VMidK wr o (.pointer (some ⟨D.heap.size, 0, none⟩)) ev Y) := by rw [← hY]; exact vmidk_mk (z := .mk zn zm zsA zsc zss zcA zcc zcs zvA zvc zvs) qp hpb HZI.out HZE.out HB.out
          replace HB : Hid (Below wr.heap.size wr Y) := by rw [← hY]; exact set5_bel HB.out hpb
          refine hK.out _ _ ?_ (fun hHeld => ?_)
          · exact HK.out _ HB.out
          clear hK K
          refine V4.takeH 11 13 (v := ?t26_v) rfl rfl (by kernel_rfl) (by kernel_rfl) (by kernel_rfl) (fun _ _ _ h => h) (Or.inl ⟨by rfl, ?t26_h⟩) (by assumption) ?t26_r
          case t26_h => (intro w hSw; (try dsimp only at hSw); go_simp; try (with_reducible rfl))
          simp only [List.set_cons_zero, List.set_cons_succ]
          refine wpAnyH_done (by kernel_rfl) ?_ _
          refine NoPanic.normal ?_
          go_wp2_with fail
          go_meet
          exact HMID
      obtain ⟨pb, z, rfl, rfl, _, Xv, hze, IV, bW2⟩ := hcut.out.ok K1.out
      obtain ⟨zn, zm, zsA, zsc, zss, zcA, zcc, zcs, zvA, zvc, zvs⟩ := z
      simp only [V4.Vl.n, V4.Vl.m, V4.Vl.s1, V4.Vl.c1, V4.Vl.v1] at Xv
      have HSA : Hid (decide ((Vl.mk zn zm zsA zsc zss zcA zcc zcs zvA zvc zvs).er = (Vl.mk 0 0 Az cz sz none 0 [] Bz dz vz).er) = true) := decide_eq_true (hze.trans EZ'.out.symm)
      obtain ⟨W2, hW2⟩ : ∃ W2, wc = W2 := ⟨_, rfl⟩
      rw [hW2] at Xv IV bW2
      rw [hW2]
      clear hW2 hcut hze K1 HJJ Xx Xy IX IY
      replace Xz := Xz.later bW2
      replace IZ := IZ.later bW2
      have HCA := Lib.hid (V4.refSameV_any (Vl.mk zn zm zsA zsc zss zcA zcc zcs zvA zvc zvs) (Vl.mk 0 0 Az cz sz none 0 [] Bz dz vz) W2 IV IZ)
      rw [HSA.out] at HCA
      have l0 : W2.cell? ⟨pb, 0, none⟩ = some (.int .u64 zn) := Xv.2 0 _ rfl
      have l1 : W2.cell? ⟨pb, 1, none⟩ = some (.int .u64 zm) := Xv.2 1 _ rfl
      have l2 : W2.cell? ⟨pb, 2, none⟩ = some (.slice zsA zss.length zsc) := Xv.2 2 _ rfl
      have l3 : W2.cell? ⟨pb, 3, none⟩ = some (.slice zcA zcs.length zcc) := Xv.2 3 _ rfl
      have l4 : W2.cell? ⟨pb, 4, none⟩ = some (.slice zvA zvs.length zvc) := Xv.2 4 _ rfl
      have m0 : W2.cell? ⟨W0.heap.size + 1 + 1, 0, none⟩ = some (.int .u64 0) := Xz.2 0 _ rfl
      have m1 : W2.cell? ⟨W0.heap.size + 1 + 1, 1, none⟩ = some (.int .u64 0) := Xz.2 1 _ rfl
      have m2 : W2.cell? ⟨W0.heap.size + 1 + 1, 2, none⟩ = some (.slice Az sz.length cz) := Xz.2 2 _ rfl
      have m3 : W2.cell? ⟨W0.heap.size + 1 + 1, 3, none⟩ = some (.slice none 0 0) := Xz.2 3 _ rfl
      have m4 : W2.cell? ⟨W0.heap.size + 1 + 1, 4, none⟩ = some (.slice Bz vz.length dz) := Xz.2 4 _ rfl
      go_wp2_with fail
      refine HCA.out.mono ?_
      rintro e W3 ⟨rfl, bW3⟩
      go_wp2_with fail
      go_ret
      exact ⟨rfl, (Bwr.trans (bW2.mono Bwr.size)).trans (bW3.mono (Bwr.trans (bW2.mono Bwr.size)).size)⟩
end Go.Proofs.YtleejffjnknohaaGreat.J5

namespace Go.Proofs.YtleejffjnknohaaGreat
open Go.ChangeShapes Go.WideShapes Go.ChangeAt Go.RowKit

theorem u8_in {n : Int} (h : (Lit.int .u8 n).wf = true) : 0 ≤ n ∧ n ≤ 255 := by
  simp [Lit.wf] at h
  have e1 : IntKind.u8.min = 0 := by decide
  have e2 : IntKind.u8.max = 255 := by decide
  omega

theorem open_u8s {H : Type} {enc : TypeId × Value → H} {W : World} {a0 : Option Addr} {len0 cap0 : Nat} {d0 : DataW H} {p0 : List MemPlace}
    (h0 : DataW.Trod enc Tryz.prog W 0 (fun _ => true) true 45 (.slice a0 len0 cap0) d0 p0) : ∃ bs : List Int, bs.length = len0 ∧ len0 ≤ 9223372036854775807 ∧ (∀ x ∈ bs, 0 ≤ x ∧ x ≤ 255) ∧ J5.LiesU W a0 bs := by
  obtain ⟨fuel, hf⟩ := h0
  rcases open_ints Tryz.underlying45 Tryz.underlying5 (by kernel_rfl) hf with ⟨hcs, _⟩ | ⟨x, l, c, zs, hcs, _, hl, hm, hz, _, hcell, hws⟩
  · simp [Value.cells] at hcs
    obtain ⟨rfl, rfl, rfl⟩ := hcs
    exact ⟨[], rfl, by omega, (fun x hx => by cases hx), .inl rfl⟩
  · simp [Value.cells] at hcs
    obtain ⟨rfl, rfl, rfl⟩ := hcs
    rw [if_pos rfl] at hz
    refine ⟨zs.take len0, by simp; omega, by unfold maxLen at hm; omega, fun x hx => u8_in (hws x (List.mem_of_mem_take hx)), ?_⟩
    by_cases hpos : len0 = 0
    · subst hpos
      exact .inl (by simp)
    · obtain ⟨b, off, spot⟩ := x
      have hspot : spot = none := by simpa [Addr.add] using World.cell?_spot (hcell 0 (by omega))
      subst hspot
      have hb : b < W.heap.size := World.block_lt_of_cell? W _ (by simpa [Addr.add] using hcell 0 (by omega))
      refine .inr ⟨b, off, rfl, hb, fun i y hy => ?_⟩
      have hi : i < len0 ∧ zs[i]? = some y := by
        rw [List.getElem?_take] at hy
        split at hy
        · exact ⟨‹_›, hy⟩
        · cases hy
      have hc := hcell i (by omega)
      rw [Addr.add_lit] at hc
      rw [hc]
      simp [List.getD, hi.2]

set_option maxRecDepth 100000 in
theorem joinMaps_lifted (os : Os) (started : os.Started) (H : Type) (enc : TypeId × Value → H) :
    ReturnsInHanded {} Tryz.checked os 6 .any (Rows.joinMapsSpec.pre6 enc Tryz.prog Tryz.f6 Rows.joinMapsRow.domain false) (Rows.joinMapsSpec.post enc Tryz.prog Tryz.f6 false true false false) := by
  refine returnsInHanded_of_change (C := Tryz.checked) (by kernel_rfl) started (by kernel_rfl) Tryz.func6
    (ChangeSpec.witness6 (enc := enc) (C := Tryz.checked) false ⟨#[], #[.slice none 0 0, .slice none 0 0], []⟩ 8 (by kernel_rfl) (by kernel_rfl) (by kernel_rfl) (by kernel_rfl)) ?_
  intro W base args ds gs before hval0 hW _ _
  have hval : ∀ (j : Nat) t v, Tryz.f6.params[j]? = some t → args[j]? = some v → Value.okWide Tryz.prog W .any base t v := hval0
  have hW' := hW
  obtain ⟨p, q, hA0, hV, rfl, _, _⟩ := hW
  have hA : DataW.TrodAll enc Tryz.prog W 0 (fun _ => true) true Tryz.f6.params.toList args.toList ds p := hA0
  rw [Tryz.params6] at hA hval
  obtain ⟨v0, vs0, d0, ds0, p0, q0, hargs, rfl, rfl, h0, r0⟩ := trodAll_cons hA
  obtain ⟨v1, vs1, d1, ds1, p1, q1, rfl, rfl, rfl, h1, r1⟩ := trodAll_cons r0
  obtain ⟨rfl, rfl, rfl⟩ := trodAll_nil r1
  obtain rfl : args = #[v0, v1] := by cases args; simp_all
  obtain ⟨rfl, rfl⟩ := trodVars_none hV
  have lt0 : ∀ x ∈ p0, x.block < W.heap.size := by obtain ⟨m, hm⟩ := h0; exact DataW.trod_lt m _ _ _ hm
  have lt1 : ∀ x ∈ p1, x.block < W.heap.size := by obtain ⟨m, hm⟩ := h1; exact DataW.trod_lt m _ _ _ hm
  obtain ⟨a0, len0, cap0, rfl⟩ := okWide_slice Tryz.underlying45 (hval 0 45 v0 rfl rfl)
  obtain ⟨a1, len1, cap1, rfl⟩ := okWide_slice Tryz.underlying45 (hval 1 45 v1 rfl rfl)
  obtain ⟨x0, rfl, hl0, hb0, l0⟩ := open_u8s h0
  obtain ⟨x1, rfl, hl1, hb1, l1⟩ := open_u8s h1
  clear hA0 hval0
  simp only [List.append_nil] at hW'
  refine (J5.joinMaps_all a0 a1 cap0 cap1 x0 x1 W l0 l1 hb0 hb1 hl0 hl1).mono fun e W' ⟨he, bel⟩ => ?_
  subst he
  exact ⟨_, rfl, _, _, _, [], _, [], hW', trodAll_mk1 (shut_bool Tryz.underlying4 _), (trodAll_cons_mk (Below.trod (by kernel_rfl) (by kernel_rfl) (of_decide_eq_true (by kernel_rfl)) h0 bel lt0) (trodAll_cons_mk (Below.trod (by kernel_rfl) (by kernel_rfl) (of_decide_eq_true (by kernel_rfl)) h1 bel lt1) trodAll_mk0)), rfl, bel.frame _, fun h => by cases h⟩

theorem joinMaps_holds : Rows.JoinMapsSaid :=
  OpenClaim.holds_of_wide 6 Tryz.f6 rfl rfl rfl rfl rfl rfl rfl ⟨rfl, rfl, rfl, rfl, rfl⟩ rfl rfl rfl rfl rfl (by kernel_rfl) Tryz.func6 (by kernel_rfl)
    (of_decide_eq_true (by kernel_rfl)) (by unfold Func.isWrapper; first | (rw [if_pos (by decide +kernel)]; kernel_rfl) | (rw [if_neg (by decide +kernel)]; exact ⟨rfl, rfl⟩))
    (fun os started H enc _ => joinMaps_lifted os started H enc)
end Go.Proofs.YtleejffjnknohaaGreat
