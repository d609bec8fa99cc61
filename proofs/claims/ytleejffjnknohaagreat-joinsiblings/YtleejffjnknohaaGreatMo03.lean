/- What the reference's short and has do. No condition but that the texts lie in memory. What the reference's fits does. No condition but that the value lies in memory. What the reference's functions on schemas do: arity, deep, isSchema. No condition but that the schema lies in memory. What the reference's deep does. No condition but that the schema lies in memory. What the reference's isSchema does. No condition but that the schema lies in memory. What the reference's SameSchema does. No condition but that the schemas lie in memory. What the reference's Cause, Level, IsSchema, Deep do. No condition but that the schema lies in memory. What the reference's Bottom and None do. No condition but that what they take lies in memory. -/
import Derived.Test.YtleejffjnknohaaGreatMo02
import Derived.Test.YtleejffjnknohaaGreatMo01
import Derived.StillTailTactics
namespace Go.Proofs.YtleejffjnknohaaGreat.V4
open Go.RowKit
open C3 (Tk Asc isC ofC cmpC Nok In belAl allocB drewB RetT)

/-- No text of more than 16 bytes. -/
def shortV (ss : List Str) : Bool := ss.all fun s => decide (s.length ≤ 16)

theorem S_size (x : Str) : (S x).size = x.length := by simp [S, ByteArray.size]

/-- Has a value no parts but these? By its numbers and its lists' lengths. -/
def hasN (n m : Int) (a b d : Nat) (p q r s t : Bool) : Bool := (p || decide (n = 0)) && ((q || decide (m = 0)) && ((r || decide (a = 0)) && ((s || decide (b = 0)) && (t || decide (d = 0)))))

end Go.Proofs.YtleejffjnknohaaGreat.V4

namespace Go.Proofs.YtleejffjnknohaaGreat.V4
open Go.RowKit
open C3 (Tk Asc isC ofC cmpC Nok In belAl allocB drewB RetT)

def hasV (x : Va) (p q r s t : Bool) : Bool := hasN x.n x.m x.s.length x.c.length x.v.length p q r s t

/-- Has a value the parts that its kind has, whatever is in them? -/
def fitsV (k : Int) (x : Va) : Bool :=
  if k = 1 then hasV x true false false false false
  else if k = 2 then hasV x true false false false false && decide (x.n ≤ 1)
  else if k = 3 then hasV x false false true false false && shortV x.s
  else if k = 4 then hasV x false false true false true && (shortV x.s && decide (x.s.length = x.v.length))
  else if k = 5 then hasV x false false false false true && decide (x.v.length = 2)
  else if k = 6 then (if x.s.length = 0 then hasV x false false false false false else hasV x true true true false false && (decide (x.s.length = 1) && (shortV x.s && (decide (x.n ≠ 0) || (decide (x.m ≠ 0) || decide (x.s ≠ [[]]))))))
  else if k = 7 then hasV x false false false true false && decide (x.c.length ≤ 1)
  else hasV x false false false true true && decide (x.c.length = x.v.length)

theorem fits_1 (n m : Int) (s : List Str) (c : List (List Tk)) (v : List Va) : fitsV 1 (.mk n m s c v) = (hasN n m s.length c.length v.length true false false false false) := by unfold fitsV; rw [if_pos rfl]; rfl
theorem fits_2 (n m : Int) (s : List Str) (c : List (List Tk)) (v : List Va) : fitsV 2 (.mk n m s c v) = (hasN n m s.length c.length v.length true false false false false && decide (n ≤ 1)) := by unfold fitsV; rw [if_neg (by decide), if_pos rfl]; rfl
theorem fits_3 (n m : Int) (s : List Str) (c : List (List Tk)) (v : List Va) : fitsV 3 (.mk n m s c v) = (hasN n m s.length c.length v.length false false true false false && shortV s) := by unfold fitsV; rw [if_neg (by decide), if_neg (by decide), if_pos rfl]; rfl
theorem fits_4 (n m : Int) (s : List Str) (c : List (List Tk)) (v : List Va) : fitsV 4 (.mk n m s c v) = (hasN n m s.length c.length v.length false false true false true && (shortV s && decide (s.length = v.length))) := by unfold fitsV; rw [if_neg (by decide), if_neg (by decide), if_neg (by decide), if_pos rfl]; rfl
theorem fits_5 (n m : Int) (s : List Str) (c : List (List Tk)) (v : List Va) : fitsV 5 (.mk n m s c v) = (hasN n m s.length c.length v.length false false false false true && decide (v.length = 2)) := by unfold fitsV; rw [if_neg (by decide), if_neg (by decide), if_neg (by decide), if_neg (by decide), if_pos rfl]; rfl
theorem fits_6 (n m : Int) (s : List Str) (c : List (List Tk)) (v : List Va) : fitsV 6 (.mk n m s c v) = (if s.length = 0 then hasN n m s.length c.length v.length false false false false false else hasN n m s.length c.length v.length true true true false false && (decide (s.length = 1) && (shortV s && (decide (n ≠ 0) || (decide (m ≠ 0) || decide (s ≠ [[]])))))) := by unfold fitsV; rw [if_neg (by decide), if_neg (by decide), if_neg (by decide), if_neg (by decide), if_neg (by decide), if_pos rfl]; rfl
theorem fits_7 (n m : Int) (s : List Str) (c : List (List Tk)) (v : List Va) : fitsV 7 (.mk n m s c v) = (hasN n m s.length c.length v.length false false false true false && decide (c.length ≤ 1)) := by unfold fitsV; rw [if_neg (by decide), if_neg (by decide), if_neg (by decide), if_neg (by decide), if_neg (by decide), if_neg (by decide), if_pos rfl]; rfl

theorem fits_ne {n m : Int} (k : Int) {s : List Str} {c : List (List Tk)} {v : List Va} (h1 : k ≠ 1) (h2 : k ≠ 2) (h3 : k ≠ 3) (h4 : k ≠ 4) (h5 : k ≠ 5) (h6 : k ≠ 6) (h7 : k ≠ 7) : fitsV k (.mk n m s c v) = (hasN n m s.length c.length v.length false false false true true && decide (c.length = v.length)) := by
  unfold fitsV hasV
  rw [if_neg h1, if_neg h2, if_neg h3, if_neg h4, if_neg h5, if_neg h6, if_neg h7]
  rfl

end Go.Proofs.YtleejffjnknohaaGreat.V4

namespace Go.Proofs.YtleejffjnknohaaGreat.S2
open Go.RowKit

set_option maxHeartbeats 400000 in
theorem arity_any (k : Int) (w : World) : Calls Tryz.prog 79 #[.int .i64 k] w fun e w' => e = .returned (.int .i64 (arI k)) ∧ w = w' := by
  by_cases h0 : k = 1 ∨ k = 2 ∨ k = 3 ∨ k = 6 ∨ k = 7
  · rcases h0 with rfl | rfl | rfl | rfl | rfl
    all_goals
      go_enter Tryz.func79, Tryz.ntmps79
      go_wp2
      go_ret
      exact ⟨ret_int (by decide), rfl⟩
  · by_cases h1 : k = 4 ∨ k = 8
    · rcases h1 with rfl | rfl
      all_goals
        go_enter Tryz.func79, Tryz.ntmps79
        go_wp2
        go_ret
        exact ⟨ret_int (by decide), rfl⟩
    · by_cases h2 : k = 5
      · subst h2
        go_enter Tryz.func79, Tryz.ntmps79
        go_wp2
        go_ret
        exact ⟨ret_int (by decide), rfl⟩
      · have HA : Hid (arI k = -1) := by show arI k = -1; unfold arI; rw [if_neg h0, if_neg h1, if_neg h2]
        have e1 : k ≠ 1 := fun h => h0 (by simp [h])
        have e2 : k ≠ 2 := fun h => h0 (by simp [h])
        have e3 : k ≠ 3 := fun h => h0 (by simp [h])
        have e6 : k ≠ 6 := fun h => h0 (by simp [h])
        have e7 : k ≠ 7 := fun h => h0 (by simp [h])
        have e4 : k ≠ 4 := fun h => h1 (by simp [h])
        have e8 : k ≠ 8 := fun h => h1 (by simp [h])
        clear h0 h1
        go_enter Tryz.func79, Tryz.ntmps79
        go_wp2
        go_ret
        exact ⟨ret_int HA.out.symm, rfl⟩

end Go.Proofs.YtleejffjnknohaaGreat.S2

namespace Go.Proofs.YtleejffjnknohaaGreat.S2
open Go.RowKit

end Go.Proofs.YtleejffjnknohaaGreat.S2

namespace Go.Proofs.YtleejffjnknohaaGreat.S2
open Go.RowKit

theorem arity_quiet (k : Int) (w : World) (n : Nat) : Calls Tryz.prog 79 #[.int .i64 k] (w.drewN n) fun e w' => e = .returned (.int .i64 (arI k)) ∧ ∃ m, w' = w.drewN m :=
  (arity_any k _).mono fun _ _ ⟨h1, h2⟩ => ⟨h1, n, h2.symm⟩

theorem isT_succ (n : Nat) (k : Int) (A : Option Addr) (c : Nat) (l : List Sc) : isT (n + 1) (Sc.mk k A c l).er = (decide ((l.length : Int) = arI k) && l.all fun x => isT n x.er) := by
  rw [isT, er_ins, er_k]
  simp only [Sc.ins, Sc.k, List.length_map, List.all_map]
  rfl

theorem all_take_succ {p : Sc → Bool} {l : List Sc} {k : Nat} {x : Sc} (h0 : (l.take k).all p = true) (hx : l[k]? = some x) (h : p x = true) : (l.take (k + 1)).all p = true := by
  obtain ⟨hk, he⟩ := List.getElem?_eq_some_iff.1 hx
  rw [List.take_succ_eq_append_getElem hk, he, List.all_append, h0]
  simp [h]
theorem all_miss {p : Sc → Bool} {l : List Sc} {k : Nat} {x : Sc} (hx : l[k]? = some x) (h : p x = false) : l.all p = false := by
  rw [List.all_eq_false]
  exact ⟨x, List.mem_of_getElem? hx, by simp [h]⟩

set_option maxHeartbeats 400000 in
theorem refis_any (n : Nat) (hn : n ≤ 1000) : ∀ (N : Int) (s : Sc) (w : World), N = n → s.In w.heap.size w →
    Calls Tryz.prog 49 #[s.val, .int .i64 N] w (RetV w (.bool (isT n s.er))) := by
  induction n with
  | zero =>
    rintro N ⟨k, A, c, l⟩ w rfl -
    simp only [val_mk]
    go_enter Tryz.func49, Tryz.ntmps49
    go_wp2_with fail
    go_quiet (fail)
    go_wp2_with fail
    go_ret
    exact ⟨rfl, below_drewN (allocB _ _) _⟩
  | succ n ih =>
    rintro N ⟨k0, A, c, l⟩ w hN hin
    have hN0 : 0 < N := by omega
    have hN1 : N ≤ 1000 := by omega
    have HN : Hid (N - 1 = n) := by show N - 1 = n; omega
    clear hN
    obtain ⟨hl, hlc, hc32, hall⟩ := hin.out
    clear hin
    have IH := Lib.hid (ih (by omega))
    have HALL := Lib.hid hall
    clear ih hall
    have hdec : decide (N ≤ 0) = false := decide_eq_false (by omega)
    simp only [val_mk]
    rw [isT_succ]
    by_cases har : (l.length : Int) = arI k0
    · rw [decide_eq_true har, Bool.true_and]
      go_enter Tryz.func49, Tryz.ntmps49
      go_wp2_with fail
      go_quiet ((go_at_call 79; exact arity_quiet _ _ _))
      go_wp2_with fail
      clear har hdec
      have hbw0 : Below w.heap.size w ((w.alloc (.cells #[.int .i64 k0, .slice A l.length c] 24)).drewN nq) := below_drewN (allocB _ _) _
      go_loopw [5] (fun iv wr => ∃ (k : Nat), k ≤ l.length ∧ iv = .int .i64 k ∧ Hid ((l.take k).all (fun x => isT n x.er) = true) ∧ Below w.heap.size w wr ∧ wr.cell? ⟨w.heap.size, 1, none⟩ = some (.slice A l.length c) ∧ w.heap.size < wr.heap.size) (fun iv _ => l.length - (intOf iv).toNat)
      case atStart => exact ⟨0, Nat.zero_le _, rfl, by simp [Hid], hbw0, by simp, by simp⟩
      case round =>
        obtain ⟨k, hk, rfl, h0, hbw, hbox, hsz⟩ := hrel
        clear hbw0
        by_cases hlt : k < l.length
        · obtain ⟨b, off, rfl, hb, hc⟩ := (hl.below hbw).get hlt
          obtain ⟨x, hx⟩ : ∃ x, l[k]? = some x := ⟨_, List.getElem?_eq_getElem hlt⟩
          obtain ⟨hc0, hc1⟩ := hc k x hx
          have hxin : x.In wr.heap.size wr := ((HALL.out x (List.mem_of_getElem? hx)).later hbw)
          have HX := Lib.hid hx
          clear hx hc hl
          obtain ⟨xk, xA, xc, xl⟩ := x
          simp only [Sc.v1, Sc.k] at hc0 hc1
          obtain ⟨q, hq⟩ : ∃ q, isT n (Sc.mk xk xA xc xl).er = q := ⟨_, rfl⟩
          have HQ := Lib.hid hq
          go_wp2_with fail
          refine (IH.out _ (.mk xk xA xc xl) wr HN.out hxin).mono ?_
          rintro e w' ⟨rfl, hb2⟩
          rw [hq]
          clear hq
          have hbox2 := (hb2.cell (p := ⟨w.heap.size, 1, none⟩) hsz).trans hbox
          cases q with
          | false =>
            go_wp2_with fail
            go_ret
            exact ⟨ret_bool (all_miss HX.out HQ.out).symm, hbw.trans (hb2.mono hbw.size)⟩
          | true =>
            go_wp2_with fail
            go_roundw
            case rel => exact ⟨k + 1, by omega, by go_num, all_take_succ h0.out HX.out HQ.out, hbw.trans (hb2.mono hbw.size), hbox2, Nat.lt_of_lt_of_le hsz hb2.size⟩
            case measure => simp [intOf]; omega
        · go_wp2_with fail
          go_ret
          exact ⟨ret_bool (by have := h0.out; rw [List.take_of_length_le (by omega)] at this; exact this.symm), hbw⟩
    · rw [decide_eq_false har, Bool.false_and]
      go_enter Tryz.func49, Tryz.ntmps49
      go_wp2_with fail
      go_quiet ((go_at_call 79; exact arity_quiet _ _ _))
      go_wp2_with fail
      go_ret
      exact ⟨rfl, below_drewN (allocB _ _) _⟩
end Go.Proofs.YtleejffjnknohaaGreat.S2

namespace Go.Proofs.YtleejffjnknohaaGreat.S2
open Go.RowKit

end Go.Proofs.YtleejffjnknohaaGreat.S2

namespace Go.Proofs.YtleejffjnknohaaGreat.S2
open Go.RowKit

/-- The cells that hold the schemas. -/
def cellsS (xs : List Sc) : List Value := xs.flatMap fun x => [.int .i64 x.k, x.v1]

theorem cellsS_append (xs ys : List Sc) : cellsS (xs ++ ys) = cellsS xs ++ cellsS ys := by simp [cellsS]

theorem cellsS_at {xs : List Sc} {i : Nat} {x : Sc} (h : xs[i]? = some x) : (cellsS xs)[i * 2]? = some (.int .i64 x.k) ∧ (cellsS xs)[i * 2 + 1]? = some x.v1 := by
  induction xs generalizing i with
  | nil => simp at h
  | cons y xs ih =>
    cases i with
    | zero => simp at h; subst h; simp [cellsS]
    | succ i =>
      have := ih (i := i) (by simpa using h)
      have e : (i + 1) * 2 = i * 2 + 1 + 1 := by omega
      rw [e]
      simpa [cellsS] using this

theorem results_cellS {fn : Func} {p : Tmp} (h : fn.results = #[.cell p 24]) (tmps : Array Value) (w : World) (g : Nat) (v0 v1 : Value) (hp : tmps.getD p undef = .pointer (some ⟨g, 0, none⟩))
    (h0 : w.cell? ⟨g, 0, none⟩ = some v0) (h1 : w.cell? ⟨g, 1, none⟩ = some v1) : (results fn tmps).run Tryz.prog w = .ok (.agg #[v0, v1]) w := by
  have hp' : tmps[p]?.getD undef = .pointer (some ⟨g, 0, none⟩) := by simpa using hp
  simp [results, h, hp', asAddr]
  go_simp

theorem belAl {w w' : World} {o : Obj} (h : Below w.heap.size w w') : Below w.heap.size w (w'.alloc o) := h.alloc h.size o
set_option maxHeartbeats 400000 in
theorem refIs_any : ∀ (s : Sc) (w : World), s.In w.heap.size w → Calls Tryz.prog 31 #[s.val] w (RetV w (.bool (isT 16 s.er))) := by
  rintro ⟨k0, A, c, l⟩ w hin
  have HIN := Lib.hid (hin.later (allocB w (.cells #[.int .i64 k0, .slice A l.length c] 24)))
  clear hin
  simp only [val_mk]
  go_enter Tryz.func31, Tryz.ntmps31
  go_wp2_with fail
  refine (callV (allocB w _) (refis_any 16 (by decide) 16 (.mk k0 A c l) _ rfl HIN.out)).mono ?_
  rintro e w' ⟨rfl, hb⟩
  go_wp2_with fail
  go_ret
  exact ⟨rfl, hb⟩

end Go.Proofs.YtleejffjnknohaaGreat.S2

namespace Go.Proofs.YtleejffjnknohaaGreat.V4
open Go.RowKit
open C3 (Tk Asc isC ofC cmpC Nok In belAl allocB drewB RetT)
open S2 (Tr Sc isT)

/-- The value by a schema that has nothing. -/
def botT : Tr → Va
  | .mk k [a, b] => if isT 16 (.mk k [a, b]) = true ∧ k = 5 then .mk 0 0 [] [] [botT a, botT b] else .zero
  | .mk _ _ => .zero

theorem botT_pair {a b : Tr} (h : isT 16 (.mk 5 [a, b]) = true) : botT (.mk 5 [a, b]) = .mk 0 0 [] [] [botT a, botT b] := by rw [botT, if_pos ⟨h, rfl⟩]
theorem botT_zero {t : Tr} (h : ¬ (isT 16 t = true ∧ t.k = 5)) : botT t = .zero := by
  obtain ⟨k, l⟩ := t
  match l with
  | [] => rw [botT]; simp
  | [x] => rw [botT]; simp
  | [a, b] => rw [botT]; exact if_neg h
  | x :: y :: z :: l => rw [botT]; simp

theorem isT_len {n : Nat} {k : Int} {l : List Tr} (h : isT n (.mk k l) = true) : (l.length : Int) = S2.arI k := by
  cases n with
  | zero => simp [isT] at h
  | succ n => rw [isT] at h; rw [Bool.and_eq_true] at h; exact of_decide_eq_true h.1

theorem two_of_len {α : Type} : ∀ {l : List α}, l.length = 2 → ∃ x y, l = [x, y]
  | [x, y], _ => ⟨x, y, rfl⟩

theorem inp_zero (P : Nat → Prop) (w : World) : (Vl.mk 0 0 none 0 [] none 0 [] none 0 []).Inp P w :=
  .mk _ _ _ _ _ _ _ _ _ _ _ (by omega) (by omega) .nil (by simp [maxLen]) (by simp) .nil (by simp [maxLen]) (by simp) .nil (by simp [maxLen]) (by simp)

theorem results_cellV {fn : Func} {p : Tmp} (h : fn.results = #[.cell p 32]) (tmps : Array Value) (w : World) (g : Nat) (v0 v1 v2 v3 v4 : Value) (hp : tmps.getD p undef = .pointer (some ⟨g, 0, none⟩))
    (h0 : w.cell? ⟨g, 0, none⟩ = some v0) (h1 : w.cell? ⟨g, 1, none⟩ = some v1) (h2 : w.cell? ⟨g, 2, none⟩ = some v2) (h3 : w.cell? ⟨g, 3, none⟩ = some v3) (h4 : w.cell? ⟨g, 4, none⟩ = some v4) : (results fn tmps).run Tryz.prog w = .ok (.agg #[v0, v1, v2, v3, v4]) w := by
  have hp' : tmps[p]?.getD undef = .pointer (some ⟨g, 0, none⟩) := by simpa using hp
  simp [results, h, hp', asAddr]
  go_simp

theorem refIsS_at (k : Int) (A : Option Addr) (c : Nat) (l : List Sc) (v : Bool) (w : World) (h : (Sc.mk k A c l).In w.heap.size w) (hv : isT 16 (Sc.mk k A c l).er = v) :
    Calls Tryz.prog 31 #[.agg #[.int .i64 k, .slice A l.length c]] w (RetV w (.bool v)) := hv ▸ S2.refIs_any _ w h

def cells5 (x : Vl) : List Value := [.int .u64 x.n, .int .u64 x.m, x.s1, x.c1, x.v1]

theorem bottom_end {w w3 w5 : World} {x y : Vl} {t : TypeId} (hx : x.Inp (fun b => w.heap.size + 2 ≤ b ∧ b < w3.heap.size) w3) (hy : y.Inp (fun b => w.heap.size + 2 ≤ b ∧ b < w3.heap.size) w3)
    (hz : w.heap.size + 2 ≤ w3.heap.size) (hs : w5.heap.size = w3.heap.size) (hk : ∀ b, w.heap.size + 2 ≤ b → w5.heap[b]? = w3.heap[b]?) (hb : Below w.heap.size w w5) :
    RetWN w (.mk 0 0 [] [] [x.er, y.er]) (.returned (.agg #[.int .u64 0, .int .u64 0, .slice none 0 0, .slice none 0 0, .slice (some ⟨w3.heap.size, 0, none⟩) 2 2])) (w5.alloc (.cells (cells5 x ++ cells5 y).toArray t)) := by
  have hk2 : ∀ b, w.heap.size + 2 ≤ b ∧ b < w3.heap.size → (w5.alloc (.cells (cells5 x ++ cells5 y).toArray t)).heap[b]? = w3.heap[b]? := fun b h => (Below.heap_alloc _ _ _ (by rw [hs]; exact h.2)).trans (hk b h.1)
  refine ⟨.mk 0 0 none 0 [] none 0 [] (some ⟨w3.heap.size, 0, none⟩) 2 [x, y], rfl, by rw [er_mk]; rfl, ?_, belAl hb⟩
  refine .mk _ _ _ _ _ _ _ _ _ _ _ (by omega) (by omega) .nil (by simp [maxLen]) (by simp) .nil (by simp [maxLen]) (by simp) (.inr ⟨w3.heap.size, 0, rfl, ⟨by omega, by rw [World.size_alloc]; omega⟩, fun i u hu => ?_⟩) (by simp [maxLen]) (fun z hz' => ?_)
  · have hu' : (cells5 x ++ cells5 y)[i]? = some u := by simpa [cellsV, cells5] using hu
    rw [← hs, World.cell?_alloc_mark, Nat.zero_add]
    simpa using hu'
  · have hz2 : z.Inp (fun b => w.heap.size + 2 ≤ b ∧ b < w3.heap.size) w3 := by
      rcases List.mem_cons.1 hz' with rfl | h'
      · exact hx
      · rw [List.mem_singleton.1 h']; exact hy
    exact (hz2.keep hk2).mono fun b hP => ⟨by omega, by rw [World.size_alloc]; omega⟩

set_option maxRecDepth 100000 in
set_option maxHeartbeats 2000000 in
theorem refBottom_any : ∀ (s : Sc) (w : World), s.In w.heap.size w → Calls Tryz.prog 33 #[s.val] w (RetWN w (botT s.er)) := by
  intro s
  induction s using S2.Sc.ind with
  | h k A c l ih =>
    intro w hin
    have HB0 : Hid (Below w.heap.size w ((w.alloc (.cells #[.int .i64 k, .slice A l.length c] 24)).alloc (.cells #[.int .u64 0, .int .u64 0, .slice none 0 0, .slice none 0 0, .slice none 0 0] 32))) := belAl (allocB _ _)
    have HIN := Lib.hid (hin.later HB0.out)
    have HI0 := Lib.hid hin
    have IH := Lib.hid ih
    clear hin ih
    obtain ⟨p, hp⟩ : ∃ p, isT 16 (Sc.mk k A c l).er = p := ⟨_, rfl⟩
    have HP := Lib.hid hp
    clear hp
    simp only [S2.val_mk]
    go_enter Tryz.func33, Tryz.ntmps33
    go_wp2_with fail
    refine (refIsS_at k A c l p _ HIN.out HP.out).mono ?_
    rintro e w1 ⟨rfl, hb1⟩
    have a0 : w1.cell? ⟨w.heap.size, 0, none⟩ = some (.int .i64 k) := (hb1.cell (p := ⟨w.heap.size, 0, none⟩) (by simp; omega)).trans (by go_simp)
    have a1 : w1.cell? ⟨w.heap.size, 1, none⟩ = some (.slice A l.length c) := (hb1.cell (p := ⟨w.heap.size, 1, none⟩) (by simp; omega)).trans (by go_simp)
    have b0 : w1.cell? ⟨w.heap.size + 1, 0, none⟩ = some (.int .u64 0) := (hb1.cell (p := ⟨w.heap.size + 1, 0, none⟩) (by simp)).trans (by go_simp)
    have b1 : w1.cell? ⟨w.heap.size + 1, 1, none⟩ = some (.int .u64 0) := (hb1.cell (p := ⟨w.heap.size + 1, 1, none⟩) (by simp)).trans (by go_simp)
    have b2 : w1.cell? ⟨w.heap.size + 1, 2, none⟩ = some (.slice none 0 0) := (hb1.cell (p := ⟨w.heap.size + 1, 2, none⟩) (by simp)).trans (by go_simp)
    have b3 : w1.cell? ⟨w.heap.size + 1, 3, none⟩ = some (.slice none 0 0) := (hb1.cell (p := ⟨w.heap.size + 1, 3, none⟩) (by simp)).trans (by go_simp)
    have b4 : w1.cell? ⟨w.heap.size + 1, 4, none⟩ = some (.slice none 0 0) := (hb1.cell (p := ⟨w.heap.size + 1, 4, none⟩) (by simp)).trans (by go_simp)
    have f0 : w1.frozen? ⟨w.heap.size + 1, 0, none⟩ = false := (hb1.frozen (p := ⟨w.heap.size + 1, 0, none⟩) (by simp)).trans (by go_simp)
    have f1 : w1.frozen? ⟨w.heap.size + 1, 1, none⟩ = false := (hb1.frozen (p := ⟨w.heap.size + 1, 1, none⟩) (by simp)).trans (by go_simp)
    have f2 : w1.frozen? ⟨w.heap.size + 1, 2, none⟩ = false := (hb1.frozen (p := ⟨w.heap.size + 1, 2, none⟩) (by simp)).trans (by go_simp)
    have f3 : w1.frozen? ⟨w.heap.size + 1, 3, none⟩ = false := (hb1.frozen (p := ⟨w.heap.size + 1, 3, none⟩) (by simp)).trans (by go_simp)
    have f4 : w1.frozen? ⟨w.heap.size + 1, 4, none⟩ = false := (hb1.frozen (p := ⟨w.heap.size + 1, 4, none⟩) (by simp)).trans (by go_simp)
    have hsz : w.heap.size + 1 < w1.heap.size := Nat.lt_of_lt_of_le (by simp) hb1.size
    have HB1 : Hid (Below w.heap.size w w1) := HB0.out.trans (hb1.mono HB0.out.size)
    have HI1 := Lib.hid (HIN.out.later hb1)
    clear hb1 HB0 HIN
    by_cases hc : p = true ∧ k = 5
    · obtain ⟨rfl, rfl⟩ := hc
      have hl2 : l.length = 2 := by
        have := isT_len (n := 16) (k := 5) (l := l.map Sc.er) (by rw [← S2.er_mk 5 A c]; exact HP.out)
        simp [S2.arI] at this
        omega
      obtain ⟨x, y, rfl⟩ := two_of_len hl2
      obtain ⟨-, -, -, hall⟩ := HI1.out.out
      obtain ⟨hl0, -, -, -⟩ := HI0.out.out
      have hll : S2.LiesS w.heap.size w1 A [x, y] := hl0.below HB1.out
      obtain ⟨b, off, rfl, hb, hcl⟩ := hll.get (k := 0) (by simp)
      have hbn : b ≠ w.heap.size + 1 := by omega
      have hbn' : w.heap.size + 1 ≠ b := by omega
      replace hb : b < w1.heap.size := by omega
      obtain ⟨c0, c1⟩ := hcl 0 x rfl
      obtain ⟨c2, c3⟩ := hcl 1 y rfl
      have HX := Lib.hid (hall x (by simp))
      have HY := Lib.hid (hall y (by simp))
      have IHX := Lib.hid (IH.out x (by simp))
      have IHY := Lib.hid (IH.out y (by simp))
      have HT : Hid (botT (Sc.mk 5 (some ⟨b, off, none⟩) c [x, y]).er = .mk 0 0 [] [] [botT x.er, botT y.er]) := by
        show botT _ = _
        have := HP.out
        rw [S2.er_mk] at this ⊢
        exact botT_pair this
      rw [HT.out]
      clear hll hl0 hall hcl IH hl2 HP HI0 HI1
      obtain ⟨xk, xA, xc, xl⟩ := x
      obtain ⟨yk, yA, yc, yl⟩ := y
      simp only [S2.Sc.v1, S2.Sc.k, Nat.zero_mul, Nat.add_zero, Nat.one_mul] at c0 c1 c2 c3
      simp only [S2.val_mk] at IHX IHY
      replace HX := Lib.hid (HX.out.later (drewB w1))
      replace HY := Lib.hid (HY.out.later (drewB w1))
      replace HB1 : Hid (Below w.heap.size w w1.drew) := HB1.out.drew
      simp only [List.length_cons, List.length_nil, Nat.zero_add, Nat.reduceAdd] at a1
      have hs0 : w.heap.size < w1.heap.size := by omega
      have hsn := Nat.ne_of_lt hsz
      go_wp2_with fail
      go_region_held3 (fun w' => w'.cell? ⟨w.heap.size, 1, none⟩ = some (.slice (some ⟨b, off, none⟩) 2 c) ∧ w'.cell? ⟨b, off, none⟩ = some (.int .i64 xk) ∧ w'.cell? ⟨b, off + 1, none⟩ = some (.slice xA xl.length xc) ∧ w'.cell? ⟨b, off + 2, none⟩ = some (.int .i64 yk) ∧ w'.cell? ⟨b, off + 2 + 1, none⟩ = some (.slice yA yl.length yc))
        (first
          | (with_reducible exact ⟨a1, c0, c1, c2, c3⟩)
          | (refine ⟨?_, ?_, ?_, ?_, ?_⟩ <;> go_simp))
        (first
          | (go_at_call 33; refine (IHX.out _ HX.out).mono ?_; rintro e w2 ⟨⟨pn, pm, psA, psc, pss, pcA, pcc, pcs, pvA, pvc, pvs⟩, rfl, hpe, hpi, hb2⟩; (simp only [val_mk]; have HPE := Lib.hid hpe; have HPI : Hid ((Vl.mk pn pm psA psc pss pcA pcc pcs pvA pvc pvs).Inp (fun b => w.heap.size + 2 ≤ b ∧ b < w2.heap.size) w2) := hpi.mono (fun b hP => ⟨Nat.le_trans hsz hP.1, hP.2⟩); replace HY := Lib.hid (HY.out.later hb2); clear hpe hpi HX IHX; replace a1 := (hb2.cell (p := ⟨w.heap.size, 1, none⟩) hs0).trans a1; replace c0 := (hb2.cell (p := ⟨b, off, none⟩) hb).trans c0; replace c1 := (hb2.cell (p := ⟨b, off + 1, none⟩) hb).trans c1; replace c2 := (hb2.cell (p := ⟨b, off + 2, none⟩) hb).trans c2; replace c3 := (hb2.cell (p := ⟨b, off + 2 + 1, none⟩) hb).trans c3; replace b0 := (hb2.cell (p := ⟨w.heap.size + 1, 0, none⟩) hsz).trans b0; replace b1 := (hb2.cell (p := ⟨w.heap.size + 1, 1, none⟩) hsz).trans b1; replace b2 := (hb2.cell (p := ⟨w.heap.size + 1, 2, none⟩) hsz).trans b2; replace b3 := (hb2.cell (p := ⟨w.heap.size + 1, 3, none⟩) hsz).trans b3; replace b4 := (hb2.cell (p := ⟨w.heap.size + 1, 4, none⟩) hsz).trans b4; replace f0 := (hb2.frozen (p := ⟨w.heap.size + 1, 0, none⟩) hsz).trans f0; replace f1 := (hb2.frozen (p := ⟨w.heap.size + 1, 1, none⟩) hsz).trans f1; replace f2 := (hb2.frozen (p := ⟨w.heap.size + 1, 2, none⟩) hsz).trans f2; replace f3 := (hb2.frozen (p := ⟨w.heap.size + 1, 3, none⟩) hsz).trans f3; replace f4 := (hb2.frozen (p := ⟨w.heap.size + 1, 4, none⟩) hsz).trans f4; replace hb : b < w2.heap.size := Nat.lt_of_lt_of_le hb hb2.size; replace hs0 : w.heap.size < w2.heap.size := Nat.lt_of_lt_of_le hs0 hb2.size; replace hsz : w.heap.size + 1 < w2.heap.size := Nat.lt_of_lt_of_le hsz hb2.size; replace hsn := Nat.ne_of_lt hsz; replace HB1 : Hid (Below w.heap.size w w2) := HB1.out.trans (hb2.mono HB1.out.size); clear hb2))
          | (go_at_call 33; refine (IHY.out _ HY.out).mono ?_; rintro e w3 ⟨⟨qn, qm, qsA, qsc, qss, qcA, qcc, qcs, qvA, qvc, qvs⟩, rfl, hqe, hqi, hb3⟩; (simp only [val_mk]; have HQE := Lib.hid hqe; have HQI : Hid ((Vl.mk qn qm qsA qsc qss qcA qcc qcs qvA qvc qvs).Inp (fun b => w.heap.size + 2 ≤ b ∧ b < w3.heap.size) w3) := hqi.mono (fun b hP => ⟨Nat.le_trans hsz hP.1, hP.2⟩); replace HPI : Hid ((Vl.mk pn pm psA psc pss pcA pcc pcs pvA pvc pvs).Inp (fun b => w.heap.size + 2 ≤ b ∧ b < w3.heap.size) w3) := (HPI.out.keep fun b hP => hb3.block b hP.2).mono (fun b hP => ⟨hP.1, Nat.lt_of_lt_of_le hP.2 hb3.size⟩); clear hqe hqi; replace a1 := (hb3.cell (p := ⟨w.heap.size, 1, none⟩) hs0).trans a1; replace c0 := (hb3.cell (p := ⟨b, off, none⟩) hb).trans c0; replace c1 := (hb3.cell (p := ⟨b, off + 1, none⟩) hb).trans c1; replace c2 := (hb3.cell (p := ⟨b, off + 2, none⟩) hb).trans c2; replace c3 := (hb3.cell (p := ⟨b, off + 2 + 1, none⟩) hb).trans c3; replace b0 := (hb3.cell (p := ⟨w.heap.size + 1, 0, none⟩) hsz).trans b0; replace b1 := (hb3.cell (p := ⟨w.heap.size + 1, 1, none⟩) hsz).trans b1; replace b2 := (hb3.cell (p := ⟨w.heap.size + 1, 2, none⟩) hsz).trans b2; replace b3 := (hb3.cell (p := ⟨w.heap.size + 1, 3, none⟩) hsz).trans b3; replace b4 := (hb3.cell (p := ⟨w.heap.size + 1, 4, none⟩) hsz).trans b4; replace f0 := (hb3.frozen (p := ⟨w.heap.size + 1, 0, none⟩) hsz).trans f0; replace f1 := (hb3.frozen (p := ⟨w.heap.size + 1, 1, none⟩) hsz).trans f1; replace f2 := (hb3.frozen (p := ⟨w.heap.size + 1, 2, none⟩) hsz).trans f2; replace f3 := (hb3.frozen (p := ⟨w.heap.size + 1, 3, none⟩) hsz).trans f3; replace f4 := (hb3.frozen (p := ⟨w.heap.size + 1, 4, none⟩) hsz).trans f4; replace hb : b < w3.heap.size := Nat.lt_of_lt_of_le hb hb3.size; replace hs0 : w.heap.size < w3.heap.size := Nat.lt_of_lt_of_le hs0 hb3.size; replace hsz : w.heap.size + 1 < w3.heap.size := Nat.lt_of_lt_of_le hsz hb3.size; replace hsn := Nat.ne_of_lt hsz; replace HB1 : Hid (Below w.heap.size w w3) := HB1.out.trans (hb3.mono HB1.out.size); clear hb3)))
      go_wp2_with fail
      refine bodyPost_ret (results_cellV rfl _ _ (w.heap.size + 1) (.int .u64 0) (.int .u64 0) (.slice none 0 0) (.slice none 0 0) (.slice (some ⟨w3.heap.size, 0, none⟩) 2 2) rfl (by go_simp) (by go_simp) (by go_simp) (by go_simp) (by go_simp)) rfl ?_
      rw [HT.out, ← HPE.out, ← HQE.out]
      exact bottom_end HPI.out HQI.out hsz (by simp) (fun b hbb => by
        rw [Below.heap_setCell _ _ _ _ (by show b ≠ w.heap.size + 1; omega), Below.heap_setCell _ _ _ _ (by show b ≠ w.heap.size + 1; omega), Below.heap_setCell _ _ _ _ (by show b ≠ w.heap.size + 1; omega), Below.heap_setCell _ _ _ _ (by show b ≠ w.heap.size + 1; omega), Below.heap_setCell _ _ _ _ (by show b ≠ w.heap.size + 1; omega)])
        (((((HB1.out.setCell (by simp) _).setCell (by simp) _).setCell (by simp) _).setCell (by simp) _).setCell (by simp) _)
    · have HT : Hid (botT (Sc.mk k A c l).er = .zero) := botT_zero (by rw [HP.out, S2.er_k]; exact hc)
      rw [HT.out]
      by_cases h5 : k = 5
      · subst h5
        obtain rfl : p = false := by cases p with | false => rfl | true => exact absurd ⟨rfl, rfl⟩ hc
        go_wp2_with fail
        refine bodyPost_ret (results_cellV rfl _ _ (w.heap.size + 1) (.int .u64 0) (.int .u64 0) (.slice none 0 0) (.slice none 0 0) (.slice none 0 0) rfl (by go_simp) (by go_simp) (by go_simp) (by go_simp) (by go_simp)) rfl ?_
        exact ⟨.mk 0 0 none 0 [] none 0 [] none 0 [], rfl, by rw [HT.out]; rfl, inp_zero _ _, ((((HB1.out.setCell (by simp) _).setCell (by simp) _).setCell (by simp) _).setCell (by simp) _).setCell (by simp) _⟩
      · have h5' : (k == 5) = false := by simp [h5]
        cases p
        all_goals
          go_wp2_with fail
          refine bodyPost_ret (results_cellV rfl _ _ (w.heap.size + 1) (.int .u64 0) (.int .u64 0) (.slice none 0 0) (.slice none 0 0) (.slice none 0 0) rfl (by go_simp) (by go_simp) (by go_simp) (by go_simp) (by go_simp)) rfl ?_
          exact ⟨.mk 0 0 none 0 [] none 0 [] none 0 [], rfl, by rw [HT.out]; rfl, inp_zero _ _, ((((HB1.out.setCell (by simp) _).setCell (by simp) _).setCell (by simp) _).setCell (by simp) _).setCell (by simp) _⟩

theorem refBottom_at (k : Int) (A : Option Addr) (c : Nat) (l : List Sc) (w : World) (h : (Sc.mk k A c l).In w.heap.size w) :
    Calls Tryz.prog 33 #[.agg #[.int .i64 k, .slice A l.length c]] w (RetWN w (botT (Sc.mk k A c l).er)) := refBottom_any _ w h

set_option maxRecDepth 100000 in
set_option maxHeartbeats 1000000 in
theorem refNone_any (s : Sc) (x : Vl) (w : World) (hs : s.In w.heap.size w) (hx : x.In w) : Calls Tryz.prog 22 #[s.val, x.val] w (RetV w (.bool (decide (x.er = botT s.er)))) := by
  obtain ⟨k, A, c, l⟩ := s
  obtain ⟨n, m, sA, sc, ss, cA, cc, cs, vA, vc, vs⟩ := x
  have HB0 : Hid (Below w.heap.size w ((w.alloc (.cells #[.int .i64 k, .slice A l.length c] 24)).alloc (.cells #[.int .u64 n, .int .u64 m, .slice sA ss.length sc, .slice cA cs.length cc, .slice vA vs.length vc] 32)).drew) := (belAl (allocB _ _)).drew
  have HS := Lib.hid (hs.later HB0.out)
  have HX := Lib.hid (hx.later HB0.out)
  clear hs hx
  obtain ⟨q, hq⟩ : ∃ q, decide ((Vl.mk n m sA sc ss cA cc cs vA vc vs).er = botT (Sc.mk k A c l).er) = q := ⟨_, rfl⟩
  have HQ := Lib.hid hq
  rw [hq]
  clear hq
  simp only [S2.val_mk, val_mk]
  go_enter Tryz.func22, Tryz.ntmps22
  go_wp2_with fail
  have a0 : ((w.alloc (.cells #[.int .i64 k, .slice A l.length c] 24)).alloc (.cells #[.int .u64 n, .int .u64 m, .slice sA ss.length sc, .slice cA cs.length cc, .slice vA vs.length vc] 32)).cell? ⟨w.heap.size, 0, none⟩ = some (.int .i64 k) := by go_simp
  have a1 : ((w.alloc (.cells #[.int .i64 k, .slice A l.length c] 24)).alloc (.cells #[.int .u64 n, .int .u64 m, .slice sA ss.length sc, .slice cA cs.length cc, .slice vA vs.length vc] 32)).cell? ⟨w.heap.size, 1, none⟩ = some (.slice A l.length c) := by go_simp
  have b0 : ((w.alloc (.cells #[.int .i64 k, .slice A l.length c] 24)).alloc (.cells #[.int .u64 n, .int .u64 m, .slice sA ss.length sc, .slice cA cs.length cc, .slice vA vs.length vc] 32)).cell? ⟨w.heap.size + 1, 0, none⟩ = some (.int .u64 n) := by go_simp
  have b1 : ((w.alloc (.cells #[.int .i64 k, .slice A l.length c] 24)).alloc (.cells #[.int .u64 n, .int .u64 m, .slice sA ss.length sc, .slice cA cs.length cc, .slice vA vs.length vc] 32)).cell? ⟨w.heap.size + 1, 1, none⟩ = some (.int .u64 m) := by go_simp
  have b2 : ((w.alloc (.cells #[.int .i64 k, .slice A l.length c] 24)).alloc (.cells #[.int .u64 n, .int .u64 m, .slice sA ss.length sc, .slice cA cs.length cc, .slice vA vs.length vc] 32)).cell? ⟨w.heap.size + 1, 2, none⟩ = some (.slice sA ss.length sc) := by go_simp
  have b3 : ((w.alloc (.cells #[.int .i64 k, .slice A l.length c] 24)).alloc (.cells #[.int .u64 n, .int .u64 m, .slice sA ss.length sc, .slice cA cs.length cc, .slice vA vs.length vc] 32)).cell? ⟨w.heap.size + 1, 3, none⟩ = some (.slice cA cs.length cc) := by go_simp
  have b4 : ((w.alloc (.cells #[.int .i64 k, .slice A l.length c] 24)).alloc (.cells #[.int .u64 n, .int .u64 m, .slice sA ss.length sc, .slice cA cs.length cc, .slice vA vs.length vc] 32)).cell? ⟨w.heap.size + 1, 4, none⟩ = some (.slice vA vs.length vc) := by go_simp
  generalize ((w.alloc (.cells #[.int .i64 k, .slice A l.length c] 24)).alloc (.cells #[.int .u64 n, .int .u64 m, .slice sA ss.length sc, .slice cA cs.length cc, .slice vA vs.length vc] 32)) = W0 at *
  have hs1 : w.heap.size + 1 < W0.heap.size := World.block_lt_of_cell? W0 _ b0
  have hs0 : w.heap.size < W0.heap.size := by omega
  go_region_held3 (fun w' => w'.cell? ⟨w.heap.size, 0, none⟩ = some (.int .i64 k) ∧ w'.cell? ⟨w.heap.size, 1, none⟩ = some (.slice A l.length c) ∧ w'.cell? ⟨w.heap.size + 1, 0, none⟩ = some (.int .u64 n) ∧ w'.cell? ⟨w.heap.size + 1, 1, none⟩ = some (.int .u64 m) ∧ w'.cell? ⟨w.heap.size + 1, 2, none⟩ = some (.slice sA ss.length sc) ∧ w'.cell? ⟨w.heap.size + 1, 3, none⟩ = some (.slice cA cs.length cc) ∧ w'.cell? ⟨w.heap.size + 1, 4, none⟩ = some (.slice vA vs.length vc))
    (first
      | exact ⟨a0, a1, b0, b1, b2, b3, b4⟩)
    (first
      | (go_at_call 33; refine (refBottom_at k A c l _ HS.out).mono ?_; rintro e w2 ⟨⟨pn, pm, psA, psc, pss, pcA, pcc, pcs, pvA, pvc, pvs⟩, rfl, hpe, hpi, hb2⟩; (simp only [val_mk]; have HPE := Lib.hid hpe; have HPI : Hid ((Vl.mk pn pm psA psc pss pcA pcc pcs pvA pvc pvs).In w2) := hpi.mono (fun b hP => hP.2); replace HX := Lib.hid (HX.out.later hb2); clear hpe hpi HS; replace a0 := (hb2.cell (p := ⟨w.heap.size, 0, none⟩) hs0).trans a0; replace a1 := (hb2.cell (p := ⟨w.heap.size, 1, none⟩) hs0).trans a1; replace b0 := (hb2.cell (p := ⟨w.heap.size + 1, 0, none⟩) hs1).trans b0; replace b1 := (hb2.cell (p := ⟨w.heap.size + 1, 1, none⟩) hs1).trans b1; replace b2 := (hb2.cell (p := ⟨w.heap.size + 1, 2, none⟩) hs1).trans b2; replace b3 := (hb2.cell (p := ⟨w.heap.size + 1, 3, none⟩) hs1).trans b3; replace b4 := (hb2.cell (p := ⟨w.heap.size + 1, 4, none⟩) hs1).trans b4; replace hs0 : w.heap.size < w2.heap.size := Nat.lt_of_lt_of_le hs0 hb2.size; replace hs1 : w.heap.size + 1 < w2.heap.size := Nat.lt_of_lt_of_le hs1 hb2.size; replace HB0 : Hid (Below w.heap.size w w2) := HB0.out.trans (hb2.mono HB0.out.size); clear hb2))
      | (go_at_call 14; refine (refSameV_any (.mk n m sA sc ss cA cc cs vA vc vs) (.mk pn pm psA psc pss pcA pcc pcs pvA pvc pvs) _ HX.out HPI.out).mono ?_; rintro e w3 ⟨rfl, hb2⟩; (rw [HPE.out, HQ.out]; replace a0 := (hb2.cell (p := ⟨w.heap.size, 0, none⟩) hs0).trans a0; replace a1 := (hb2.cell (p := ⟨w.heap.size, 1, none⟩) hs0).trans a1; replace b0 := (hb2.cell (p := ⟨w.heap.size + 1, 0, none⟩) hs1).trans b0; replace b1 := (hb2.cell (p := ⟨w.heap.size + 1, 1, none⟩) hs1).trans b1; replace b2 := (hb2.cell (p := ⟨w.heap.size + 1, 2, none⟩) hs1).trans b2; replace b3 := (hb2.cell (p := ⟨w.heap.size + 1, 3, none⟩) hs1).trans b3; replace b4 := (hb2.cell (p := ⟨w.heap.size + 1, 4, none⟩) hs1).trans b4; replace HB0 : Hid (Below w.heap.size w w3) := HB0.out.trans (hb2.mono HB0.out.size); clear hb2)))
  go_wp2_with fail
  go_ret
  exact ⟨rfl, HB0.out⟩
end Go.Proofs.YtleejffjnknohaaGreat.V4
