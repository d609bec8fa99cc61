/- What schema.descend gives: a schema and all that is in it, in order. No condition but that the schema lies in memory. -/
import Derived.RangeFuncNested
import Derived.RangeFuncBound
import Derived.RangeFuncCalls
import Derived.RangeFuncLeaves
import Derived.Shelf.Abstract
import Derived.Shelf.RegionOpen
import Derived.OwnWalkIn
import Derived.TacticsInMore
import Derived.LoopNIn
import Derived.LoopIn
import Derived.Sort.QuietIn
import Derived.Test.YtohmgidmfabimaaPsf
namespace Go.Proofs.Ytohmgidmfabimaa
open Go.RowKit Go.Shelf

attribute [local go_sem] Oper.semAt_some

mutual
/-- A schema and all that is in it, each with its depth. -/
def preS : Sc → Int → List (Int × Sc)
  | .mk k A c l, d => (d, .mk k A c l) :: preL l (wrap64 (d + 1))
def preL : List Sc → Int → List (Int × Sc)
  | [], _ => []
  | x :: l, d => preS x d ++ preL l d
end

theorem preL_append (a b : List Sc) (d : Int) : preL (a ++ b) d = preL a d ++ preL b d := by
  induction a with
  | nil => rfl
  | cons x a ih => rw [List.cons_append, preL, ih, preL, List.append_assoc]
theorem preL_snoc {l : List Sc} {k : Nat} {x : Sc} (d : Int) (hx : l[k]? = some x) : preL (l.take (k + 1)) d = preL (l.take k) d ++ preS x d := by
  obtain ⟨hk, he⟩ := List.getElem?_eq_some_iff.1 hx
  rw [List.take_succ_eq_append_getElem hk, he, preL_append, preL, preL, List.append_nil]
theorem preL_split {l : List Sc} {k : Nat} {x : Sc} (d : Int) (hx : l[k]? = some x) : preL l d = preL (l.take k) d ++ (preS x d ++ preL (l.drop (k + 1)) d) := by
  obtain ⟨hk, he⟩ := List.getElem?_eq_some_iff.1 hx
  conv => lhs; rw [← List.take_append_drop k l]
  rw [preL_append, List.drop_eq_getElem_cons hk, he, preL]

/-- How what was seen is handed to the loop. -/
def encD (x : Int × Sc) : Array Value := #[.int .i64 x.1, x.2.val]

/-- The cells lie as they lay, but for block D. -/
structure KC (D : Nat) (W W' : World) : Prop where
  size : W.heap.size ≤ W'.heap.size
  same : ∀ (b : Nat) (o : Obj), W.heap[b]? = some o → o.isCells = true → b ≠ D → W'.heap[b]? = some o

theorem KC.refl (D : Nat) (W : World) : KC D W W := ⟨Nat.le_refl _, fun _ _ h _ _ => h⟩
theorem KC.trans {D : Nat} {X Y Z : World} (h : KC D X Y) (k : KC D Y Z) : KC D X Z := ⟨Nat.le_trans h.size k.size, fun b o h1 h2 h3 => k.same b o (h.same b o h1 h2 h3) h2 h3⟩
theorem KC.of_below {D : Nat} {W W' : World} (h : Below W.heap.size W W') : KC D W W' := ⟨h.size, fun b _ h1 _ _ => (h.block b (Array.getElem?_eq_some_iff.1 h1).1).trans h1⟩
theorem KC.book {D : Nat} {w : World} (W : World) (l : Nat) (o o' : Obj) (_ : w.heap.size ≤ l) (h : W.heap[l]? = some o) (ho : o.isCells = false) (_ : o.isWalk = false) : KC D W (W.putObj l o') :=
  ⟨by simp, fun b o2 h1 h2 _ => by
    have hne : b ≠ l := fun e => by subst e; rw [h] at h1; cases h1; rw [ho] at h2; cases h2
    rw [World.putObj_heap_other hne]; exact h1⟩
theorem KC.cell {D : Nat} {W W' : World} (h : KC D W W') {b o : Nat} {v : Value} (hb : b ≠ D) (hc : W.cell? ⟨b, o, none⟩ = some v) : W'.cell? ⟨b, o, none⟩ = some v := by
  obtain ⟨ob, h1, h2⟩ := cells_of_cell hc
  exact (World.cell?_of_block (a := ⟨b, o, none⟩) ((h.same b ob h1 h2 hb).trans h1.symm)).trans hc
theorem LiesP.kc {D : Nat} {W W' : World} {A : Option Addr} {l : List Sc} (h : LiesP (fun b => b ≠ D) W A l) (hk : KC D W W') : LiesP (fun b => b ≠ D) W' A l := by
  rcases h with h | ⟨b, off, hA, hP, h⟩
  · exact .inl h
  · exact .inr ⟨b, off, hA, hP, fun i x hx => ⟨hk.cell hP (h i x hx).1, hk.cell hP (h i x hx).2⟩⟩
theorem Sc.Inp.kc {D : Nat} {W W' : World} {s : Sc} (h : s.Inp (fun b => b ≠ D) W) (hk : KC D W W') : s.Inp (fun b => b ≠ D) W' := by
  induction h with
  | mk k A c l hl h1 h2 h3 _ ih => exact .mk k A c l (hl.kc hk) h1 h2 h3 ih

theorem yield_any {m m' : Nat} {P : Program} {l : Nat} {args : Array Value} {W : World} {R : Ending → World → Prop} (h : YieldAt Fence.wide m P l args W R) : YieldAt Fence.wide m' P l args W R := by
  obtain ⟨fn, tmps, assign, body, h1, h2⟩ := h
  exact ⟨fn, tmps, assign, body, h1, h2.1, fun c cs _ => h2.2 c cs (room_wide _)⟩

/-- What the walk answers. -/
def Went (D : Nat) (J Jx : List (Int × Sc) → World → Prop) (pre : List (Int × Sc)) (zs : List (Int × Sc)) (W : World) (e : Ending) (W' : World) : Prop :=
  (e = .returned (.bool true) ∧ J (pre ++ zs) W' ∧ KC D W W') ∨ (e = .returned (.bool false) ∧ ∃ p, p <+: zs ∧ Jx (pre ++ p) W')

set_option maxRecDepth 100000 in
set_option maxHeartbeats 2000000 in
theorem descend_in (l D N : Nat) (J Jx : List (Int × Sc) → World → Prop) (hJ : ∀ pre W W', J pre W → Below W.heap.size W W' → J pre W')
    (hY : ∀ pre x W1, J pre W1 → pre.length < N → YieldAt Fence.wide 0 Try.prog l (encD x) W1 fun e W' =>
      (e = .returned (.bool true) ∧ J (pre ++ [x]) W' ∧ KC D W1 W') ∨ (e = .returned (.bool false) ∧ Jx (pre ++ [x]) W')) :
    ∀ (s : Sc) (n : Nat) (d : Int) (pre : List (Int × Sc)) (W : World), s.Inp (fun b => b ≠ D) W → D < W.heap.size → J pre W → pre.length + (preS s d).length ≤ N →
      CallsIn Fence.wide n Try.prog 26 #[s.val, .int .i64 d, .func (.func 17) #[] #[], .func (.yield l) #[] #[]] W (Went D J Jx pre (preS s d) W) := by
  intro s
  induction s using Sc.ind with
  | h k0 A c l0 ih =>
    intro n d pre W hin hD h0 hN
    have IH := Lib.hid ih
    have HIN := Lib.hid hin
    have HJ := Lib.hid hJ
    have HY := Lib.hid hY
    clear ih hin hJ hY
    simp only [val_mk]
    refine callsIn_of_wp Try.func26 rfl trivial ?_ rfl
    simp only [Try.ntmps26, List.size_toArray, List.length_cons, List.length_nil, Nat.reduceAdd, Nat.reduceSub, Array.replicate_succ, Array.replicate_zero, List.push_toArray, List.append_toArray, List.nil_append, List.cons_append]
    have hJ1 := HJ.out pre W (W.alloc (.cells #[.int .i64 k0, .slice A l0.length c] 24)) h0 (allocB _ _)
    obtain ⟨fn, tmps, assign, body, hy, hR⟩ := yield_any (m' := n - 1) (HY.out pre (d, .mk k0 A c l0) _ hJ1 (by rw [preS] at hN; simp at hN; omega))
    unfold encD at hy
    simp only [val_mk] at hy
    gi_wp2_with fail
    refine ⟨fun h => absurd h (by simp [Fence.wide]), hR.mono ?_⟩
    rintro e W3 (⟨rfl, hJ3, hk3⟩ | ⟨rfl, hJx3⟩)
    · have hbne : W.heap.size ≠ D := by omega
      have hb0 := hk3.cell (o := 0) hbne (by simp : _ = some (.int .i64 k0))
      have hb1 := hk3.cell (o := 1) hbne (by simp : _ = some (.slice A l0.length c))
      have hkW : KC D W W3 := (KC.of_below (allocB _ _)).trans hk3
      clear hy hR hk3 hJ1 h0
      gi_wp2_with fail
      refine ⟨trivial, fun h => absurd h (by simp [Fence.wide]), (callsIn_wide.2 (inside_any (.mk k0 A c l0) W3)).mono ?_⟩
      rintro e W4 ⟨rfl, hb4⟩
      simp only [Sc.v1]
      have hJ4 := HJ.out _ _ _ hJ3 hb4
      have hk4 : KC D W W4 := hkW.trans (KC.of_below hb4)
      have hl32 : l0.length * 32 ≤ 140737488351232 := by
        cases HIN.out with
        | mk _ _ _ _ _ _ _ h3 _ => exact h3
      clear hJ3 hkW hb0 hb1 hb4
      gi_wp2_with fail
      gi_loopw [20] (fun iv wr => ∃ (k : Nat), k ≤ l0.length ∧ iv = .int .i64 k ∧ J (pre ++ (d, Sc.mk k0 A c l0) :: preL (l0.take k) (wrap64 (d + 1))) wr ∧ KC D W wr) (fun iv _ => l0.length - (intOf iv).toNat)
      case atStart => exact ⟨0, Nat.zero_le _, rfl, hJ4, hk4⟩
      case round =>
        obtain ⟨k, hk, rfl, hJr, hkr⟩ := hrel
        clear hJ4 hk4
        by_cases hlt : k < l0.length
        · obtain ⟨hl, hall⟩ : LiesP (fun b => b ≠ D) wr A l0 ∧ ∀ x ∈ l0, x.Inp (fun b => b ≠ D) wr := by
            cases HIN.out with
            | mk _ _ _ _ h1 _ _ _ h4 => exact ⟨h1.kc hkr, fun x hx => (h4 x hx).kc hkr⟩
          rcases hl with hl | ⟨b, off, rfl, hb, hc⟩
          · subst hl; simp at hlt
          obtain ⟨x, hx⟩ : ∃ x, l0[k]? = some x := ⟨_, List.getElem?_eq_getElem hlt⟩
          obtain ⟨hc0, hc1⟩ := hc k x hx
          have hxin := hall x (List.mem_of_getElem? hx)
          have hM := Lib.hid (List.mem_of_getElem? hx)
          have HX := Lib.hid hx
          have hNx : (pre ++ (d, Sc.mk k0 (some ⟨b, off, none⟩) c l0) :: preL (l0.take k) (wrap64 (d + 1))).length + (preS x (wrap64 (d + 1))).length ≤ N := by
            rw [preS, preL_split (wrap64 (d + 1)) hx] at hN
            simp at hN ⊢
            omega
          clear hx hc hall
          have hbb := World.block_lt_of_cell? wr _ hc0
          simp only at hbb
          obtain ⟨xk, xA, xc, xl⟩ := x
          simp only [Sc.v1, Sc.k] at hc0 hc1
          have HNX := Lib.hid hNx
          clear hNx hN
          gi_wp2_with fail
          have hbr : Below wr.heap.size wr (wr.alloc (.cells #[.int .i64 xk, .slice xA xl.length xc] 24)) := allocB _ _
          refine ⟨trivial, fun h => absurd h (by simp [Fence.wide]), (IH.out _ hM.out (n - 1) _ _ _ (hxin.kc (KC.of_below hbr)) (Nat.lt_of_lt_of_le (Nat.lt_of_lt_of_le hD hkr.size) hbr.size) (HJ.out _ _ _ hJr hbr) HNX.out).mono ?_⟩
          rintro e W5 (⟨rfl, hJ5, hk5⟩ | ⟨rfl, p, hp, hJx5⟩)
          · have hk6 : KC D W W5 := hkr.trans ((KC.of_below hbr).trans hk5)
            rw [List.append_assoc, List.cons_append, ← preL_snoc (wrap64 (d + 1)) HX.out] at hJ5
            clear hk5 hbr hJr hkr hc0 hc1
            gi_wp2_with fail
            go_roundw
            case rel => exact ⟨k + 1, by omega, by go_num, hJ5, hk6⟩
            case measure => simp [intOf]; omega
          · gi_wp2_with fail
            refine bodyPost_ret (results_tmp rfl _ _ _) rfl ?_
            refine .inr ⟨rfl, (d, Sc.mk k0 (some ⟨b, off, none⟩) c l0) :: preL (l0.take k) (wrap64 (d + 1)) ++ p, ?_, by rw [← List.append_assoc]; exact hJx5⟩
            rw [preS, preL_split (wrap64 (d + 1)) HX.out]
            obtain ⟨r, hr⟩ := hp
            exact ⟨r ++ preL (l0.drop (k + 1)) (wrap64 (d + 1)), by simp [← hr]⟩
        · gi_wp2_with fail
          refine bodyPost_ret (results_tmp rfl _ _ _) rfl ?_
          refine .inl ⟨rfl, ?_, hkr⟩
          rw [List.take_of_length_le (by omega)] at hJr
          rw [preS]
          exact hJr
    · gi_wp2_with fail
      refine bodyPost_ret (results_tmp rfl _ _ _) rfl ?_
      refine .inr ⟨rfl, [(d, .mk k0 A c l0)], ?_, hJx3⟩
      rw [preS]
      exact ⟨preL l0 (wrap64 (d + 1)), rfl⟩
end Go.Proofs.Ytohmgidmfabimaa
