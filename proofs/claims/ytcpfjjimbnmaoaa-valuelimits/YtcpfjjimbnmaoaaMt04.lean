/- What the reference's Cause, Level, IsSchema, Deep do. No condition but that the schema lies in memory. What the reference's Level does. No condition but that the schema lies in memory. What schema.inside, schema.shaped, schema.leaning do. No condition. What schema.Same does. No condition but that the schemas lie in memory. Rows of schemas that a call owns, and append onto them; what schema.fresh does. No condition but that the schema lies in memory. What schema.renewed and schema.fresh do. No condition but that the schema lies in memory. -/
import Derived.Test.YtcpfjjimbnmaoaaMt03
import Derived.Deep.RegionHeld3
import Derived.Deep.RegionLaw
namespace Go.Proofs.Ytcpfjjimbnmaoaa.S2
open Go.RowKit

/-- The cells that hold the schemas. -/
def cellsS (xs : List Sc) : List Value := xs.flatMap fun x => [.int .i64 x.k, x.v1]

theorem cellsS_len (xs : List Sc) : (cellsS xs).length = xs.length * 2 := by
  induction xs with
  | nil => rfl
  | cons x xs ih => simp only [cellsS, List.flatMap_cons, List.length_append, List.length_cons, List.length_nil] at ih ⊢; omega

theorem cellsS_append (xs ys : List Sc) : cellsS (xs ++ ys) = cellsS xs ++ cellsS ys := by simp [cellsS]

theorem cellsS_at {xs : List Sc} {i : Nat} {x : Sc} (h : xs[i]? = some x) : (cellsS xs)[i * 2]? = some (.int .i64 x.k) ∧ (cellsS xs)[i * 2 + 1]? = some x.v1 := by
  induction xs generalizing i with
  | nil => simp at h
  | cons y xs ih =>
    cases i with
    | zero => simp at h; subst h; simp [cellsS]
    | succ i =>
      have := ih (i := i) (by simpa using h)
      have e : (i + 1) * 2 = i * 2 + 1 + 1 := by omega
      rw [e]
      simpa [cellsS] using this

theorem lies_block {n b : Nat} {w : World} {xs : List Sc} {cs : Array Value} {t : TypeId} {fr : Nat × Nat} (hh : w.heap[b]? = some (.cells cs t fr)) (hn : b < n) (hp : ∃ r, cs.toList = cellsS xs ++ r) : LiesS n w (some ⟨b, 0, none⟩) xs := by
  obtain ⟨r, hr⟩ := hp
  refine .inr ⟨b, 0, rfl, hn, fun i x hx => ?_⟩
  obtain ⟨h1, h2⟩ := cellsS_at hx
  have g1 : cs[i * 2]? = some (.int .i64 x.k) := by
    rw [← Array.getElem?_toList, hr]
    exact List.getElem?_append_left (List.getElem?_eq_some_iff.1 h1).1 ▸ h1
  have g2 : cs[i * 2 + 1]? = some x.v1 := by
    rw [← Array.getElem?_toList, hr]
    exact List.getElem?_append_left (List.getElem?_eq_some_iff.1 h2).1 ▸ h2
  simp [World.cell?, hh, g1, g2]

theorem results_cellS {fn : Func} {p : Tmp} (h : fn.results = #[.cell p 24]) (tmps : Array Value) (w : World) (g : Nat) (v0 v1 : Value) (hp : tmps.getD p undef = .pointer (some ⟨g, 0, none⟩))
    (h0 : w.cell? ⟨g, 0, none⟩ = some v0) (h1 : w.cell? ⟨g, 1, none⟩ = some v1) : (results fn tmps).run Try.prog w = .ok (.agg #[v0, v1]) w := by
  have hp' : tmps[p]?.getD undef = .pointer (some ⟨g, 0, none⟩) := by simpa using hp
  simp [results, h, hp', asAddr]
  go_simp

theorem lies_one {n b : Nat} {w : World} {x : Sc} (hn : b < n) (h0 : w.cell? ⟨b, 0, none⟩ = some (.int .i64 x.k)) (h1 : w.cell? ⟨b, 1, none⟩ = some x.v1) : LiesS n w (some ⟨b, 0, none⟩) [x] := by
  refine .inr ⟨b, 0, rfl, hn, fun i y hy => ?_⟩
  match i, hy with
  | 0, hy => simp at hy; subst hy; exact ⟨h0, h1⟩
theorem lies_two {n b : Nat} {w : World} {x y : Sc} (hn : b < n) (h0 : w.cell? ⟨b, 0, none⟩ = some (.int .i64 x.k)) (h1 : w.cell? ⟨b, 1, none⟩ = some x.v1)
    (h2 : w.cell? ⟨b, 2, none⟩ = some (.int .i64 y.k)) (h3 : w.cell? ⟨b, 3, none⟩ = some y.v1) : LiesS n w (some ⟨b, 0, none⟩) [x, y] := by
  refine .inr ⟨b, 0, rfl, hn, fun i z hz => ?_⟩
  match i, hz with
  | 0, hz => simp at hz; subst hz; exact ⟨h0, h1⟩
  | 1, hz => simp at hz; subst hz; exact ⟨h2, h3⟩
theorem belAl {w w' : World} {o : Obj} (h : Below w.heap.size w w') : Below w.heap.size w (w'.alloc o) := h.alloc h.size o
theorem retS_mk {w w' : World} {t : Tr} {v : Value} (s : Sc) (hb : Below w.heap.size w w') (hv : v = s.val) (he : s.er = t) (hi : Below w.heap.size w w' → s.In w'.heap.size w') : RetS w t (.returned v) w' := ⟨s, by rw [hv], he, hi hb, hb⟩

theorem in_leaf (n : Nat) (w : World) (k : Int) : (Sc.mk k none 0 []).In n w := .mk _ _ _ _ LiesS.nil (by simp) (by simp) (by simp) (by simp)
theorem in_one {n b : Nat} {w : World} {k : Int} {x : Sc} (h : LiesS n w (some ⟨b, 0, none⟩) [x]) (hx : x.In n w) : (Sc.mk k (some ⟨b, 0, none⟩) 1 [x]).In n w := .mk _ _ _ _ h (by simp) (by decide) (by simp) (fun y hy => by rw [List.mem_singleton.1 hy]; exact hx)
theorem in_two {n b : Nat} {w : World} {k : Int} {x y : Sc} (h : LiesS n w (some ⟨b, 0, none⟩) [x, y]) (hx : x.In n w) (hy : y.In n w) : (Sc.mk k (some ⟨b, 0, none⟩) 2 [x, y]).In n w := .mk _ _ _ _ h (by simp) (by decide) (by simp) (fun z hz => by rcases List.mem_cons.1 hz with rfl | hz; exact hx; rw [List.mem_singleton.1 hz]; exact hy)

/-- A cause of s, at three places. -/
def causeS (b1 b2 b3 : Nat) (s : Sc) : Sc := .mk 8 (some ⟨b3, 0, none⟩) 1 [.mk 5 (some ⟨b2, 0, none⟩) 2 [.mk 4 (some ⟨b1, 0, none⟩) 1 [.mk 7 none 0 []], s]]
theorem causeS_er (b1 b2 b3 : Nat) (s : Sc) : (causeS b1 b2 b3 s).er = causeT s.er := by
  unfold causeS
  simp only [er_mk, List.map_cons, List.map_nil]
  rfl
theorem causeS_in {n b1 b2 b3 : Nat} {w : World} {k : Int} {A : Option Addr} {c : Nat} {l : List Sc} (h1 : b1 < n) (h2 : b2 < n) (h3 : b3 < n) (hs : (Sc.mk k A c l).In n w)
    (a0 : w.cell? ⟨b1, 0, none⟩ = some (.int .i64 7)) (a1 : w.cell? ⟨b1, 1, none⟩ = some (.slice none 0 0))
    (c0 : w.cell? ⟨b2, 0, none⟩ = some (.int .i64 4)) (c1 : w.cell? ⟨b2, 1, none⟩ = some (.slice (some ⟨b1, 0, none⟩) 1 1)) (c2 : w.cell? ⟨b2, 2, none⟩ = some (.int .i64 k)) (c3 : w.cell? ⟨b2, 3, none⟩ = some (.slice A l.length c))
    (d0 : w.cell? ⟨b3, 0, none⟩ = some (.int .i64 5)) (d1 : w.cell? ⟨b3, 1, none⟩ = some (.slice (some ⟨b2, 0, none⟩) 2 2)) : (causeS b1 b2 b3 (.mk k A c l)).In n w :=
  in_one (lies_one h3 d0 d1) (in_two (lies_two h2 c0 c1 c2 c3) (in_one (lies_one h1 a0 a1) (in_leaf _ _ _)) hs)

set_option maxHeartbeats 400000 in
theorem refIs_any : ∀ (s : Sc) (w : World), s.In w.heap.size w → Calls Try.prog 19 #[s.val] w (RetV w (.bool (isT 16 s.er))) := by
  rintro ⟨k0, A, c, l⟩ w hin
  have HIN := Lib.hid (hin.later (allocB w (.cells #[.int .i64 k0, .slice A l.length c] 24)))
  clear hin
  simp only [val_mk]
  go_enter Try.func19, Try.ntmps19
  go_wp2_with fail
  refine (callV (allocB w _) (refis_any 16 (by decide) 16 (.mk k0 A c l) _ rfl HIN.out)).mono ?_
  rintro e w' ⟨rfl, hb⟩
  go_wp2_with fail
  go_ret
  exact ⟨rfl, hb⟩

end Go.Proofs.Ytcpfjjimbnmaoaa.S2

namespace Go.Proofs.Ytcpfjjimbnmaoaa.S2
open Go.RowKit

/-- What a schema of kind 8 has. -/
theorem is_cause {k : Int} {A : Option Addr} {c : Nat} {l : List Sc} (h : isT 16 (Sc.mk k A c l).er = true) (hk : k = 8) : ∃ x, l = [x] ∧ isT 15 x.er = true := by
  rw [isT_succ, Bool.and_eq_true] at h
  subst hk
  have h1 : (l.length : Int) = 1 := of_decide_eq_true h.1
  match l, h1 with
  | [x], _ => exact ⟨x, rfl, by simpa using h.2⟩
theorem is_pair {n : Nat} {k : Int} {A : Option Addr} {c : Nat} {l : List Sc} (h : isT (n + 1) (Sc.mk k A c l).er = true) (hk : k = 5) : ∃ x y, l = [x, y] := by
  rw [isT_succ, Bool.and_eq_true] at h
  subst hk
  have h1 : (l.length : Int) = 2 := of_decide_eq_true h.1
  match l, h1 with
  | [x, y], _ => exact ⟨x, y, rfl⟩

theorem lies_first {n : Nat} {w : World} {A : Option Addr} {x : Sc} {l : List Sc} (h : LiesS n w A (x :: l)) : ∃ b off, A = some ⟨b, off, none⟩ ∧ b < n ∧ w.cell? ⟨b, off, none⟩ = some (.int .i64 x.k) ∧ w.cell? ⟨b, off + 1, none⟩ = some x.v1 := by
  obtain ⟨b, off, hA, hb, hc⟩ := h.get (k := 0) (by simp)
  have := hc 0 x rfl
  simp only [Nat.zero_mul, Nat.add_zero] at this
  exact ⟨b, off, hA, hb, this⟩
theorem lies_second {n : Nat} {w : World} {b off : Nat} {x y : Sc} {l : List Sc} (h : LiesS n w (some ⟨b, off, none⟩) (x :: y :: l)) : w.cell? ⟨b, off + 2, none⟩ = some (.int .i64 y.k) ∧ w.cell? ⟨b, off + 2 + 1, none⟩ = some y.v1 := by
  obtain ⟨b, off, hA, hb, hc⟩ := h.get (k := 0) (by simp)
  cases hA
  exact hc 1 y rfl

theorem level_not {t : Tr} (h : isT 16 t = false) : levelT t = 0 := by simp [levelT, h]
theorem level_last {t : Tr} (h : isT 16 t = true) (hk : t.k = 6) : levelT t = 2 := by simp [levelT, h, hk]
theorem level_plain {t : Tr} (h : isT 16 t = true) (hk : t.k ≠ 6) (hc : causalT t = false) : levelT t = 1 := by simp [levelT, h, hk, hc]
theorem level_cause {t : Tr} (h : isT 16 t = true) (hk : t.k ≠ 6) (hc : causalT t = true) : levelT t = 3 := by simp [levelT, h, hk, hc]
theorem causal_k {t : Tr} (h : t.k ≠ 8) : causalT t = false := by
  unfold causalT
  split
  · rename_i k k1 x r
    exact decide_eq_false fun e => h e.1
  · rfl
theorem causal_k1 {k : Int} {A : Option Addr} {c : Nat} {x : Sc} (h : x.k ≠ 5) : causalT (Sc.mk k A c [x]).er = false := by
  obtain ⟨k1, A1, c1, l1⟩ := x
  simp only [er_mk, List.map_cons, List.map_nil]
  cases l1 with
  | nil => rfl
  | cons z l1 => exact decide_eq_false fun e => h e.2.1
theorem causal_two {A A1 : Option Addr} {c c1 : Nat} {x y : Sc} : causalT (Sc.mk 8 A c [.mk 5 A1 c1 [x, y]]).er = decide ((Sc.mk 8 A c [.mk 5 A1 c1 [x, y]]).er = causeT y.er) := by
  simp only [er_mk, List.map_cons, List.map_nil, causalT, causeT]
  simp
theorem causal_lean {A A1 : Option Addr} {c c1 : Nat} {x y : Sc} : causalT (Sc.mk 8 A c [.mk 5 A1 c1 [x, y]]).er = decide (x.er = leanT) := by
  simp only [er_mk, List.map_cons, List.map_nil, causalT]
  simp

/-- 3 or 1. -/
def lv3 (q : Bool) : Int := if q then 3 else 1

end Go.Proofs.Ytcpfjjimbnmaoaa.S2

namespace Go.Proofs.Ytcpfjjimbnmaoaa.S2
open Go.RowKit

set_option maxHeartbeats 400000 in
theorem inside_any (s : Sc) (w : World) : Calls Try.prog 40 #[s.val] w (RetV w s.v1) := by
  obtain ⟨k0, A, c, l⟩ := s
  simp only [val_mk]
  go_enter Try.func40, Try.ntmps40
  go_wp2_with fail
  go_ret
  exact ⟨rfl, allocB _ _⟩

/-- It alone, not what is in it. -/
def shapedS (s : Sc) : Bool := decide ((s.ins.length : Int) = arI s.k)

theorem dec_int (n : Nat) (m : Int) : ((n : Int) == m) = decide ((n : Int) = m) := by
  by_cases h : (n : Int) = m <;> simp [h]

set_option maxHeartbeats 400000 in
theorem shaped_any (s : Sc) (w : World) : Calls Try.prog 41 #[s.val] w (RetV w (.bool (shapedS s))) := by
  obtain ⟨k, A, c, l⟩ := s
  simp only [val_mk]
  by_cases h0 : k = 1 ∨ k = 2 ∨ k = 3 ∨ k = 6 ∨ k = 7
  · rcases h0 with rfl | rfl | rfl | rfl | rfl
    all_goals
      go_enter Try.func41, Try.ntmps41
      go_wp2_with fail
      go_ret
      exact ⟨ret_bool (dec_int _ _), allocB _ _⟩
  · by_cases h1 : k = 4 ∨ k = 8
    · rcases h1 with rfl | rfl
      all_goals
        go_enter Try.func41, Try.ntmps41
        go_wp2_with fail
        go_ret
        exact ⟨ret_bool (dec_int _ _), allocB _ _⟩
    · by_cases h2 : k = 5
      · subst h2
        go_enter Try.func41, Try.ntmps41
        go_wp2_with fail
        go_ret
        exact ⟨ret_bool (dec_int _ _), allocB _ _⟩
      · have HA : Hid (shapedS (.mk k A c l) = false) := by
          show decide ((l.length : Int) = arI k) = false
          unfold arI
          rw [if_neg h0, if_neg h1, if_neg h2]
          exact decide_eq_false (by omega)
        have e1 : k ≠ 1 := fun h => h0 (by simp [h])
        have e2 : k ≠ 2 := fun h => h0 (by simp [h])
        have e3 : k ≠ 3 := fun h => h0 (by simp [h])
        have e6 : k ≠ 6 := fun h => h0 (by simp [h])
        have e7 : k ≠ 7 := fun h => h0 (by simp [h])
        have e4 : k ≠ 4 := fun h => h1 (by simp [h])
        have e8 : k ≠ 8 := fun h => h1 (by simp [h])
        clear h0 h1
        go_enter Try.func41, Try.ntmps41
        go_wp2_with fail
        go_ret
        exact ⟨ret_bool HA.out.symm, allocB _ _⟩

theorem retN_mk {w w' : World} {t : Tr} {v : Value} (s : Sc) (hb : Below w.heap.size w w') (hv : v = s.val) (he : s.er = t) (hi : s.Inp (fun b => w.heap.size ≤ b ∧ b < w'.heap.size) w') : RetN w t (.returned v) w' := ⟨s, by rw [hv], he, hi, hb⟩
theorem RetN.toS {w w' : World} {t : Tr} {e : Ending} (h : RetN w t e w') : RetS w t e w' := by
  obtain ⟨s, h1, h2, h3, h4⟩ := h
  exact ⟨s, h1, h2, h3.mono fun b hP => hP.2, h4⟩
theorem inp_leaf (P : Nat → Prop) (w : World) (k : Int) : (Sc.mk k none 0 []).Inp P w := .mk _ _ _ _ LiesP.nil (by simp) (by simp) (by simp) (by simp)
theorem inp_one {P : Nat → Prop} {b : Nat} {w : World} {k : Int} {x : Sc} (hP : P b) (h0 : w.cell? ⟨b, 0, none⟩ = some (.int .i64 x.k)) (h1 : w.cell? ⟨b, 1, none⟩ = some x.v1) (hx : x.Inp P w) : (Sc.mk k (some ⟨b, 0, none⟩) 1 [x]).Inp P w := by
  refine .mk _ _ _ _ (.inr ⟨b, 0, rfl, hP, fun i y hy => ?_⟩) (by simp) (by simp) (by simp) (fun y hy => by rw [List.mem_singleton.1 hy]; exact hx)
  match i, hy with
  | 0, hy => simp at hy; subst hy; exact ⟨h0, h1⟩
theorem inp_two {P : Nat → Prop} {b : Nat} {w : World} {k : Int} {x y : Sc} (hP : P b) (h0 : w.cell? ⟨b, 0, none⟩ = some (.int .i64 x.k)) (h1 : w.cell? ⟨b, 1, none⟩ = some x.v1)
    (h2 : w.cell? ⟨b, 2, none⟩ = some (.int .i64 y.k)) (h3 : w.cell? ⟨b, 3, none⟩ = some y.v1) (hx : x.Inp P w) (hy : y.Inp P w) : (Sc.mk k (some ⟨b, 0, none⟩) 2 [x, y]).Inp P w := by
  refine .mk _ _ _ _ (.inr ⟨b, 0, rfl, hP, fun i z hz => ?_⟩) (by simp) (by simp) (by simp) (fun z hz => by rcases List.mem_cons.1 hz with rfl | hz; exact hx; rw [List.mem_singleton.1 hz]; exact hy)
  match i, hz with
  | 0, hz => simp at hz; subst hz; exact ⟨h0, h1⟩
  | 1, hz => simp at hz; subst hz; exact ⟨h2, h3⟩

end Go.Proofs.Ytcpfjjimbnmaoaa.S2

namespace Go.Proofs.Ytcpfjjimbnmaoaa.S2
open Go.RowKit

theorem erL_eq_all {l l' : List Sc} {i : Nat} (h0 : (l.take i).map Sc.er = (l'.take i).map Sc.er) (hi : l.length ≤ i) (hi' : l'.length ≤ i) : decide (l.map Sc.er = l'.map Sc.er) = true := by
  rw [List.take_of_length_le hi, List.take_of_length_le hi'] at h0
  exact decide_eq_true h0
theorem erL_ne_at {l l' : List Sc} {i : Nat} {x x' : Sc} (hx : l[i]? = some x) (hx' : l'[i]? = some x') (h : decide (x.er = x'.er) = false) : decide (l.map Sc.er = l'.map Sc.er) = false := by
  refine decide_eq_false fun e => of_decide_eq_false h ?_
  have := congrArg (fun z => z[i]?) e
  simpa [hx, hx'] using this
theorem erL_ne_len {l l' : List Sc} (h : l.length ≠ l'.length) : decide (l.map Sc.er = l'.map Sc.er) = false := by
  refine decide_eq_false fun e => h ?_
  have := congrArg List.length e
  simpa using this

end Go.Proofs.Ytcpfjjimbnmaoaa.S2

namespace Go.Proofs.Ytcpfjjimbnmaoaa.S2
open Go.RowKit

theorem Try.infoSch : (Try.prog.info? 24).map (fun i => (i.zero, i.size, i.bytes)) = some (some (.agg #[.int .i64 0, .slice none 0 0]), 2, 32) := by kernel_rfl

section
variable (w : World) {o : Oper} {a : Act} {K : Act → World → Prop} {Q : Exit → Act → World → Prop}

/-- append onto a row of the call's own; where the row lies is told. -/
theorem wp_appAt (s x : Operand) (t : TypeId) (ho : o.op = .call { callee := .builtin .append, args := #[s, x], argTypes := #[t, t] })
    (base : Nat) (e : TypeId) (i : TypeInfo) (z : Value) (size bytes : Nat) (ht : Try.prog.underlying t = some (.slice e)) (hi : Try.prog.info? e = some i) (hz : i.zero = some z) (hsize : i.size = size) (hby : i.bytes = bytes) (hzs : z.cells.size = size) (hsz : 0 < size)
    (v : Value) (n : Nat) (xs : List Value) (hs : a.eval s = v) (hown : w.ownsRow base e size v n xs)
    (ad : Addr) (m c : Nat) (news : List Value) (hx : a.eval x = .slice (some ad) m c) (hl : news.length = m * size) (hnews : ∀ j u, news[j]? = some u → w.cell? (ad.add j) = some u) (h1 : ∀ u ∈ news, u.oneCell' = true)
    (h63 : n + m ≤ maxLen) (hbytes : (n + m) * bytes ≤ 140737488355328) (hbase : base ≤ w.heap.size)
    (h : ∀ v' w', w'.ownsRow base e size v' (n + m) (xs ++ news) → w.grownBy w' v.ownBlock → (v'.ownBlock = v.ownBlock ∨ v'.ownBlock = some w.heap.size) → K (a.put o.dst v') w') : o.wp Try.prog a w K Q := by
  obtain ⟨v', w', hr, h2, h3, -, h4⟩ := run_append_own_at (P := Try.prog) w base t o.type e i z size bytes ht hi hz hsize hby hzs hsz v n xs hown ad m c news hl hnews h1 h63 hbytes hbase
  unfold Oper.wp execOp
  simp only [ho, resolve, invoke, builtin, Sem.run_bind, Sem.run_pure, Result.andThen_ok, List.map_toArray, List.map_cons, List.map_nil, hs, hx, hr]
  exact h v' w' h2 h3 h4

theorem wpList_appAt {ops : Array Oper} {rest : List Oper} (hgd : o.guard = none) (s x : Operand) (t : TypeId) (ho : o.op = .call { callee := .builtin .append, args := #[s, x], argTypes := #[t, t] })
    (base : Nat) (e : TypeId) (i : TypeInfo) (z : Value) (size bytes : Nat) (ht : Try.prog.underlying t = some (.slice e)) (hi : Try.prog.info? e = some i) (hz : i.zero = some z) (hsize : i.size = size) (hby : i.bytes = bytes) (hzs : z.cells.size = size) (hsz : 0 < size)
    (v : Value) (n : Nat) (xs : List Value) (hs : a.eval s = v) (hown : w.ownsRow base e size v n xs)
    (ad : Addr) (m c : Nat) (news : List Value) (hx : a.eval x = .slice (some ad) m c) (hl : news.length = m * size) (hnews : ∀ j u, news[j]? = some u → w.cell? (ad.add j) = some u) (h1 : ∀ u ∈ news, u.oneCell' = true)
    (h63 : n + m ≤ maxLen) (hbytes : (n + m) * bytes ≤ 140737488355328) (hbase : base ≤ w.heap.size)
    (h : ∀ v' w', w'.ownsRow base e size v' (n + m) (xs ++ news) → w.grownBy w' v.ownBlock → (v'.ownBlock = v.ownBlock ∨ v'.ownBlock = some w.heap.size) → wpList Try.prog ops Q rest (a.put o.dst v') w') : wpList Try.prog ops Q (o :: rest) a w :=
  wpList_plain hgd fun _ hK => wp_appAt w s x t ho base e i z size bytes ht hi hz hsize hby hzs hsz v n xs hs hown ad m c news hx hl hnews h1 h63 hbytes hbase fun v' w' h2 h3 h4 => hK _ _ (h v' w' h2 h3 h4)
end

/-- The value v is a slice of the call's own (from block 'base' on), or nil, and holds the schemas ys; what is in them lies in other new blocks. -/
structure OwnS (w : World) (base : Nat) (v : Value) (ys : List Sc) : Prop where
  row : w.ownsRow base 24 2 v ys.length (cellsS ys)
  all : ∀ y ∈ ys, y.Inp (fun b => base ≤ b ∧ b < w.heap.size ∧ some b ≠ v.ownBlock) w

theorem OwnS.nil (w : World) (base : Nat) : OwnS w base (.slice none 0 0) [] := ⟨World.ownsRow_nil w base _ _, by simp⟩

theorem OwnS.below {w w' : World} {base : Nat} {v : Value} {ys : List Sc} (h : OwnS w base v ys) (hb : Below w.heap.size w w') : OwnS w' base v ys := by
  refine ⟨World.ownsRow.kept h.row (row := none) ⟨hb.os, hb.tape, hb.output, hb.size, fun k hk _ => hb.block k hk⟩ ?_, fun y hy => ?_⟩
  · cases hv : v.ownBlock with
    | none => exact .inl rfl
    | some k => exact .inr (by simp)
  · exact (Sc.Inp.keep (h.all y hy) fun b hP => hb.block b hP.2.1).mono fun b hP => ⟨hP.1, Nat.lt_of_lt_of_le hP.2.1 hb.size, hP.2.2⟩

theorem OwnS.appended {w w' : World} {base : Nat} {v v' : Value} {ys : List Sc} {s : Sc} (h : OwnS w base v ys) (hs : s.Inp (fun b => base ≤ b ∧ b < w.heap.size ∧ some b ≠ v.ownBlock) w)
    (hrow : w'.ownsRow base 24 2 v' (ys.length + 1) (cellsS ys ++ [.int .i64 s.k, s.v1])) (hg : w.grownBy w' v.ownBlock) (hat : v'.ownBlock = v.ownBlock ∨ v'.ownBlock = some w.heap.size) : OwnS w' base v' (ys ++ [s]) := by
  refine ⟨?_, fun y hy => ?_⟩
  · rw [cellsS_append, List.length_append]
    simpa [cellsS] using hrow
  · have hy' : y.Inp (fun b => base ≤ b ∧ b < w.heap.size ∧ some b ≠ v.ownBlock) w := by
      rcases List.mem_append.1 hy with h1 | h1
      · exact h.all y h1
      · rw [List.mem_singleton.1 h1]; exact hs
    refine (hy'.keep fun b hP => hg.block b hP.2.1 hP.2.2).mono fun b hP => ⟨hP.1, Nat.lt_of_lt_of_le hP.2.1 hg.size, ?_⟩
    rcases hat with e | e
    · rw [e]; exact hP.2.2
    · rw [e]; intro e'; have := Option.some.inj e'; omega

/-- A slice of the call's own, as the list of a schema. -/
theorem OwnS.form {w : World} {base : Nat} {v : Value} {ys : List Sc} (h : OwnS w base v ys) (hlen : ys.length * 32 ≤ 140737488351232) : ∃ A c, v = .slice A ys.length c ∧ ∀ k, (Sc.mk k A c ys).Inp (fun b => base ≤ b ∧ b < w.heap.size) w := by
  have hall : ∀ y ∈ ys, y.Inp (fun b => base ≤ b ∧ b < w.heap.size) w := fun y hy => (h.all y hy).mono fun b hP => ⟨hP.1, hP.2.1⟩
  rcases h.row.2 with ⟨rfl, h0⟩ | ⟨g, cap, cur, rfl, hb, hg, hnc, hcm, hcs, ht⟩
  · have : ys = [] := List.eq_nil_of_length_eq_zero h0
    subst this
    exact ⟨none, 0, rfl, fun k => .mk _ _ _ _ LiesP.nil (by simp) (by simp) (by simp) (by simp)⟩
  · have hlt : g < w.heap.size := (Array.getElem?_eq_some_iff.1 hg).1
    refine ⟨_, cap, rfl, fun k => .mk _ _ _ _ (.inr ⟨g, 0, rfl, ⟨hb, hlt⟩, fun i x hx => ?_⟩) hnc (by unfold maxLen at hcm; omega) hlen hall⟩
    obtain ⟨h1, h2⟩ := cellsS_at hx
    have e1 := World.ownsRow.cells h.row (g := g) rfl _ _ h1
    have e2 := World.ownsRow.cells h.row (g := g) rfl _ _ h2
    rw [Addr.add_lit] at e1 e2
    exact ⟨e1, by rw [show 0 + i * 2 + 1 = 0 + (i * 2 + 1) by omega]; exact e2⟩
end Go.Proofs.Ytcpfjjimbnmaoaa.S2

namespace Go.Proofs.Ytcpfjjimbnmaoaa.S2
open Go.RowKit

/-- A call that answers a slice of schemas, all in new memory. -/
def RetNL (w : World) (ts : List Tr) (e : Ending) (w' : World) : Prop :=
  ∃ v ys, e = .returned v ∧ ys.map Sc.er = ts ∧ OwnS w' w.heap.size v ys ∧ Below w.heap.size w w'

theorem cell_two {w : World} {t : TypeId} {u v : Value} : ∀ j x, [u, v][j]? = some x → (w.alloc (.cells #[u, v] t)).cell? ((⟨w.heap.size, 0, none⟩ : Addr).add j) = some x := by
  intro j x hx
  rw [Addr.add_lit]
  match j, hx with
  | 0, hx => simp at hx; subst hx; simp
  | 1, hx => simp at hx; subst hx; simp

theorem map_er_snoc {l ys : List Sc} {k : Nat} {x s : Sc} (h : ys.map Sc.er = (l.take k).map Sc.er) (hx : l[k]? = some x) (hs : s.er = x.er) : (ys ++ [s]).map Sc.er = (l.take (k + 1)).map Sc.er := by
  obtain ⟨hk, he⟩ := List.getElem?_eq_some_iff.1 hx
  rw [List.take_succ_eq_append_getElem hk, he, List.map_append, List.map_append, h]
  simp [hs]

theorem er_len {l ys : List Sc} {k : Nat} (h : ys.map Sc.er = (l.take k).map Sc.er) (hk : k ≤ l.length) : ys.length = k := by
  have := congrArg List.length h
  simp at this
  omega

end Go.Proofs.Ytcpfjjimbnmaoaa.S2
