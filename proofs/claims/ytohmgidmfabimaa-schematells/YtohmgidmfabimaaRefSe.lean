/- What the reference's Cause, Level, IsSchema, Deep do. No condition but that the schema lies in memory. -/
import Derived.Test.YtohmgidmfabimaaRefSd
namespace Go.Proofs.Ytohmgidmfabimaa
open Go.RowKit

/-- The cells that hold the schemas. -/
def cellsS (xs : List Sc) : List Value := xs.flatMap fun x => [.int .i64 x.k, x.v1]

theorem cellsS_len (xs : List Sc) : (cellsS xs).length = xs.length * 2 := by
  induction xs with
  | nil => rfl
  | cons x xs ih => simp only [cellsS, List.flatMap_cons, List.length_append, List.length_cons, List.length_nil] at ih ⊢; omega

theorem cellsS_append (xs ys : List Sc) : cellsS (xs ++ ys) = cellsS xs ++ cellsS ys := by simp [cellsS]

theorem cellsS_at {xs : List Sc} {i : Nat} {x : Sc} (h : xs[i]? = some x) : (cellsS xs)[i * 2]? = some (.int .i64 x.k) ∧ (cellsS xs)[i * 2 + 1]? = some x.v1 := by
  induction xs generalizing i with
  | nil => simp at h
  | cons y xs ih =>
    cases i with
    | zero => simp at h; subst h; simp [cellsS]
    | succ i =>
      have := ih (i := i) (by simpa using h)
      have e : (i + 1) * 2 = i * 2 + 1 + 1 := by omega
      rw [e]
      simpa [cellsS] using this

theorem lies_block {n b : Nat} {w : World} {xs : List Sc} {cs : Array Value} {t : TypeId} {fr : Nat × Nat} (hh : w.heap[b]? = some (.cells cs t fr)) (hn : b < n) (hp : ∃ r, cs.toList = cellsS xs ++ r) : LiesS n w (some ⟨b, 0, none⟩) xs := by
  obtain ⟨r, hr⟩ := hp
  refine .inr ⟨b, 0, rfl, hn, fun i x hx => ?_⟩
  obtain ⟨h1, h2⟩ := cellsS_at hx
  have g1 : cs[i * 2]? = some (.int .i64 x.k) := by
    rw [← Array.getElem?_toList, hr]
    exact List.getElem?_append_left (List.getElem?_eq_some_iff.1 h1).1 ▸ h1
  have g2 : cs[i * 2 + 1]? = some x.v1 := by
    rw [← Array.getElem?_toList, hr]
    exact List.getElem?_append_left (List.getElem?_eq_some_iff.1 h2).1 ▸ h2
  simp [World.cell?, hh, g1, g2]

theorem results_cellS {fn : Func} {p : Tmp} (h : fn.results = #[.cell p 24]) (tmps : Array Value) (w : World) (g : Nat) (v0 v1 : Value) (hp : tmps.getD p undef = .pointer (some ⟨g, 0, none⟩))
    (h0 : w.cell? ⟨g, 0, none⟩ = some v0) (h1 : w.cell? ⟨g, 1, none⟩ = some v1) : (results fn tmps).run Try.prog w = .ok (.agg #[v0, v1]) w := by
  have hp' : tmps[p]?.getD undef = .pointer (some ⟨g, 0, none⟩) := by simpa using hp
  simp [results, h, hp', asAddr]
  go_simp

theorem lies_one {n b : Nat} {w : World} {x : Sc} (hn : b < n) (h0 : w.cell? ⟨b, 0, none⟩ = some (.int .i64 x.k)) (h1 : w.cell? ⟨b, 1, none⟩ = some x.v1) : LiesS n w (some ⟨b, 0, none⟩) [x] := by
  refine .inr ⟨b, 0, rfl, hn, fun i y hy => ?_⟩
  match i, hy with
  | 0, hy => simp at hy; subst hy; exact ⟨h0, h1⟩
theorem lies_two {n b : Nat} {w : World} {x y : Sc} (hn : b < n) (h0 : w.cell? ⟨b, 0, none⟩ = some (.int .i64 x.k)) (h1 : w.cell? ⟨b, 1, none⟩ = some x.v1)
    (h2 : w.cell? ⟨b, 2, none⟩ = some (.int .i64 y.k)) (h3 : w.cell? ⟨b, 3, none⟩ = some y.v1) : LiesS n w (some ⟨b, 0, none⟩) [x, y] := by
  refine .inr ⟨b, 0, rfl, hn, fun i z hz => ?_⟩
  match i, hz with
  | 0, hz => simp at hz; subst hz; exact ⟨h0, h1⟩
  | 1, hz => simp at hz; subst hz; exact ⟨h2, h3⟩
theorem belAl {w w' : World} {o : Obj} (h : Below w.heap.size w w') : Below w.heap.size w (w'.alloc o) := h.alloc h.size o
theorem retS_mk {w w' : World} {t : Tr} {v : Value} (s : Sc) (hb : Below w.heap.size w w') (hv : v = s.val) (he : s.er = t) (hi : Below w.heap.size w w' → s.In w'.heap.size w') : RetS w t (.returned v) w' := ⟨s, by rw [hv], he, hi hb, hb⟩

theorem in_leaf (n : Nat) (w : World) (k : Int) : (Sc.mk k none 0 []).In n w := .mk _ _ _ _ LiesS.nil (by simp) (by simp) (by simp) (by simp)
theorem in_one {n b : Nat} {w : World} {k : Int} {x : Sc} (h : LiesS n w (some ⟨b, 0, none⟩) [x]) (hx : x.In n w) : (Sc.mk k (some ⟨b, 0, none⟩) 1 [x]).In n w := .mk _ _ _ _ h (by simp) (by decide) (by simp) (fun y hy => by rw [List.mem_singleton.1 hy]; exact hx)
theorem in_two {n b : Nat} {w : World} {k : Int} {x y : Sc} (h : LiesS n w (some ⟨b, 0, none⟩) [x, y]) (hx : x.In n w) (hy : y.In n w) : (Sc.mk k (some ⟨b, 0, none⟩) 2 [x, y]).In n w := .mk _ _ _ _ h (by simp) (by decide) (by simp) (fun z hz => by rcases List.mem_cons.1 hz with rfl | hz; exact hx; rw [List.mem_singleton.1 hz]; exact hy)

/-- A cause of s, at three places. -/
def causeS (b1 b2 b3 : Nat) (s : Sc) : Sc := .mk 8 (some ⟨b3, 0, none⟩) 1 [.mk 5 (some ⟨b2, 0, none⟩) 2 [.mk 4 (some ⟨b1, 0, none⟩) 1 [.mk 7 none 0 []], s]]
theorem causeS_er (b1 b2 b3 : Nat) (s : Sc) : (causeS b1 b2 b3 s).er = causeT s.er := by
  unfold causeS
  simp only [er_mk, List.map_cons, List.map_nil]
  rfl
theorem causeS_in {n b1 b2 b3 : Nat} {w : World} {k : Int} {A : Option Addr} {c : Nat} {l : List Sc} (h1 : b1 < n) (h2 : b2 < n) (h3 : b3 < n) (hs : (Sc.mk k A c l).In n w)
    (a0 : w.cell? ⟨b1, 0, none⟩ = some (.int .i64 7)) (a1 : w.cell? ⟨b1, 1, none⟩ = some (.slice none 0 0))
    (c0 : w.cell? ⟨b2, 0, none⟩ = some (.int .i64 4)) (c1 : w.cell? ⟨b2, 1, none⟩ = some (.slice (some ⟨b1, 0, none⟩) 1 1)) (c2 : w.cell? ⟨b2, 2, none⟩ = some (.int .i64 k)) (c3 : w.cell? ⟨b2, 3, none⟩ = some (.slice A l.length c))
    (d0 : w.cell? ⟨b3, 0, none⟩ = some (.int .i64 5)) (d1 : w.cell? ⟨b3, 1, none⟩ = some (.slice (some ⟨b2, 0, none⟩) 2 2)) : (causeS b1 b2 b3 (.mk k A c l)).In n w :=
  in_one (lies_one h3 d0 d1) (in_two (lies_two h2 c0 c1 c2 c3) (in_one (lies_one h1 a0 a1) (in_leaf _ _ _)) hs)

set_option maxHeartbeats 400000 in
theorem refcause_any : ∀ (s : Sc) (w : World), s.In w.heap.size w → Calls Try.prog 15 #[s.val] w (RetS w (causeT s.er)) := by
  rintro ⟨k0, A, c, l⟩ w hin
  have HIN := Lib.hid hin
  clear hin
  simp only [val_mk]
  go_enter Try.func15, Try.ntmps15
  go_wp2_with fail
  refine bodyPost_ret (results_cellS rfl _ _ _ (.int .i64 8) (.slice (some ⟨w.heap.size + 1 + 1 + 1 + 1 + 1, 0, none⟩) 1 1) rfl (by go_simp) (by go_simp)) rfl ?_
  refine retS_mk (causeS (w.heap.size + 1 + 1) (w.heap.size + 1 + 1 + 1 + 1) (w.heap.size + 1 + 1 + 1 + 1 + 1) (.mk k0 A c l)) (belAl (belAl (belAl (belAl (belAl (belAl (Below.refl _ _))))))) rfl (causeS_er _ _ _ _) fun hbw => ?_
  exact causeS_in (by simp) (by simp) (by simp) (HIN.out.later hbw) (by go_simp) (by go_simp) (by go_simp) (by go_simp) (by go_simp) (by go_simp) (by go_simp) (by go_simp)

set_option maxHeartbeats 400000 in
theorem refIs_any : ∀ (s : Sc) (w : World), s.In w.heap.size w → Calls Try.prog 7 #[s.val] w (RetV w (.bool (isT 16 s.er))) := by
  rintro ⟨k0, A, c, l⟩ w hin
  have HIN := Lib.hid (hin.later (allocB w (.cells #[.int .i64 k0, .slice A l.length c] 24)))
  clear hin
  simp only [val_mk]
  go_enter Try.func7, Try.ntmps7
  go_wp2_with fail
  refine (callV (allocB w _) (refis_any 16 (by decide) 16 (.mk k0 A c l) _ rfl HIN.out)).mono ?_
  rintro e w' ⟨rfl, hb⟩
  go_wp2_with fail
  go_ret
  exact ⟨rfl, hb⟩

set_option maxHeartbeats 400000 in
theorem refDeep_any : ∀ (s : Sc) (w : World), s.In w.heap.size w → Calls Try.prog 9 #[s.val] w (RetV w (.int .i64 (deepT 17 s.er))) := by
  rintro ⟨k0, A, c, l⟩ w hin
  have HIN := Lib.hid (hin.later (allocB w (.cells #[.int .i64 k0, .slice A l.length c] 24)))
  clear hin
  simp only [val_mk]
  go_enter Try.func9, Try.ntmps9
  go_wp2_with fail
  refine (callV (allocB w _) (refdeep_any 17 (by decide) 17 (.mk k0 A c l) _ rfl HIN.out)).mono ?_
  rintro e w' ⟨rfl, hb⟩
  go_wp2_with fail
  go_ret
  exact ⟨rfl, hb⟩
end Go.Proofs.Ytohmgidmfabimaa
