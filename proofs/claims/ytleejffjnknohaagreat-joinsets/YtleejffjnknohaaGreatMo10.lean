/- Lines of values at marks where they lie; what join.lower and split do. No condition but that what they take lies in memory. -/
import Derived.Test.YtleejffjnknohaaGreatMo09
namespace Go.Proofs.YtleejffjnknohaaGreat.J5
open Go.RowKit Go.Shelf
open C3 (Tk In belAl allocB)
open V4 (Va Vl Ck LiesC cellsV cellsC val_mk)

theorem LiesC.low {N : Nat} {w : World} {A : Option Addr} {cs : List Value} (h : LiesC (fun b => b < N) w A cs) (hN : N ≤ w.heap.size) : LiesC (fun b => b < w.heap.size) w A cs := h.mono fun _ hb => Nat.lt_of_lt_of_le hb hN
theorem Ck.low {N : Nat} {w : World} {k : Ck} (h : k.Inp (fun b => b < N) w) (hN : N ≤ w.heap.size) : k.Inp (fun b => b < w.heap.size) w := h.mono fun _ hb => Nat.lt_of_lt_of_le hb hN
theorem Vl.low {N : Nat} {w : World} {k : Vl} (h : k.Inp (fun b => b < N) w) (hN : N ≤ w.heap.size) : k.In w := h.mono fun _ hb => Nat.lt_of_lt_of_le hb hN

/-- A row without its first. -/
theorem LiesC.tail {P : Nat → Prop} {w : World} {b off : Nat} {u : List Value} {cs : List Value} (h : LiesC P w (some ⟨b, off, none⟩) (u ++ cs)) : LiesC P w (some ⟨b, off + u.length, none⟩) cs := by
  rcases h with h | ⟨b', off', hA, hP, h⟩
  · exact .inl (List.append_eq_nil_iff.1 h).2
  · cases hA
    refine .inr ⟨b, off + u.length, rfl, hP, fun i v hv => ?_⟩
    have := h (u.length + i) v (by rw [List.getElem?_append_right (by omega)]; simpa using hv)
    rwa [← Nat.add_assoc] at this

theorem alloc3_0 {w : World} {cs : Array Value} {t : TypeId} {o2 o3 : Obj} (i : Nat) (v : Value) (h : cs[i]? = some v) : (((w.alloc (.cells cs t)).alloc o2).alloc o3).cell? ⟨w.heap.size, i, none⟩ = some v :=
  ((V4.belAl1 (V4.belAl1 (Below.refl (w.heap.size + 1) (w.alloc (.cells cs t))) (by simp)) (by simp)).cell (p := ⟨w.heap.size, i, none⟩) (by simp)).trans (V4.alloc_cells i v h)
theorem blk_cell {w : World} {b : Nat} {cs : Array Value} {t : TypeId} (h : w.heap[b]? = some (.cells cs t (0, 0))) (i : Nat) (v : Value) (hv : cs[i]? = some v) : w.cell? ⟨b, i, none⟩ = some v := by
  unfold World.cell?
  rw [h]
  simpa using hv
theorem blk_frozen {w : World} {b : Nat} {cs : Array Value} {t : TypeId} (h : w.heap[b]? = some (.cells cs t (0, 0))) (i : Nat) : w.frozen? ⟨b, i, none⟩ = false := by
  simp [World.frozen?, h]

def lowI {M V : Type} (c : M → M → Int) : List (M × V) → List (M × V) → Int
  | _, [] => -1
  | [], _ :: _ => 1
  | x :: _, y :: _ => c x.1 y.1

def encS (x : Str) : Value := .string (S x)
def cmpSS (x y : Str) : Int := cmpS x y
def OkS (N : Nat) (w : World) (x : Str) : Prop := (fun (_ : Nat) (_ : World) (_ : Str) => True) N w x
/-- A line where it lies. -/
structure LnS where
  A : Option Addr
  c : Nat
  B : Option Addr
  d : Nat
  l : List (Str × Vl)
def LnS.val (L : LnS) : Value := .agg #[.slice L.A L.l.length L.c, .slice L.B L.l.length L.d]
structure LnS.In (N : Nat) (w : World) (L : LnS) : Prop where
  ml : LiesC (fun b => b < N) w L.A (L.l.map fun p => encS p.1)
  vl : LiesC (fun b => b < N) w L.B (cellsV (L.l.map (·.2)))
  cap : L.l.length ≤ L.c
  top : L.c ≤ maxLen
  dap : L.l.length ≤ L.d
  dop : L.d ≤ maxLen
  mo : ∀ p ∈ L.l, OkS N w p.1
  vk : ∀ p ∈ L.l, p.2.Inp (fun b => b < N) w
theorem OkS.keep {N : Nat} {w w' : World} {x : Str} (h : OkS N w x) (hb : Below N w w') : OkS N w' x := (fun _ _ => trivial) h hb
theorem LnS.In.keep {N : Nat} {w w' : World} {L : LnS} (h : L.In N w) (hb : Below N w w') : L.In N w' :=
  ⟨h.ml.keep fun b hlt => hb.block b hlt, h.vl.keep fun b hlt => hb.block b hlt, h.cap, h.top, h.dap, h.dop, fun p hp => (h.mo p hp).keep hb, fun p hp => (h.vk p hp).keep fun b hlt => hb.block b hlt⟩

set_option maxHeartbeats 1000000 in
theorem lowerS_any (L K : LnS) (N : Nat) (w : World) (hL : L.In N w) (hK : K.In N w) (hN : N ≤ w.heap.size) :
    Calls Tryz.prog 92 #[.slice L.A L.l.length L.c, .slice K.A K.l.length K.c, .func (.func 64) #[] #[]] w (RetV w (.int .i64 (lowI cmpSS L.l K.l))) := by
  obtain ⟨A, c, B, d, l⟩ := L
  obtain ⟨A', c', B', d', l'⟩ := K
  have htop := hL.top
  have htop' := hK.top
  have hcap := hL.cap
  have hcap' := hK.cap
  unfold maxLen at htop htop'
  dsimp only at htop htop' hcap hcap' ⊢
  cases l' with
  | nil =>
    clear hL hK
    rw [show lowI cmpSS l [] = -1 by cases l <;> rfl]
    go_enter Tryz.func92, Tryz.ntmps92
    go_wp2_with fail
    go_ret
    exact ⟨rfl, Below.refl _ _⟩
  | cons y l' =>
    cases l with
    | nil =>
      clear hL hK
      rw [show lowI cmpSS [] (y :: l') = 1 from rfl]
      go_enter Tryz.func92, Tryz.ntmps92
      go_wp2_with fail
      go_ret
      exact ⟨rfl, Below.refl _ _⟩
    | cons x l =>
      obtain ⟨b, off, rfl, hb, hc⟩ := hL.ml.get (k := 0) (by simp)
      obtain ⟨b', off', rfl, hb', hc'⟩ := hK.ml.get (k := 0) (by simp)
      have c0 : w.cell? ⟨b, off, none⟩ = some (encS x.1) := hc 0 _ rfl
      have d0 : w.cell? ⟨b', off', none⟩ = some (encS y.1) := hc' 0 _ rfl
      have HX := Lib.hid (show OkS w.heap.size w x.1 from trivial)
      have HY := Lib.hid (show OkS w.heap.size w y.1 from trivial)
      have HC : Hid (∀ w2, Below w.heap.size w w2 → Calls Tryz.prog 64 #[encS x.1, encS y.1] w2 (RetV w2 (.int .i64 (cmpSS x.1 y.1)))) := fun w2 _ => strCmp_any x.1 y.1 w2
      rw [show lowI cmpSS (x :: l) (y :: l') = cmpSS x.1 y.1 from rfl]
      obtain ⟨q, hq⟩ : ∃ q, cmpSS x.1 y.1 = q := ⟨_, rfl⟩
      rw [hq] at HC ⊢
      obtain ⟨u, hu⟩ : ∃ u, encS x.1 = u := ⟨_, rfl⟩
      obtain ⟨v, hv⟩ : ∃ v, encS y.1 = v := ⟨_, rfl⟩
      rw [hu] at HC c0
      rw [hv] at HC d0
      have k0 : (((y :: l').length : Int) == 0) = false := beq_eq_false_iff_ne.2 (by simp only [List.length_cons]; omega)
      have k1 : (((x :: l).length : Int) == 0) = false := beq_eq_false_iff_ne.2 (by simp only [List.length_cons]; omega)
      have k2 : 0 < (x :: l).length := by simp
      have k3 : 0 < (y :: l').length := by simp
      have hbb : b < w.heap.size := Nat.lt_of_lt_of_le hb hN
      have hbb' : b' < w.heap.size := Nat.lt_of_lt_of_le hb' hN
      generalize (x :: l).length = n1 at *
      generalize (y :: l').length = n2 at *
      clear hL hK hc hc' hq hu hv HX HY
      go_enter Tryz.func92, Tryz.ntmps92
      go_wp2_with fail
      go_region_held3 (fun w' => w'.cell? ⟨b, off, none⟩ = some u ∧ w'.cell? ⟨b', off', none⟩ = some v)
        (first
          | with_reducible exact ⟨c0, d0⟩
          | (refine ⟨?_, ?_⟩ <;> go_simp))
        (first
          | (go_at_call 64; refine (HC.out _ (C3.drewB w)).mono ?_; rintro e w4 ⟨rfl, hb4⟩; (have c0 := (hb4.cell (p := ⟨b, off, none⟩) hbb).trans c0; have d0 := (hb4.cell (p := ⟨b', off', none⟩) hbb').trans d0)))
      all_goals (
        go_wp2_with fail
        go_ret
        exact ⟨rfl, (C3.drewB w).trans hb4⟩)

theorem results_splitS {fn : Func} {u p q : Tmp} (h : fn.results = #[.tmp u, .cell p 32, .cell q 107]) (tmps : Array Value) (w : World) (g k : Nat) (v0 v1 v2 v3 v4 u0 u1 : Value) (hp : tmps.getD p undef = .pointer (some ⟨g, 0, none⟩)) (hq : tmps.getD q undef = .pointer (some ⟨k, 0, none⟩))
    (h0 : w.cell? ⟨g, 0, none⟩ = some v0) (h1 : w.cell? ⟨g, 1, none⟩ = some v1) (h2 : w.cell? ⟨g, 2, none⟩ = some v2) (h3 : w.cell? ⟨g, 3, none⟩ = some v3) (h4 : w.cell? ⟨g, 4, none⟩ = some v4) (g0 : w.cell? ⟨k, 0, none⟩ = some u0) (g1 : w.cell? ⟨k, 1, none⟩ = some u1) : (results fn tmps).run Tryz.prog w = .ok (.tuple #[tmps.getD u undef, .agg #[v0, v1, v2, v3, v4], .agg #[u0, u1]]) w := by
  have hp' : tmps[p]?.getD undef = .pointer (some ⟨g, 0, none⟩) := by simpa using hp
  have hq' : tmps[q]?.getD undef = .pointer (some ⟨k, 0, none⟩) := by simpa using hq
  simp [results, h, hp', hq', asAddr]
  go_simp

/-- What split answers. -/
def RetSpS (N c d : Nat) (x : Str × Vl) (l : List (Str × Vl)) (w : World) (e : Ending) (w' : World) : Prop :=
  ∃ A' B', e = .returned (.tuple #[encS x.1, x.2.val, .agg #[.slice A' l.length (c - 1), .slice B' l.length (d - 1)]]) ∧ (LnS.mk A' (c - 1) B' (d - 1) l).In N w' ∧ Below w.heap.size w w'

set_option maxRecDepth 100000 in
set_option maxHeartbeats 2000000 in
theorem splitS_any (A B : Option Addr) (c d : Nat) (x : Str × Vl) (l : List (Str × Vl)) (N : Nat) (w : World) (hL : (LnS.mk A c B d (x :: l)).In N w) (hN : N ≤ w.heap.size) :
    Calls Tryz.prog 93 #[.agg #[.slice A (x :: l).length c, .slice B (x :: l).length d]] w (RetSpS N c d x l w) := by
  have htop := hL.top
  have hcap := hL.cap
  have hdop := hL.dop
  have hdap := hL.dap
  unfold maxLen at htop hdop
  dsimp only at htop hcap hdop hdap
  have hml := hL.ml
  have hvl := hL.vl
  dsimp only at hml hvl
  obtain ⟨b, off, rfl, hb, hc⟩ := hml.get (k := 0) (by simp)
  have c0 : w.cell? ⟨b, off, none⟩ = some (encS x.1) := hc 0 _ rfl
  obtain ⟨b', off', rfl, hb', e0, e1, e2, e3, e4⟩ := V4.value_at hvl (k := 0) (x := x.2) rfl
  rw [Nat.zero_mul, Nat.add_zero] at e0 e1 e2 e3 e4
  have htl : LiesC (fun b => b < N) w (some ⟨b, off + 1, none⟩) (l.map fun p => encS p.1) := LiesC.tail (u := [encS x.1]) hml
  have htv : LiesC (fun b => b < N) w (some ⟨b', off' + 5, none⟩) (cellsV (l.map (·.2))) := LiesC.tail (u := V4.cells5 x.2) (by rw [show V4.cells5 x.2 ++ cellsV (l.map (·.2)) = cellsV ((x :: l).map (·.2)) by simp [cellsV, V4.cells5]]; exact hvl)
  have HE : Hid (∀ (A' B' : Option Addr) (w' : World), (A' = some ⟨b, off + 1, none⟩ ∨ l = []) → (B' = some ⟨b', off' + 5, none⟩ ∨ l = []) → Below w.heap.size w w' → RetSpS N c d x l w (.returned (.tuple #[encS x.1, x.2.val, .agg #[.slice A' l.length (c - 1), .slice B' l.length (d - 1)]])) w') := by
    intro A' B' w' hA hB hbw
    refine ⟨A', B', rfl, ?_, hbw⟩
    have h1 : (LnS.mk A' (c - 1) B' (d - 1) l).In N w := by
      refine ⟨?_, ?_, ?_, ?_, ?_, ?_, fun p hp => hL.mo p (by simp [hp]), fun p hp => hL.vk p (by simp [hp])⟩
      · rcases hA with rfl | rfl
        · exact htl
        · exact .inl rfl
      · rcases hB with rfl | rfl
        · exact htv
        · exact .inl rfl
      · simp only [List.length_cons] at hcap ⊢; omega
      · unfold maxLen; show _ - 1 ≤ _; omega
      · simp only [List.length_cons] at hdap ⊢; omega
      · unfold maxLen; show _ - 1 ≤ _; omega
    exact h1.keep (hbw.mono hN)
  clear hL hml hvl hc htl htv
  obtain ⟨xm, xn, xM, xsA, xsc, xss, xcA, xcc, xcs, xvA, xvc, xvs⟩ := x
  simp only [val_mk, List.length_cons] at HE e0 e1 e2 e3 e4 hcap hdap c0 ⊢
  simp only [V4.Vl.n, V4.Vl.m, V4.Vl.s1, V4.Vl.c1, V4.Vl.v1] at e0 e1 e2 e3 e4
  obtain ⟨u, hu⟩ : ∃ u, encS xm = u := ⟨_, rfl⟩
  rw [hu] at HE c0
  clear hu
  have HLL : Hid (l.length = 0 → l = []) := List.eq_nil_of_length_eq_zero
  obtain ⟨n, hn⟩ : ∃ n, l.length = n := ⟨_, rfl⟩
  simp only [hn] at HE HLL hcap hdap ⊢
  clear hn
  have hbb : b < w.heap.size := Nat.lt_of_lt_of_le hb hN
  have hbb' : b' < w.heap.size := Nat.lt_of_lt_of_le hb' hN
  clear hb hb' hN
  obtain ⟨V, hV⟩ : ∃ V, ((w.alloc (.cells #[.slice (some ⟨b, off, none⟩) (n + 1) c, .slice (some ⟨b', off', none⟩) (n + 1) d] 107)).alloc (.cells #[.int .u64 0, .int .u64 0, .slice none 0 0, .slice none 0 0, .slice none 0 0] 32)).alloc (.cells #[.slice none 0 0, .slice none 0 0] 107) = V := ⟨_, rfl⟩
  have hbV : Below w.heap.size w V := by rw [← hV]; exact belAl (belAl (belAl (Below.refl _ _)))
  have c0 := (hbV.cell (p := ⟨b, off, none⟩) hbb).trans c0
  have e0 := (hbV.cell (p := ⟨b', off', none⟩) hbb').trans e0
  have e1 := (hbV.cell (p := ⟨b', off' + 1, none⟩) hbb').trans e1
  have e2 := (hbV.cell (p := ⟨b', off' + 2, none⟩) hbb').trans e2
  have e3 := (hbV.cell (p := ⟨b', off' + 3, none⟩) hbb').trans e3
  have e4 := (hbV.cell (p := ⟨b', off' + 4, none⟩) hbb').trans e4
  have k0 : V.cell? ⟨w.heap.size, 0, none⟩ = some (.slice (some ⟨b, off, none⟩) (n + 1) c) := by rw [← hV]; exact alloc3_0 0 _ rfl
  have k1 : V.cell? ⟨w.heap.size, 1, none⟩ = some (.slice (some ⟨b', off', none⟩) (n + 1) d) := by rw [← hV]; exact alloc3_0 1 _ rfl
  have hv1 : V.heap[w.heap.size + 1]? = some (.cells #[.int .u64 0, .int .u64 0, .slice none 0 0, .slice none 0 0, .slice none 0 0] 32 (0, 0)) := by
    rw [← hV]; have := World.alloc_heap_new (w.alloc (.cells #[.slice (some ⟨b, off, none⟩) (n + 1) c, .slice (some ⟨b', off', none⟩) (n + 1) d] 107)) (.cells #[.int .u64 0, .int .u64 0, .slice none 0 0, .slice none 0 0, .slice none 0 0] 32); rw [World.size_alloc] at this; exact (Below.heap_alloc _ _ _ (by simp)).trans this
  have hv2 : V.heap[w.heap.size + 1 + 1]? = some (.cells #[.slice none 0 0, .slice none 0 0] 107 (0, 0)) := by
    rw [← hV]; have := World.alloc_heap_new ((w.alloc (.cells #[.slice (some ⟨b, off, none⟩) (n + 1) c, .slice (some ⟨b', off', none⟩) (n + 1) d] 107)).alloc (.cells #[.int .u64 0, .int .u64 0, .slice none 0 0, .slice none 0 0, .slice none 0 0] 32)) (.cells #[.slice none 0 0, .slice none 0 0] 107); rw [World.size_alloc, World.size_alloc] at this; exact this
  have b0 : V.cell? ⟨w.heap.size + 1, 0, none⟩ = some (.int .u64 0) := blk_cell hv1 0 _ rfl
  have b1 : V.cell? ⟨w.heap.size + 1, 1, none⟩ = some (.int .u64 0) := blk_cell hv1 1 _ rfl
  have b2 : V.cell? ⟨w.heap.size + 1, 2, none⟩ = some (.slice none 0 0) := blk_cell hv1 2 _ rfl
  have b3 : V.cell? ⟨w.heap.size + 1, 3, none⟩ = some (.slice none 0 0) := blk_cell hv1 3 _ rfl
  have b4 : V.cell? ⟨w.heap.size + 1, 4, none⟩ = some (.slice none 0 0) := blk_cell hv1 4 _ rfl
  have f0 := blk_frozen hv1 0
  have f1 := blk_frozen hv1 1
  have f2 := blk_frozen hv1 2
  have f3 := blk_frozen hv1 3
  have f4 := blk_frozen hv1 4
  have l0 : V.cell? ⟨w.heap.size + 1 + 1, 0, none⟩ = some (.slice none 0 0) := blk_cell hv2 0 _ rfl
  have l1 : V.cell? ⟨w.heap.size + 1 + 1, 1, none⟩ = some (.slice none 0 0) := blk_cell hv2 1 _ rfl
  have m0 := blk_frozen hv2 0
  have m1 := blk_frozen hv2 1
  have HB := Lib.hid hbV
  have n1 : b ≠ w.heap.size + 1 := by omega
  have n2 : b ≠ w.heap.size + 1 + 1 := by omega
  have n3 : b' ≠ w.heap.size + 1 := by omega
  have n4 : b' ≠ w.heap.size + 1 + 1 := by omega
  clear hv1 hv2 hbV
  have HS : Hid (∀ v0 v1 v2 v3 v4 u0 u1, Below w.heap.size w ((((((((V.setCell ⟨w.heap.size + 1, 0, none⟩ v0).setCell ⟨w.heap.size + 1, 1, none⟩ v1).setCell ⟨w.heap.size + 1, 2, none⟩ v2).setCell ⟨w.heap.size + 1, 3, none⟩ v3).setCell ⟨w.heap.size + 1, 4, none⟩ v4).setCell ⟨w.heap.size + 1 + 1, 0, none⟩ u0).setCell ⟨w.heap.size + 1 + 1, 1, none⟩ u1).drew)) := fun v0 v1 v2 v3 v4 u0 u1 =>
    (((((((HB.out.setCell (by simp) _).setCell (by simp) _).setCell (by simp) _).setCell (by simp) _).setCell (by simp) _).setCell (by simp; omega) _).setCell (by simp; omega) _).drew
  have q1 : 1 ≤ c := by omega
  have q2 : 1 ≤ d := by omega
  go_enter Tryz.func93, Tryz.ntmps93
  go_wp2_with fail
  go_region
  obtain ⟨A2, hA2⟩ : ∃ A2 : Option Addr, (if c = 1 then some ⟨b, off, none⟩ else some ⟨b, off + 1, none⟩) = A2 := ⟨_, rfl⟩
  obtain ⟨B2, hB2⟩ : ∃ B2 : Option Addr, (if d = 1 then some ⟨b', off', none⟩ else some ⟨b', off' + 5, none⟩) = B2 := ⟨_, rfl⟩
  simp only [hA2, hB2]
  have HA2 : Hid (A2 = some ⟨b, off + 1, none⟩ ∨ l = []) := by
    show _ ∨ _
    rw [← hA2]
    split
    · exact .inr (HLL.out (by omega))
    · exact .inl rfl
  have HB2 : Hid (B2 = some ⟨b', off' + 5, none⟩ ∨ l = []) := by
    show _ ∨ _
    rw [← hB2]
    split
    · exact .inr (HLL.out (by omega))
    · exact .inl rfl
  clear hA2 hB2
  go_wp2_with fail
  refine bodyPost_ret (results_splitS rfl _ _ (w.heap.size + 1) (w.heap.size + 1 + 1) (.int .u64 xn) (.int .u64 xM) (.slice xsA xss.length xsc) (.slice xcA xcs.length xcc) (.slice xvA xvs.length xvc) (.slice A2 n (c - 1)) (.slice B2 n (d - 1)) rfl rfl (by go_simp) (by go_simp) (by go_simp) (by go_simp) (by go_simp) (by go_simp) (by go_simp)) rfl ?_
  exact HE.out _ _ _ HA2.out HB2.out (HS.out _ _ _ _ _ _ _)

def encT (x : Ck) : Value := x.v
def cmpTT (x y : Ck) : Int := cmpT x.l y.l
def OkT (N : Nat) (w : World) (x : Ck) : Prop := x.Inp (fun b => b < N) w
/-- A line where it lies. -/
structure LnT where
  A : Option Addr
  c : Nat
  B : Option Addr
  d : Nat
  l : List (Ck × Vl)
def LnT.val (L : LnT) : Value := .agg #[.slice L.A L.l.length L.c, .slice L.B L.l.length L.d]
structure LnT.In (N : Nat) (w : World) (L : LnT) : Prop where
  ml : LiesC (fun b => b < N) w L.A (L.l.map fun p => encT p.1)
  vl : LiesC (fun b => b < N) w L.B (cellsV (L.l.map (·.2)))
  cap : L.l.length ≤ L.c
  top : L.c ≤ maxLen
  dap : L.l.length ≤ L.d
  dop : L.d ≤ maxLen
  mo : ∀ p ∈ L.l, OkT N w p.1
  vk : ∀ p ∈ L.l, p.2.Inp (fun b => b < N) w
theorem OkT.keep {N : Nat} {w w' : World} {x : Ck} (h : OkT N w x) (hb : Below N w w') : OkT N w' x := V4.Ck.Inp.keep h fun b hlt => hb.block b hlt
theorem LnT.In.keep {N : Nat} {w w' : World} {L : LnT} (h : L.In N w) (hb : Below N w w') : L.In N w' :=
  ⟨h.ml.keep fun b hlt => hb.block b hlt, h.vl.keep fun b hlt => hb.block b hlt, h.cap, h.top, h.dap, h.dop, fun p hp => (h.mo p hp).keep hb, fun p hp => (h.vk p hp).keep fun b hlt => hb.block b hlt⟩

set_option maxHeartbeats 1000000 in
theorem lowerT_any (L K : LnT) (N : Nat) (w : World) (hL : L.In N w) (hK : K.In N w) (hN : N ≤ w.heap.size) :
    Calls Tryz.prog 103 #[.slice L.A L.l.length L.c, .slice K.A K.l.length K.c, .func (.func 73) #[] #[]] w (RetV w (.int .i64 (lowI cmpTT L.l K.l))) := by
  obtain ⟨A, c, B, d, l⟩ := L
  obtain ⟨A', c', B', d', l'⟩ := K
  have htop := hL.top
  have htop' := hK.top
  have hcap := hL.cap
  have hcap' := hK.cap
  unfold maxLen at htop htop'
  dsimp only at htop htop' hcap hcap' ⊢
  cases l' with
  | nil =>
    clear hL hK
    rw [show lowI cmpTT l [] = -1 by cases l <;> rfl]
    go_enter Tryz.func103, Tryz.ntmps103
    go_wp2_with fail
    go_ret
    exact ⟨rfl, Below.refl _ _⟩
  | cons y l' =>
    cases l with
    | nil =>
      clear hL hK
      rw [show lowI cmpTT [] (y :: l') = 1 from rfl]
      go_enter Tryz.func103, Tryz.ntmps103
      go_wp2_with fail
      go_ret
      exact ⟨rfl, Below.refl _ _⟩
    | cons x l =>
      obtain ⟨b, off, rfl, hb, hc⟩ := hL.ml.get (k := 0) (by simp)
      obtain ⟨b', off', rfl, hb', hc'⟩ := hK.ml.get (k := 0) (by simp)
      have c0 : w.cell? ⟨b, off, none⟩ = some (encT x.1) := hc 0 _ rfl
      have d0 : w.cell? ⟨b', off', none⟩ = some (encT y.1) := hc' 0 _ rfl
      have HX := Lib.hid (show OkT w.heap.size w x.1 from (hL.mo x (by simp)).mono fun _ h => Nat.lt_of_lt_of_le h hN)
      have HY := Lib.hid (show OkT w.heap.size w y.1 from (hK.mo y (by simp)).mono fun _ h => Nat.lt_of_lt_of_le h hN)
      have HC : Hid (∀ w2, Below w.heap.size w w2 → Calls Tryz.prog 73 #[encT x.1, encT y.1] w2 (RetV w2 (.int .i64 (cmpTT x.1 y.1)))) := fun w2 hb2 => byTicks_any x.1.A y.1.A x.1.c y.1.c x.1.l y.1.l w2 ((V4.Ck.Inp.keep HX.out fun b h => hb2.block b h).mono fun _ h => Nat.lt_of_lt_of_le h hb2.size).inn ((V4.Ck.Inp.keep HY.out fun b h => hb2.block b h).mono fun _ h => Nat.lt_of_lt_of_le h hb2.size).inn
      rw [show lowI cmpTT (x :: l) (y :: l') = cmpTT x.1 y.1 from rfl]
      obtain ⟨q, hq⟩ : ∃ q, cmpTT x.1 y.1 = q := ⟨_, rfl⟩
      rw [hq] at HC ⊢
      obtain ⟨u, hu⟩ : ∃ u, encT x.1 = u := ⟨_, rfl⟩
      obtain ⟨v, hv⟩ : ∃ v, encT y.1 = v := ⟨_, rfl⟩
      rw [hu] at HC c0
      rw [hv] at HC d0
      have k0 : (((y :: l').length : Int) == 0) = false := beq_eq_false_iff_ne.2 (by simp only [List.length_cons]; omega)
      have k1 : (((x :: l).length : Int) == 0) = false := beq_eq_false_iff_ne.2 (by simp only [List.length_cons]; omega)
      have k2 : 0 < (x :: l).length := by simp
      have k3 : 0 < (y :: l').length := by simp
      have hbb : b < w.heap.size := Nat.lt_of_lt_of_le hb hN
      have hbb' : b' < w.heap.size := Nat.lt_of_lt_of_le hb' hN
      generalize (x :: l).length = n1 at *
      generalize (y :: l').length = n2 at *
      clear hL hK hc hc' hq hu hv HX HY
      go_enter Tryz.func103, Tryz.ntmps103
      go_wp2_with fail
      go_region_held3 (fun w' => w'.cell? ⟨b, off, none⟩ = some u ∧ w'.cell? ⟨b', off', none⟩ = some v)
        (first
          | with_reducible exact ⟨c0, d0⟩
          | (refine ⟨?_, ?_⟩ <;> go_simp))
        (first
          | (go_at_call 73; refine (HC.out _ (C3.drewB w)).mono ?_; rintro e w4 ⟨rfl, hb4⟩; (have c0 := (hb4.cell (p := ⟨b, off, none⟩) hbb).trans c0; have d0 := (hb4.cell (p := ⟨b', off', none⟩) hbb').trans d0)))
      all_goals (
        go_wp2_with fail
        go_ret
        exact ⟨rfl, (C3.drewB w).trans hb4⟩)

theorem results_splitT {fn : Func} {u p q : Tmp} (h : fn.results = #[.tmp u, .cell p 32, .cell q 120]) (tmps : Array Value) (w : World) (g k : Nat) (v0 v1 v2 v3 v4 u0 u1 : Value) (hp : tmps.getD p undef = .pointer (some ⟨g, 0, none⟩)) (hq : tmps.getD q undef = .pointer (some ⟨k, 0, none⟩))
    (h0 : w.cell? ⟨g, 0, none⟩ = some v0) (h1 : w.cell? ⟨g, 1, none⟩ = some v1) (h2 : w.cell? ⟨g, 2, none⟩ = some v2) (h3 : w.cell? ⟨g, 3, none⟩ = some v3) (h4 : w.cell? ⟨g, 4, none⟩ = some v4) (g0 : w.cell? ⟨k, 0, none⟩ = some u0) (g1 : w.cell? ⟨k, 1, none⟩ = some u1) : (results fn tmps).run Tryz.prog w = .ok (.tuple #[tmps.getD u undef, .agg #[v0, v1, v2, v3, v4], .agg #[u0, u1]]) w := by
  have hp' : tmps[p]?.getD undef = .pointer (some ⟨g, 0, none⟩) := by simpa using hp
  have hq' : tmps[q]?.getD undef = .pointer (some ⟨k, 0, none⟩) := by simpa using hq
  simp [results, h, hp', hq', asAddr]
  go_simp

/-- What split answers. -/
def RetSpT (N c d : Nat) (x : Ck × Vl) (l : List (Ck × Vl)) (w : World) (e : Ending) (w' : World) : Prop :=
  ∃ A' B', e = .returned (.tuple #[encT x.1, x.2.val, .agg #[.slice A' l.length (c - 1), .slice B' l.length (d - 1)]]) ∧ (LnT.mk A' (c - 1) B' (d - 1) l).In N w' ∧ Below w.heap.size w w'

set_option maxRecDepth 100000 in
set_option maxHeartbeats 2000000 in
theorem splitT_any (A B : Option Addr) (c d : Nat) (x : Ck × Vl) (l : List (Ck × Vl)) (N : Nat) (w : World) (hL : (LnT.mk A c B d (x :: l)).In N w) (hN : N ≤ w.heap.size) :
    Calls Tryz.prog 104 #[.agg #[.slice A (x :: l).length c, .slice B (x :: l).length d]] w (RetSpT N c d x l w) := by
  have htop := hL.top
  have hcap := hL.cap
  have hdop := hL.dop
  have hdap := hL.dap
  unfold maxLen at htop hdop
  dsimp only at htop hcap hdop hdap
  have hml := hL.ml
  have hvl := hL.vl
  dsimp only at hml hvl
  obtain ⟨b, off, rfl, hb, hc⟩ := hml.get (k := 0) (by simp)
  have c0 : w.cell? ⟨b, off, none⟩ = some (encT x.1) := hc 0 _ rfl
  obtain ⟨b', off', rfl, hb', e0, e1, e2, e3, e4⟩ := V4.value_at hvl (k := 0) (x := x.2) rfl
  rw [Nat.zero_mul, Nat.add_zero] at e0 e1 e2 e3 e4
  have htl : LiesC (fun b => b < N) w (some ⟨b, off + 1, none⟩) (l.map fun p => encT p.1) := LiesC.tail (u := [encT x.1]) hml
  have htv : LiesC (fun b => b < N) w (some ⟨b', off' + 5, none⟩) (cellsV (l.map (·.2))) := LiesC.tail (u := V4.cells5 x.2) (by rw [show V4.cells5 x.2 ++ cellsV (l.map (·.2)) = cellsV ((x :: l).map (·.2)) by simp [cellsV, V4.cells5]]; exact hvl)
  have HE : Hid (∀ (A' B' : Option Addr) (w' : World), (A' = some ⟨b, off + 1, none⟩ ∨ l = []) → (B' = some ⟨b', off' + 5, none⟩ ∨ l = []) → Below w.heap.size w w' → RetSpT N c d x l w (.returned (.tuple #[encT x.1, x.2.val, .agg #[.slice A' l.length (c - 1), .slice B' l.length (d - 1)]])) w') := by
    intro A' B' w' hA hB hbw
    refine ⟨A', B', rfl, ?_, hbw⟩
    have h1 : (LnT.mk A' (c - 1) B' (d - 1) l).In N w := by
      refine ⟨?_, ?_, ?_, ?_, ?_, ?_, fun p hp => hL.mo p (by simp [hp]), fun p hp => hL.vk p (by simp [hp])⟩
      · rcases hA with rfl | rfl
        · exact htl
        · exact .inl rfl
      · rcases hB with rfl | rfl
        · exact htv
        · exact .inl rfl
      · simp only [List.length_cons] at hcap ⊢; omega
      · unfold maxLen; show _ - 1 ≤ _; omega
      · simp only [List.length_cons] at hdap ⊢; omega
      · unfold maxLen; show _ - 1 ≤ _; omega
    exact h1.keep (hbw.mono hN)
  clear hL hml hvl hc htl htv
  obtain ⟨xm, xn, xM, xsA, xsc, xss, xcA, xcc, xcs, xvA, xvc, xvs⟩ := x
  simp only [val_mk, List.length_cons] at HE e0 e1 e2 e3 e4 hcap hdap c0 ⊢
  simp only [V4.Vl.n, V4.Vl.m, V4.Vl.s1, V4.Vl.c1, V4.Vl.v1] at e0 e1 e2 e3 e4
  obtain ⟨u, hu⟩ : ∃ u, encT xm = u := ⟨_, rfl⟩
  rw [hu] at HE c0
  clear hu
  have HLL : Hid (l.length = 0 → l = []) := List.eq_nil_of_length_eq_zero
  obtain ⟨n, hn⟩ : ∃ n, l.length = n := ⟨_, rfl⟩
  simp only [hn] at HE HLL hcap hdap ⊢
  clear hn
  have hbb : b < w.heap.size := Nat.lt_of_lt_of_le hb hN
  have hbb' : b' < w.heap.size := Nat.lt_of_lt_of_le hb' hN
  clear hb hb' hN
  obtain ⟨V, hV⟩ : ∃ V, ((w.alloc (.cells #[.slice (some ⟨b, off, none⟩) (n + 1) c, .slice (some ⟨b', off', none⟩) (n + 1) d] 120)).alloc (.cells #[.int .u64 0, .int .u64 0, .slice none 0 0, .slice none 0 0, .slice none 0 0] 32)).alloc (.cells #[.slice none 0 0, .slice none 0 0] 120) = V := ⟨_, rfl⟩
  have hbV : Below w.heap.size w V := by rw [← hV]; exact belAl (belAl (belAl (Below.refl _ _)))
  have c0 := (hbV.cell (p := ⟨b, off, none⟩) hbb).trans c0
  have e0 := (hbV.cell (p := ⟨b', off', none⟩) hbb').trans e0
  have e1 := (hbV.cell (p := ⟨b', off' + 1, none⟩) hbb').trans e1
  have e2 := (hbV.cell (p := ⟨b', off' + 2, none⟩) hbb').trans e2
  have e3 := (hbV.cell (p := ⟨b', off' + 3, none⟩) hbb').trans e3
  have e4 := (hbV.cell (p := ⟨b', off' + 4, none⟩) hbb').trans e4
  have k0 : V.cell? ⟨w.heap.size, 0, none⟩ = some (.slice (some ⟨b, off, none⟩) (n + 1) c) := by rw [← hV]; exact alloc3_0 0 _ rfl
  have k1 : V.cell? ⟨w.heap.size, 1, none⟩ = some (.slice (some ⟨b', off', none⟩) (n + 1) d) := by rw [← hV]; exact alloc3_0 1 _ rfl
  have hv1 : V.heap[w.heap.size + 1]? = some (.cells #[.int .u64 0, .int .u64 0, .slice none 0 0, .slice none 0 0, .slice none 0 0] 32 (0, 0)) := by
    rw [← hV]; have := World.alloc_heap_new (w.alloc (.cells #[.slice (some ⟨b, off, none⟩) (n + 1) c, .slice (some ⟨b', off', none⟩) (n + 1) d] 120)) (.cells #[.int .u64 0, .int .u64 0, .slice none 0 0, .slice none 0 0, .slice none 0 0] 32); rw [World.size_alloc] at this; exact (Below.heap_alloc _ _ _ (by simp)).trans this
  have hv2 : V.heap[w.heap.size + 1 + 1]? = some (.cells #[.slice none 0 0, .slice none 0 0] 120 (0, 0)) := by
    rw [← hV]; have := World.alloc_heap_new ((w.alloc (.cells #[.slice (some ⟨b, off, none⟩) (n + 1) c, .slice (some ⟨b', off', none⟩) (n + 1) d] 120)).alloc (.cells #[.int .u64 0, .int .u64 0, .slice none 0 0, .slice none 0 0, .slice none 0 0] 32)) (.cells #[.slice none 0 0, .slice none 0 0] 120); rw [World.size_alloc, World.size_alloc] at this; exact this
  have b0 : V.cell? ⟨w.heap.size + 1, 0, none⟩ = some (.int .u64 0) := blk_cell hv1 0 _ rfl
  have b1 : V.cell? ⟨w.heap.size + 1, 1, none⟩ = some (.int .u64 0) := blk_cell hv1 1 _ rfl
  have b2 : V.cell? ⟨w.heap.size + 1, 2, none⟩ = some (.slice none 0 0) := blk_cell hv1 2 _ rfl
  have b3 : V.cell? ⟨w.heap.size + 1, 3, none⟩ = some (.slice none 0 0) := blk_cell hv1 3 _ rfl
  have b4 : V.cell? ⟨w.heap.size + 1, 4, none⟩ = some (.slice none 0 0) := blk_cell hv1 4 _ rfl
  have f0 := blk_frozen hv1 0
  have f1 := blk_frozen hv1 1
  have f2 := blk_frozen hv1 2
  have f3 := blk_frozen hv1 3
  have f4 := blk_frozen hv1 4
  have l0 : V.cell? ⟨w.heap.size + 1 + 1, 0, none⟩ = some (.slice none 0 0) := blk_cell hv2 0 _ rfl
  have l1 : V.cell? ⟨w.heap.size + 1 + 1, 1, none⟩ = some (.slice none 0 0) := blk_cell hv2 1 _ rfl
  have m0 := blk_frozen hv2 0
  have m1 := blk_frozen hv2 1
  have HB := Lib.hid hbV
  have n1 : b ≠ w.heap.size + 1 := by omega
  have n2 : b ≠ w.heap.size + 1 + 1 := by omega
  have n3 : b' ≠ w.heap.size + 1 := by omega
  have n4 : b' ≠ w.heap.size + 1 + 1 := by omega
  clear hv1 hv2 hbV
  have HS : Hid (∀ v0 v1 v2 v3 v4 u0 u1, Below w.heap.size w ((((((((V.setCell ⟨w.heap.size + 1, 0, none⟩ v0).setCell ⟨w.heap.size + 1, 1, none⟩ v1).setCell ⟨w.heap.size + 1, 2, none⟩ v2).setCell ⟨w.heap.size + 1, 3, none⟩ v3).setCell ⟨w.heap.size + 1, 4, none⟩ v4).setCell ⟨w.heap.size + 1 + 1, 0, none⟩ u0).setCell ⟨w.heap.size + 1 + 1, 1, none⟩ u1).drew)) := fun v0 v1 v2 v3 v4 u0 u1 =>
    (((((((HB.out.setCell (by simp) _).setCell (by simp) _).setCell (by simp) _).setCell (by simp) _).setCell (by simp) _).setCell (by simp; omega) _).setCell (by simp; omega) _).drew
  have q1 : 1 ≤ c := by omega
  have q2 : 1 ≤ d := by omega
  go_enter Tryz.func104, Tryz.ntmps104
  go_wp2_with fail
  go_region
  obtain ⟨A2, hA2⟩ : ∃ A2 : Option Addr, (if c = 1 then some ⟨b, off, none⟩ else some ⟨b, off + 1, none⟩) = A2 := ⟨_, rfl⟩
  obtain ⟨B2, hB2⟩ : ∃ B2 : Option Addr, (if d = 1 then some ⟨b', off', none⟩ else some ⟨b', off' + 5, none⟩) = B2 := ⟨_, rfl⟩
  simp only [hA2, hB2]
  have HA2 : Hid (A2 = some ⟨b, off + 1, none⟩ ∨ l = []) := by
    show _ ∨ _
    rw [← hA2]
    split
    · exact .inr (HLL.out (by omega))
    · exact .inl rfl
  have HB2 : Hid (B2 = some ⟨b', off' + 5, none⟩ ∨ l = []) := by
    show _ ∨ _
    rw [← hB2]
    split
    · exact .inr (HLL.out (by omega))
    · exact .inl rfl
  clear hA2 hB2
  go_wp2_with fail
  refine bodyPost_ret (results_splitT rfl _ _ (w.heap.size + 1) (w.heap.size + 1 + 1) (.int .u64 xn) (.int .u64 xM) (.slice xsA xss.length xsc) (.slice xcA xcs.length xcc) (.slice xvA xvs.length xvc) (.slice A2 n (c - 1)) (.slice B2 n (d - 1)) rfl rfl (by go_simp) (by go_simp) (by go_simp) (by go_simp) (by go_simp) (by go_simp) (by go_simp)) rfl ?_
  exact HE.out _ _ _ HA2.out HB2.out (HS.out _ _ _ _ _ _ _)
end Go.Proofs.YtleejffjnknohaaGreat.J5
