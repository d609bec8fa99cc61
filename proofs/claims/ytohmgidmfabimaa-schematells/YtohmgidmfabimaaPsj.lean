/- What the walk over a schema tells: whether it is one, how deep. Plain mathematics. No condition. -/
import Derived.Test.YtohmgidmfabimaaPsi
namespace Go.Proofs.Ytohmgidmfabimaa
open Go.RowKit

theorem wrap_id {d : Int} (h0 : 0 ≤ d) (h1 : d ≤ 1000) : wrap64 (d + 1) = d + 1 := by
  unfold wrap64
  omega

theorem good_pre : ∀ (s : Sc) (n : Nat) (d : Int), d = 17 - n → n ≤ 16 → (preS s d).all goodS = isT n s.er := by
  intro s
  induction s using Sc.ind with
  | h k A c l ih =>
    intro n d hd hn
    rw [preS, List.all_cons]
    cases n with
    | zero =>
      have : d = 17 := by omega
      subst this
      rfl
    | succ n =>
      have hl : ∀ l' : List Sc, (∀ x ∈ l', x ∈ l) → (preL l' (wrap64 (d + 1))).all goodS = l'.all fun x => isT n x.er := by
        intro l'
        induction l' with
        | nil => intro _; rfl
        | cons x l' ih' =>
          intro hm
          rw [preL, List.all_append, List.all_cons, ih' (fun y hy => hm y (List.mem_cons_of_mem _ hy)), wrap_id (by omega) (by omega), ih x (hm x (List.mem_cons_self ..)) n (d + 1) (by omega) (by omega)]
      rw [hl l (fun _ h => h), isT_succ]
      have e1 : goodS (d, Sc.mk k A c l) = decide ((l.length : Int) = arI k) := by
        show (decide (d ≤ 16) && decide ((l.length : Int) = arI k)) = _
        rw [decide_eq_true (by omega), Bool.true_and]
      rw [e1]

/-- The deepest that was met. -/
def mxD (l : List (Int × Sc)) (m : Int) : Int := l.foldl (fun m x => max m x.1) m

theorem mxD_le (l : List (Int × Sc)) (m : Int) : m ≤ mxD l m := by
  induction l generalizing m with
  | nil => exact Int.le_refl _
  | cons x l ih =>
    have := ih (max m x.1)
    show m ≤ mxD l (max m x.1)
    omega
theorem mxD_snoc (l : List (Int × Sc)) (x : Int × Sc) (m : Int) : mxD (l ++ [x]) m = max (mxD l m) x.1 := by simp [mxD]

/-- The walk as Deep goes it: it leaves at what is too deep. -/
def dpD : Int → List (Int × Sc) → Int
  | m, [] => m
  | m, x :: r => if 16 < max m x.1 then max m x.1 else dpD (max m x.1) r

theorem dpD_go (p r : List (Int × Sc)) (m : Int) (h : mxD p m ≤ 16) : dpD m (p ++ r) = dpD (mxD p m) r := by
  induction p generalizing m with
  | nil => rfl
  | cons x p ih =>
    have h1 : mxD p (max m x.1) ≤ 16 := h
    have h2 := mxD_le p (max m x.1)
    rw [List.cons_append, dpD, if_neg (by omega)]
    exact ih _ h1
theorem dpD_stop (p r : List (Int × Sc)) (x : Int × Sc) (m : Int) (h : mxD p m ≤ 16) (h' : 16 < mxD (p ++ [x]) m) : dpD m (p ++ [x] ++ r) = mxD (p ++ [x]) m := by
  rw [List.append_assoc, dpD_go p _ m h, List.cons_append, dpD]
  rw [mxD_snoc] at h' ⊢
  rw [if_pos h']

/-- What is left of the walk behind a part of it whose deepest is e. -/
def thenD (e m : Int) (r : List (Int × Sc)) : Int := if 16 < e then e else dpD (max m e) r

theorem deep_pre : ∀ (s : Sc) (n : Nat) (d m : Int) (r : List (Int × Sc)), d = 17 - n → n ≤ 16 → d - 1 ≤ m → m ≤ 16 → dpD m (preS s d ++ r) = thenD (d - 1 + deepT (n + 1) s.er) m r := by
  intro s
  induction s using Sc.ind with
  | h k A c l ih =>
    intro n d m r hd hn hm0 hm1
    rw [preS, List.cons_append, dpD]
    cases n with
    | zero =>
      have : d = 17 := by omega
      subst this
      have h1 : deepT 1 (Sc.mk k A c l).er = 1 := by
        rw [deepT]
        have : (((Sc.mk k A c l).er.ins).map (deepT 0)).foldl max 0 ≤ 0 := foldl_max_le.2 ⟨Nat.le_refl _, fun x hx => by
          obtain ⟨y, _, rfl⟩ := List.mem_map.1 hx
          exact Nat.le_refl _⟩
        omega
      show (if 16 < max m 17 then max m 17 else _) = thenD (17 - 1 + (deepT 1 (Sc.mk k A c l).er : Nat)) m r
      rw [h1, if_pos (by omega), thenD, if_pos (by omega)]
      omega
    | succ n =>
      show (if 16 < max m d then max m d else dpD (max m d) (preL l (wrap64 (d + 1)) ++ r)) = _
      rw [if_neg (by omega), wrap_id (by omega) (by omega)]
      have hl : ∀ (l' : List Sc), (∀ x ∈ l', x ∈ l) → ∀ (m' : Int), d ≤ m' → m' ≤ 16 → dpD m' (preL l' (d + 1) ++ r) = thenD (d + (((l'.map fun x => deepT (n + 1) x.er).foldl max 0 : Nat) : Int)) m' r := by
        intro l'
        induction l' with
        | nil =>
          intro _ m' h1 h2
          show dpD m' r = thenD (d + ((0 : Nat) : Int)) m' r
          rw [thenD, if_neg (by omega)]
          congr 1
          omega
        | cons x l' ih' =>
          intro hm m' h1 h2
          have hmx : ∀ y ∈ l', y ∈ l := fun y hy => hm y (List.mem_cons_of_mem _ hy)
          have hdx := deepT_le (n + 1) x.er
          have hdl : (l'.map fun x => deepT (n + 1) x.er).foldl max 0 ≤ n + 1 := foldl_max_le.2 ⟨by omega, fun y hy => by
            obtain ⟨z, _, rfl⟩ := List.mem_map.1 hy
            exact deepT_le _ _⟩
          rw [preL, List.append_assoc, ih x (hm x (List.mem_cons_self ..)) n (d + 1) m' _ (by omega) (by omega) (by omega) h2]
          rw [List.map_cons, List.foldl_cons, foldl_max_eq]
          unfold thenD
          by_cases hx : 16 < d + 1 - 1 + (deepT (n + 1) x.er : Int)
          · rw [if_pos hx, if_pos (by omega)]
            omega
          · rw [if_neg hx, ih' hmx _ (by omega) (by omega)]
            unfold thenD
            by_cases hy : 16 < d + (((l'.map fun x => deepT (n + 1) x.er).foldl max 0 : Nat) : Int)
            · rw [if_pos hy, if_pos (by omega)]
              omega
            · rw [if_neg hy, if_neg (by omega)]
              congr 1
              omega
      rw [hl l (fun _ h => h) (max m d) (by omega) (by omega)]
      have e : deepT (n + 1 + 1) (Sc.mk k A c l).er = (l.map fun x => deepT (n + 1) x.er).foldl max 0 + 1 := by
        rw [deepT, er_ins, List.map_map]
        rfl
      rw [e]
      unfold thenD
      by_cases hx : 16 < d + (((l.map fun x => deepT (n + 1) x.er).foldl max 0 : Nat) : Int)
      · rw [if_pos hx, if_pos (by omega)]
        omega
      · rw [if_neg hx, if_neg (by omega)]
        congr 1
        omega

theorem deep_all (s : Sc) : dpD 0 (preS s 1) = deepT 17 s.er := by
  have := deep_pre s 16 1 0 [] (by omega) (by omega) (by omega) (by omega)
  rw [List.append_nil] at this
  rw [this]
  have hd := deepT_le 17 s.er
  have hd1 : 1 ≤ deepT 17 s.er := by rw [deepT]; omega
  unfold thenD
  by_cases h : 16 < (1 : Int) - 1 + (deepT (16 + 1) s.er : Nat)
  · rw [if_pos h]; show (1 : Int) - 1 + (deepT 17 s.er : Nat) = _; omega
  · rw [if_neg h]; show max 0 ((1 : Int) - 1 + (deepT 17 s.er : Nat)) = _; omega

set_option maxHeartbeats 400000 in
theorem Is_any (s : Sc) (w : World) (hin : s.In w.heap.size w) : Calls Try.prog 6 #[s.val] w (RetV w (.bool (isT 16 s.er))) := by
  rw [← good_pre s 16 1 (by omega) (by omega)]
  exact Is_pre s w hin
end Go.Proofs.Ytohmgidmfabimaa
