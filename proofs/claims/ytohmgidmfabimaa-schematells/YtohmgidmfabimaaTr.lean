/- Schemas as trees, and what is told of them: plain mathematics. No condition. -/
import Derived.Lib.Hide
namespace Go.Proofs.Ytohmgidmfabimaa

/-- A schema: its kind, and what is in it. -/
inductive Tr where
  | mk (k : Int) (ins : List Tr)

def Tr.k : Tr → Int | .mk k _ => k
def Tr.ins : Tr → List Tr | .mk _ l => l

theorem Tr.ind {P : Tr → Prop} (h : ∀ k l, (∀ x ∈ l, P x) → P (.mk k l)) : ∀ t, P t := fun t =>
  Tr.rec (motive_1 := P) (motive_2 := fun l => ∀ x ∈ l, P x) (fun k l ih => h k l ih) (by simp) (fun x l hx hl y hy => by
    rcases List.mem_cons.1 hy with rfl | h'
    · exact hx
    · exact hl y h') t

mutual
def Tr.same : Tr → Tr → Bool
  | .mk k l, .mk k' l' => decide (k = k') && Tr.sameL l l'
def Tr.sameL : List Tr → List Tr → Bool
  | [], [] => true
  | x :: l, y :: l' => x.same y && Tr.sameL l l'
  | [], _ :: _ => false
  | _ :: _, [] => false
end

theorem Tr.same_iff : ∀ a b : Tr, a.same b = true ↔ a = b := by
  intro a
  refine Tr.rec (motive_1 := fun a => ∀ b, a.same b = true ↔ a = b) (motive_2 := fun l => ∀ l', Tr.sameL l l' = true ↔ l = l') ?_ ?_ ?_ a
  · rintro k l ih ⟨k', l'⟩
    simp [Tr.same, ih l']
  · intro l'; cases l' <;> simp [Tr.sameL]
  · intro x l hx hl l'
    cases l' with
    | nil => simp [Tr.sameL]
    | cons y l' => simp [Tr.sameL, hx y, hl l']

instance : DecidableEq Tr := fun a b => decidable_of_iff (a.same b = true) (Tr.same_iff a b)

/-- How many are in a schema of that kind; -1 where it is no kind. -/
def arI (k : Int) : Int := if k = 1 ∨ k = 2 ∨ k = 3 ∨ k = 6 ∨ k = 7 then 0 else if k = 4 ∨ k = 8 then 1 else if k = 5 then 2 else -1

/-- A schema of at most n deep. -/
def isT : Nat → Tr → Bool
  | 0, _ => false
  | n + 1, t => decide ((t.ins.length : Int) = arI t.k) && t.ins.all (isT n)

/-- How deep, n at most. -/
def deepT : Nat → Tr → Nat
  | 0, _ => 0
  | n + 1, t => (t.ins.map (deepT n)).foldl max 0 + 1

/-- What a write leans on. -/
def leanT : Tr := .mk 4 [.mk 7 []]
def causeT (t : Tr) : Tr := .mk 8 [.mk 5 [leanT, t]]

/-- Is it what causeT makes, of schemas? -/
def causalT : Tr → Bool
  | .mk k [.mk k1 (x :: _)] => decide (k = 8 ∧ k1 = 5 ∧ x = leanT)
  | _ => false

/-- The level of a table. -/
def levelT (t : Tr) : Int := if isT 16 t then (if t.k = 6 then 2 else if causalT t then 3 else 1) else 0

theorem foldl_max_le {l : List Nat} {a b : Nat} : l.foldl max a ≤ b ↔ a ≤ b ∧ ∀ x ∈ l, x ≤ b := by
  induction l generalizing a with
  | nil => simp
  | cons x l ih =>
    rw [List.foldl_cons, ih, List.forall_mem_cons, ← and_assoc, Nat.max_le]

theorem foldl_max_eq {l : List Nat} {a : Nat} : l.foldl max a = max a (l.foldl max 0) := by
  have h1 := (foldl_max_le (l := l) (a := a) (b := l.foldl max a)).1 (Nat.le_refl _)
  have h2 := (foldl_max_le (l := l) (a := 0) (b := l.foldl max 0)).1 (Nat.le_refl _)
  have h3 : l.foldl max a ≤ max a (l.foldl max 0) := foldl_max_le.2 ⟨by omega, fun x hx => by have := h2.2 x hx; omega⟩
  have h4 : l.foldl max 0 ≤ l.foldl max a := foldl_max_le.2 ⟨by omega, fun x hx => h1.2 x hx⟩
  omega

theorem deepT_le (n : Nat) (t : Tr) : deepT n t ≤ n := by
  induction n generalizing t with
  | zero => simp [deepT]
  | succ n ih =>
    have : (t.ins.map (deepT n)).foldl max 0 ≤ n := foldl_max_le.2 ⟨by omega, fun x hx => by
      obtain ⟨y, _, rfl⟩ := List.mem_map.1 hx
      exact ih y⟩
    simp only [deepT]
    omega
end Go.Proofs.Ytohmgidmfabimaa
