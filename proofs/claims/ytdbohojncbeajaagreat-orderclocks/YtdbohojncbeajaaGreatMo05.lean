/- Two rows gone through together: plain mathematics. No condition. What the reference's with does. No condition but that the ticks lie in memory, at most 1000, and that the number is not 0. What the reference's Up and JoinClocks do. No condition but that the ticks lie in memory, at most 100, and that no number is 0. What cmp.Compare, clock.byWho, clock.wrong, clock.later, clock.rises do. No condition but that the ticks lie in memory. Values joined: plain mathematics. No condition. A loop over a function whose body appends to rows of its own, over an iterator that keeps cells of its own between the rounds: the law. No condition. What the iterators of value give: the values in a value, with their schemas or beside others; the rows of a slice. No condition but that they lie in memory. What value.inside and value.couples give. No condition but that what is handed in lies in memory, and that each value has a schema, or a fellow. -/
import Derived.Test.YtdbohojncbeajaaGreatMo04
import Derived.Test.YtdbohojncbeajaaGreatMo02
import Derived.Test.YtdbohojncbeajaaGreatMo01
import Derived.StillTailTactics
namespace Go.Proofs.YtdbohojncbeajaaGreat.R1

/-- x ahead of the first row, f what is told of the rest of it with whatever second row. -/
def beIn (x : Str) (f : List Str → List (Str × Int)) : List Str → List (Str × Int)
  | [] => (x, 0) :: f []
  | y :: yr => if x < y then (x, 0) :: f (y :: yr) else if y < x then (y, 1) :: beIn x f yr else (x, 2) :: f yr

/-- Two rows together: each string once, with its side: 0 the first row's alone, 1 the second one's alone, 2 of both. -/
def be : List Str → List Str → List (Str × Int)
  | [] => fun ys => ys.map fun y => (y, 1)
  | x :: xr => beIn x (be xr)

theorem be_nil : be [] [] = [] := rfl
theorem be_right (y : Str) (yr : List Str) : be [] (y :: yr) = (y, 1) :: be [] yr := rfl
theorem be_left (x : Str) (xr : List Str) : be (x :: xr) [] = (x, 0) :: be xr [] := rfl
theorem be_lt {x y : Str} (xr yr : List Str) (h : x < y) : be (x :: xr) (y :: yr) = (x, 0) :: be xr (y :: yr) := by
  show beIn x (be xr) (y :: yr) = _
  rw [beIn, if_pos h]
theorem be_gt {x y : Str} (xr yr : List Str) (h : y < x) : be (x :: xr) (y :: yr) = (y, 1) :: be (x :: xr) yr := by
  show beIn x (be xr) (y :: yr) = (y, 1) :: beIn x (be xr) yr
  rw [beIn, if_neg (str_asymm h), if_pos h]
theorem be_eq (x : Str) (xr yr : List Str) : be (x :: xr) (x :: yr) = (x, 2) :: be xr yr := by
  show beIn x (be xr) (x :: yr) = _
  rw [beIn, if_neg (str_irrefl x), if_neg (str_irrefl x)]

/-- By both rows: a rule to prove what holds of them gone through together. -/
theorem be_rule {C : List Str → List Str → Prop} (h0 : C [] []) (hr : ∀ y yr, C [] yr → C [] (y :: yr)) (hl : ∀ x xr, C xr [] → C (x :: xr) [])
    (hlt : ∀ x xr y yr, x < y → C xr (y :: yr) → C (x :: xr) (y :: yr)) (hgt : ∀ x xr y yr, y < x → C (x :: xr) yr → C (x :: xr) (y :: yr))
    (heq : ∀ x xr yr, C xr yr → C (x :: xr) (x :: yr)) : ∀ xs ys, C xs ys := by
  intro xs
  induction xs with
  | nil =>
    intro ys
    induction ys with
    | nil => exact h0
    | cons y yr ih => exact hr y yr ih
  | cons x xr ih =>
    intro ys
    induction ys with
    | nil => exact hl x xr (ih [])
    | cons y yr ih2 =>
      rcases str_tri x y with h | h | h
      · exact hlt x xr y yr h (ih (y :: yr))
      · subst h; exact heq x xr yr (ih yr)
      · exact hgt x xr y yr h ih2

theorem be_len : ∀ xs ys, (be xs ys).length ≤ xs.length + ys.length := by
  refine be_rule ?_ ?_ ?_ ?_ ?_ ?_
  · simp [be_nil]
  · intro y yr h; rw [be_right]; simp at h ⊢; omega
  · intro x xr h; rw [be_left]; simp at h ⊢; omega
  · intro x xr y yr hlt h; rw [be_lt _ _ hlt]; simp at h ⊢; omega
  · intro x xr y yr hlt h; rw [be_gt _ _ hlt]; simp at h ⊢; omega
  · intro x xr yr h; rw [be_eq]; simp at h ⊢; omega

/-- Each string of both rows is there, and no other one. -/
theorem mem_be (z : Str) : ∀ xs ys, z ∈ (be xs ys).map (·.1) ↔ z ∈ xs ∨ z ∈ ys := by
  refine be_rule ?_ ?_ ?_ ?_ ?_ ?_
  · simp [be_nil]
  · intro y yr h; rw [be_right, List.map_cons, List.mem_cons, h, List.mem_cons]; simp
  · intro x xr h; rw [be_left, List.map_cons, List.mem_cons, h, List.mem_cons]; simp
  · intro x xr y yr hlt h
    rw [be_lt _ _ hlt, List.map_cons, List.mem_cons, h, List.mem_cons (l := xr), or_assoc]
  · intro x xr y yr hlt h
    rw [be_gt _ _ hlt, List.map_cons, List.mem_cons, h, List.mem_cons (l := yr)]
    exact ⟨fun k => k.elim (fun k => .inr (.inl k)) (fun k => k.elim .inl (fun k => .inr (.inr k))), fun k => k.elim (fun k => .inr (.inl k)) (fun k => k.elim .inl (fun k => .inr (.inr k)))⟩
  · intro x xr yr h
    rw [be_eq, List.map_cons, List.mem_cons, h, List.mem_cons, List.mem_cons]
    exact ⟨fun k => k.elim (fun k => .inl (.inl k)) (fun k => k.elim (fun k => .inl (.inr k)) (fun k => .inr (.inr k))), fun k => k.elim (fun k => k.elim .inl (fun k => .inr (.inl k))) (fun k => k.elim .inl (fun k => .inr (.inr k)))⟩

/-- Of rows that rise: they come rising. -/
theorem srt_be : ∀ xs ys, Srt xs → Srt ys → Srt ((be xs ys).map (·.1)) := by
  refine be_rule ?_ ?_ ?_ ?_ ?_ ?_
  · intros; simp [be_nil]
  · intro y yr h h1 h2
    obtain ⟨a, b⟩ := List.pairwise_cons.1 h2
    rw [be_right, List.map_cons]
    refine List.pairwise_cons.2 ⟨fun z hz => ?_, h h1 b⟩
    rcases (mem_be z _ _).1 hz with k | k
    · cases k
    · exact a z k
  · intro x xr h h1 h2
    obtain ⟨a, b⟩ := List.pairwise_cons.1 h1
    rw [be_left, List.map_cons]
    refine List.pairwise_cons.2 ⟨fun z hz => ?_, h b h2⟩
    rcases (mem_be z _ _).1 hz with k | k
    · exact a z k
    · cases k
  · intro x xr y yr hlt h h1 h2
    obtain ⟨a, b⟩ := List.pairwise_cons.1 h1
    obtain ⟨a2, b2⟩ := List.pairwise_cons.1 h2
    rw [be_lt _ _ hlt, List.map_cons]
    refine List.pairwise_cons.2 ⟨fun z hz => ?_, h b h2⟩
    rcases (mem_be z _ _).1 hz with k | k
    · exact a z k
    · rcases List.mem_cons.1 k with e | e
      · rw [e]; exact hlt
      · exact str_trans hlt (a2 z e)
  · intro x xr y yr hlt h h1 h2
    obtain ⟨a, b⟩ := List.pairwise_cons.1 h1
    obtain ⟨a2, b2⟩ := List.pairwise_cons.1 h2
    rw [be_gt _ _ hlt, List.map_cons]
    refine List.pairwise_cons.2 ⟨fun z hz => ?_, h h1 b2⟩
    rcases (mem_be z _ _).1 hz with k | k
    · rcases List.mem_cons.1 k with e | e
      · rw [e]; exact hlt
      · exact str_trans hlt (a z e)
    · exact a2 z k
  · intro x xr yr h h1 h2
    obtain ⟨a, b⟩ := List.pairwise_cons.1 h1
    obtain ⟨a2, b2⟩ := List.pairwise_cons.1 h2
    rw [be_eq, List.map_cons]
    refine List.pairwise_cons.2 ⟨fun z hz => ?_, h b b2⟩
    rcases (mem_be z _ _).1 hz with k | k
    · exact a z k
    · exact a2 z k

theorem be_both {xs ys : List Str} (h1 : Srt xs) (h2 : Srt ys) : (be xs ys).map (·.1) = bothL xs ys :=
  srt_ext (srt_be xs ys h1 h2) (srt_bothL h1) fun z => by rw [mem_be, mem_bothL]

/-- The strings of pairs. -/
def keysL (l : List (Str × Int)) : List Str := l.map (·.1)
theorem keysL_snoc (l : List (Str × Int)) (p : Str × Int) : keysL (l ++ [p]) = keysL l ++ [p.1] := by simp [keysL]
theorem keysL_len (l : List (Str × Int)) : (keysL l).length = l.length := by simp [keysL]

end Go.Proofs.YtdbohojncbeajaaGreat.R1

namespace Go.Proofs.YtdbohojncbeajaaGreat.C3
open Go.RowKit

theorem drop_at {l : List Tk} {i : Nat} {x : Tk} (hx : l[i]? = some x) : l.drop i = x :: l.drop (i + 1) := by
  obtain ⟨hi, he⟩ := List.getElem?_eq_some_iff.1 hx
  rw [List.drop_eq_getElem_cons hi, he]

theorem LiesB.new {w : World} {x : Tk} {t : TypeId} : LiesB (w.heap.size + 1) (w.alloc (.cells #[.int .i64 x.k, .int .u64 x.n] t)) (some ⟨w.heap.size, 0, none⟩) [x] :=
  LiesB.one (by omega) (by simp) (by simp)

theorem len1 {ys : List Tk} {x : Tk} (h : ys.length ≤ 100000) : ys.length + [x].length ≤ 1000000 := by simp; omega
end Go.Proofs.YtdbohojncbeajaaGreat.C3

namespace Go.Proofs.YtdbohojncbeajaaGreat.C3
open Go.RowKit

end Go.Proofs.YtdbohojncbeajaaGreat.C3

namespace Go.Proofs.YtdbohojncbeajaaGreat.C3
open Go.RowKit

set_option maxHeartbeats 400000 in
theorem isNaN_any (x : Int) (w : World) : Calls Tryz.prog 131 #[.int .i64 x] w fun e w' => e = .returned (.bool false) ∧ w = w' := by
  go_enter Tryz.func131, Tryz.ntmps131
  go_wp2
  go_ret
  exact ⟨rfl, rfl⟩

def cmpI (x y : Int) : Int := if x < y then -1 else if y < x then 1 else 0
theorem cmpI_lt {x y : Int} (h : x < y) : cmpI x y = -1 := if_pos h
theorem cmpI_gt {x y : Int} (h : y < x) : cmpI x y = 1 := by unfold cmpI; rw [if_neg (by omega), if_pos h]
theorem cmpI_eq (x : Int) : cmpI x x = 0 := by unfold cmpI; rw [if_neg (by omega), if_neg (by omega)]

set_option maxHeartbeats 400000 in
theorem compare_any (x y : Int) (w : World) : Calls Tryz.prog 120 #[.int .i64 x, .int .i64 y] w fun e w' => e = .returned (.int .i64 (cmpI x y)) ∧ w = w' := by
  rcases Int.lt_trichotomy x y with h | h | h
  · rw [cmpI_lt h]
    go_enter Tryz.func120, Tryz.ntmps120
    go_wp2_with (go_at_call 131; refine (isNaN_any _ _).mono ?_; rintro e w' ⟨rfl, rfl⟩)
    go_ret
    exact ⟨rfl, rfl⟩
  · subst h
    rw [cmpI_eq]
    go_enter Tryz.func120, Tryz.ntmps120
    go_wp2_with (go_at_call 131; refine (isNaN_any _ _).mono ?_; rintro e w' ⟨rfl, rfl⟩)
    go_ret
    exact ⟨rfl, rfl⟩
  · rw [cmpI_gt h]
    have h1 : ¬ x < y := by omega
    go_enter Tryz.func120, Tryz.ntmps120
    go_wp2_with (go_at_call 131; refine (isNaN_any _ _).mono ?_; rintro e w' ⟨rfl, rfl⟩)
    go_ret
    exact ⟨rfl, rfl⟩

set_option maxHeartbeats 400000 in
theorem byWho_any (xk xn yk yn : Int) (w : World) : Calls Tryz.prog 95 #[.agg #[.int .i64 xk, .int .u64 xn], .agg #[.int .i64 yk, .int .u64 yn]] w (RetV w (.int .i64 (cmpI xk yk))) := by
  go_enter Tryz.func95, Tryz.ntmps95
  go_wp2_with (go_at_call 120; refine (compare_any _ _ _).mono ?_; rintro e w' ⟨rfl, rfl⟩)
  go_ret
  exact ⟨rfl, belAl (belAl (Below.refl _ _))⟩

set_option maxHeartbeats 400000 in
theorem wrong_any (xk xn : Int) (w : World) : Calls Tryz.prog 127 #[.agg #[.int .i64 xk, .int .u64 xn]] w (RetV w (.bool (bad ⟨xk, xn⟩))) := by
  obtain ⟨p, hp⟩ : ∃ p, bad ⟨xk, xn⟩ = p := ⟨_, rfl⟩
  rw [hp]
  unfold bad at hp
  dsimp only at hp
  by_cases c1 : xk < 0
  · simp [c1] at hp
    subst hp
    go_enter Tryz.func127, Tryz.ntmps127
    go_wp2_with fail
    go_ret
    exact ⟨rfl, allocB _ _⟩
  · have d1 : decide (xk < 0) = false := decide_eq_false c1
    by_cases c2 : 1000000 < xk
    · simp [c2] at hp
      subst hp
      go_enter Tryz.func127, Tryz.ntmps127
      go_wp2_with fail
      go_ret
      exact ⟨rfl, allocB _ _⟩
    · have d2 : decide (1000000 < xk) = false := decide_eq_false c2
      by_cases c3 : xn = 0
      · simp [c3] at hp
        subst hp
        subst c3
        go_enter Tryz.func127, Tryz.ntmps127
        go_wp2_with fail
        go_ret
        exact ⟨rfl, allocB _ _⟩
      · simp [c1, c2, c3] at hp
        subst hp
        have d3 : (xn == 0) = false := by simp [c3]
        go_enter Tryz.func127, Tryz.ntmps127
        go_wp2_with fail
        go_ret
        exact ⟨rfl, allocB _ _⟩

/-- A call that answers the tick t. -/
def RetK (w : World) (t : Tk) (e : Ending) (w' : World) : Prop := e = .returned (.agg #[.int .i64 t.k, .int .u64 t.n]) ∧ Below w.heap.size w w'

set_option maxHeartbeats 400000 in
theorem later_any (xk xn yk yn : Int) (w : World) : Calls Tryz.prog 96 #[.agg #[.int .i64 xk, .int .u64 xn], .agg #[.int .i64 yk, .int .u64 yn]] w (RetK w (laterC ⟨xk, xn⟩ ⟨yk, yn⟩)) := by
  by_cases h : xn < yn
  · have e : laterC ⟨xk, xn⟩ ⟨yk, yn⟩ = ⟨yk, yn⟩ := by unfold laterC; rw [if_pos h]
    rw [e]
    go_enter Tryz.func96, Tryz.ntmps96
    go_wp2_with fail
    refine bodyPost_ret (results_cellT rfl _ _ (w.heap.size + 1 + 1) (.int .i64 yk) (.int .u64 yn) rfl (by go_simp) (by go_simp)) rfl ?_
    exact ⟨rfl, belAl (belAl (belAl (Below.refl _ _)))⟩
  · have e : laterC ⟨xk, xn⟩ ⟨yk, yn⟩ = ⟨xk, xn⟩ := by unfold laterC; rw [if_neg h]
    rw [e]
    go_enter Tryz.func96, Tryz.ntmps96
    go_wp2_with fail
    refine bodyPost_ret (results_cellT rfl _ _ (w.heap.size + 1 + 1) (.int .i64 xk) (.int .u64 xn) rfl (by go_simp) (by go_simp)) rfl ?_
    exact ⟨rfl, belAl (belAl (belAl (Below.refl _ _)))⟩

theorem asc_fall {l : List Tk} {i : Nat} {x y : Tk} (hy : l[i]? = some y) (hx : l[i + 1]? = some x) (hb : x.k ≤ y.k) : decide (Asc l) = false := by
  refine decide_eq_false fun h => ?_
  obtain ⟨h1, e1⟩ := List.getElem?_eq_some_iff.1 hy
  obtain ⟨h2, e2⟩ := List.getElem?_eq_some_iff.1 hx
  have := List.pairwise_iff_getElem.1 h i (i + 1) h1 h2 (by omega)
  rw [e1, e2] at this
  omega
theorem asc_end {l : List Tk} {i : Nat} (h1 : Asc (l.take i)) (hi : l.length ≤ i) : decide (Asc l) = true := by
  rw [List.take_of_length_le hi] at h1
  exact decide_eq_true h1
theorem asc_take1 (l : List Tk) : Asc (l.take 1) := by
  cases l with
  | nil => exact List.Pairwise.nil
  | cons x l => exact List.pairwise_singleton _ _

set_option maxRecDepth 100000 in
set_option maxHeartbeats 400000 in
theorem rises_any (A : Option Addr) (c : Nat) (l : List Tk) (w : World) (h : In w A c l) :
    Calls Tryz.prog 125 #[.slice A l.length c, .func (.func 95) #[] #[]] w (RetV w (.bool (decide (Asc l)))) := by
  obtain ⟨hl, hcap, htop, -⟩ := h
  have hlm : l.length ≤ 9223372036854775807 := by unfold maxLen at htop; omega
  clear hcap htop
  go_enter Tryz.func125, Tryz.ntmps125
  go_wp2_with fail
  go_loopw [5] (fun iv wr => ∃ k : Nat, iv = .int .i64 ((k : Int) + 1) ∧ (k ≤ l.length) ∧ Hid (Asc (l.take (k + 1))) ∧ Below w.heap.size w wr) (fun iv _ => l.length + 1 - (intOf iv).toNat)
  case atStart => exact ⟨0, rfl, Nat.zero_le _, asc_take1 l, Below.refl _ _⟩
  case round =>
    obtain ⟨k, rfl, hk, h1, hbw⟩ := hrel
    by_cases hlt : k + 1 < l.length
    · obtain ⟨b, off, rfl, hb, hc⟩ := (hl.below hbw).get hlt
      obtain ⟨x, hx⟩ : ∃ x, l[k + 1]? = some x := ⟨_, List.getElem?_eq_getElem hlt⟩
      obtain ⟨y, hy⟩ : ∃ y, l[k]? = some y := ⟨_, List.getElem?_eq_getElem (by omega)⟩
      obtain ⟨hc0, hc1⟩ := hc (k + 1) x hx
      obtain ⟨hd0, hd1⟩ := hc k y hy
      have HX := Lib.hid hx
      have HY := Lib.hid hy
      clear hx hy hc hl
      obtain ⟨xk, xn⟩ := x
      obtain ⟨yk, yn⟩ := y
      dsimp only at hc0 hc1 hd0 hd1
      have hki : (k : Int) + 1 < (l.length : Int) := by omega
      have hki0 : (k : Int) < (l.length : Int) := by omega
      have HBW := Lib.hid hbw
      have s1 : IntKind.i64.wrap (k : Int) = (k : Int) := IntWalk.i64_in _ (by omega)
      have s2 : 0 ≤ (k : Int) + 1 := by omega
      have s3 : ((k : Int) + 1).toNat = k + 1 := by omega
      clear hbw
      go_wp2_with fail
      go_still_tail 10, (by kernel_rfl)
      change wpList _ _ _ _ _ wr.drew
      clear s1 s2 s3
      go_wp2_with fail
      refine (byWho_any yk yn xk xn _).mono ?_
      rintro e w4 ⟨rfl, hb4⟩
      have hbw4 : Below w.heap.size w w4 := (HBW.out.drew).trans (hb4.mono HBW.out.size)
      by_cases c4 : yk < xk
      · have HC := Lib.hid c4
        rw [cmpI_lt c4]
        clear c4
        go_wp2_with fail
        go_roundw
        case rel => exact ⟨k + 1, by go_num, by omega, asc_succ h1.out HY.out HX.out HC.out, hbw4⟩
        case measure => simp [intOf]; omega
      · have HC : Hid (xk ≤ yk) := by show xk ≤ yk; omega
        have c5 : 0 ≤ cmpI yk xk := by unfold cmpI; rw [if_neg c4]; split <;> omega
        generalize cmpI yk xk = q at *
        clear c4
        go_wp2_with fail
        go_ret
        exact ⟨ret_bool (asc_fall HY.out HX.out HC.out).symm, hbw4⟩
    · go_wp2_with fail
      go_ret
      exact ⟨ret_bool (asc_end h1.out (by omega)).symm, hbw⟩
end Go.Proofs.YtdbohojncbeajaaGreat.C3

namespace Go.Proofs.YtdbohojncbeajaaGreat.J5
open C3 (Tk mergeC cmpC cmpI)
open S2 (Tr)
open V4 (Va aheadC)
open R1 (bothL)

/-- The order of texts, as a number. -/
def cmpS (a b : Str) : Int := if a < b then -1 else if b < a then 1 else 0
/-- The order of versions, as a number. -/
def cmpT (a b : List Tk) : Int := if aheadC a b = true then -1 else if aheadC b a = true then 1 else 0

/-- Two rows of values at marks gone through together; z where one has no such mark. -/
def mix {M V : Type} (c : M → M → Int) (z : V) : List (M × V) → List (M × V) → List (M × V × V)
  | [], b => b.map fun p => (p.1, z, p.2)
  | x :: a, [] => (x :: a).map fun p => (p.1, p.2, z)
  | x :: a, y :: b => if c x.1 y.1 < 0 then (x.1, x.2, z) :: mix c z a (y :: b) else if 0 < c x.1 y.1 then (y.1, z, y.2) :: mix c z (x :: a) b else (y.1, x.2, y.2) :: mix c z a b
termination_by a b => a.length + b.length

section
variable {M V : Type} (c : M → M → Int) (z : V)
theorem mix_nil : mix c z [] [] = [] := by rw [mix]; rfl
theorem mix_right (y : M × V) (b : List (M × V)) : mix c z [] (y :: b) = (y.1, z, y.2) :: mix c z [] b := by rw [mix, mix]; rfl
theorem mix_left (x : M × V) (a : List (M × V)) : mix c z (x :: a) [] = (x.1, x.2, z) :: mix c z a [] := by
  rw [mix]
  cases a with
  | nil => rw [mix]; rfl
  | cons y a => rw [mix]; rfl
theorem mix_lt {x y : M × V} (a b : List (M × V)) (h : c x.1 y.1 < 0) : mix c z (x :: a) (y :: b) = (x.1, x.2, z) :: mix c z a (y :: b) := by rw [mix, if_pos h]
theorem mix_gt {x y : M × V} (a b : List (M × V)) (h : 0 < c x.1 y.1) : mix c z (x :: a) (y :: b) = (y.1, z, y.2) :: mix c z (x :: a) b := by rw [mix, if_neg (by omega), if_pos h]
theorem mix_eq {x y : M × V} (a b : List (M × V)) (h : c x.1 y.1 = 0) : mix c z (x :: a) (y :: b) = (y.1, x.2, y.2) :: mix c z a b := by rw [mix, if_neg (by omega), if_neg (by omega)]

/-- What they have, each of them of one of the two. -/
theorem mix_mem {p : M × V × V} (a b : List (M × V)) (h : p ∈ mix c z a b) : ((∃ x ∈ a, x.2 = p.2.1) ∨ p.2.1 = z) ∧ ((∃ y ∈ b, y.2 = p.2.2) ∨ p.2.2 = z) ∧ ((∃ x ∈ a, x.1 = p.1) ∨ ∃ y ∈ b, y.1 = p.1) := by
  induction a, b using mix.induct (c := c) with
  | case1 b =>
    rw [mix] at h
    obtain ⟨y, hy, rfl⟩ := List.mem_map.1 h
    exact ⟨.inr rfl, .inl ⟨y, hy, rfl⟩, .inr ⟨y, hy, rfl⟩⟩
  | case2 x a =>
    rw [mix] at h
    obtain ⟨y, hy, rfl⟩ := List.mem_map.1 h
    exact ⟨.inl ⟨y, hy, rfl⟩, .inr rfl, .inl ⟨y, hy, rfl⟩⟩
  | case3 x a y b h1 ih =>
    rw [mix_lt c z a b h1] at h
    rcases List.mem_cons.1 h with rfl | h
    · exact ⟨.inl ⟨x, by simp, rfl⟩, .inr rfl, .inl ⟨x, by simp, rfl⟩⟩
    · obtain ⟨i1, i2, i3⟩ := ih h
      exact ⟨i1.imp (fun ⟨q, hq, e⟩ => ⟨q, by simp [hq], e⟩) id, i2, i3.imp (fun ⟨q, hq, e⟩ => ⟨q, by simp [hq], e⟩) id⟩
  | case4 x a y b h1 h2 ih =>
    rw [mix_gt c z a b h2] at h
    rcases List.mem_cons.1 h with rfl | h
    · exact ⟨.inr rfl, .inl ⟨y, by simp, rfl⟩, .inr ⟨y, by simp, rfl⟩⟩
    · obtain ⟨i1, i2, i3⟩ := ih h
      exact ⟨i1, i2.imp (fun ⟨q, hq, e⟩ => ⟨q, by simp [hq], e⟩) id, i3.imp id (fun ⟨q, hq, e⟩ => ⟨q, by simp [hq], e⟩)⟩
  | case5 x a y b h1 h2 ih =>
    rw [mix_eq c z a b (by omega)] at h
    rcases List.mem_cons.1 h with rfl | h
    · exact ⟨.inl ⟨x, by simp, rfl⟩, .inl ⟨y, by simp, rfl⟩, .inr ⟨y, by simp, rfl⟩⟩
    · obtain ⟨i1, i2, i3⟩ := ih h
      exact ⟨i1.imp (fun ⟨q, hq, e⟩ => ⟨q, by simp [hq], e⟩) id, i2.imp (fun ⟨q, hq, e⟩ => ⟨q, by simp [hq], e⟩) id, i3.imp (fun ⟨q, hq, e⟩ => ⟨q, by simp [hq], e⟩) (fun ⟨q, hq, e⟩ => ⟨q, by simp [hq], e⟩)⟩
end

/-- Told by what stands in them, it is the same. -/
theorem mix_map {M V M' V' : Type} {c : M → M → Int} {c' : M' → M' → Int} {z : V} {z' : V'} (f : M → M') (g : V → V') (hc : ∀ x y, c x y = c' (f x) (f y)) (hz : g z = z') (a b : List (M × V)) :
    (mix c z a b).map (fun p => (f p.1, g p.2.1, g p.2.2)) = mix c' z' (a.map fun p => (f p.1, g p.2)) (b.map fun p => (f p.1, g p.2)) := by
  induction a, b using mix.induct (c := c) with
  | case1 b => rw [mix, List.map_nil, mix]; simp [hz]
  | case2 x a => rw [mix]; simp only [List.map_cons, List.map_nil]; rw [mix]; simp [hz]
  | case3 x a y b h ih => rw [mix_lt c z a b h, List.map_cons, List.map_cons, List.map_cons, mix_lt c' z' _ _ (by rw [← hc]; exact h), ih, hz, List.map_cons]
  | case4 x a y b h h2 ih => rw [mix_gt c z a b h2, List.map_cons, List.map_cons, List.map_cons, mix_gt c' z' _ _ (by rw [← hc]; exact h2), ih, hz, List.map_cons]
  | case5 x a y b h h2 ih =>
    have h0 : c x.1 y.1 = 0 := by omega
    rw [mix_eq c z a b h0, List.map_cons, List.map_cons, List.map_cons, mix_eq c' z' _ _ (by rw [← hc]; exact h0), ih]

/-- What stands at each mark joined, unless one of them is too large. -/
def allE {M V W : Type} (f : V → V → Option W) : List (M × V × V) → Option (List (M × W))
  | [] => some []
  | p :: l => (f p.2.1 p.2.2).bind fun v => (allE f l).map fun r => (p.1, v) :: r
/-- .. and there are not too many. -/
def togE {M V W : Type} (f : V → V → Option W) (l : List (M × V × V)) : Option (List (M × W)) := if 40 < l.length then none else allE f l

theorem allE_snoc {M V W : Type} (f : V → V → Option W) (p : M × V × V) : ∀ l : List (M × V × V), allE f (l ++ [p]) = (allE f l).bind fun r => (f p.2.1 p.2.2).map fun v => r ++ [(p.1, v)]
  | [] => by simp only [List.nil_append, allE, Option.bind_some, Option.map_some]; cases f p.2.1 p.2.2 <;> rfl
  | q :: l => by
    rw [List.cons_append, allE, allE, allE_snoc f p l]
    cases f q.2.1 q.2.2 with
    | none => rfl
    | some v =>
      cases allE f l with
      | none => rfl
      | some r =>
        cases f p.2.1 p.2.2 <;> rfl
theorem allE_append_none {M V W : Type} (f : V → V → Option W) : ∀ (l r : List (M × V × V)), allE f l = none → allE f (l ++ r) = none
  | [], _, h => by simp [allE] at h
  | q :: l, r, h => by
    rw [List.cons_append, allE]
    rw [allE] at h
    cases hf : f q.2.1 q.2.2 with
    | none => rfl
    | some v =>
      rw [hf] at h
      cases ha : allE f l with
      | none => rw [allE_append_none f l r ha]; rfl
      | some x => rw [ha] at h; simp at h
theorem allE_step {M V W : Type} {f : V → V → Option W} {l : List (M × V × V)} {k : Nat} {p : M × V × V} {r : List (M × W)} (hp : l[k]? = some p) (h : allE f (l.take k) = some r) :
    allE f (l.take (k + 1)) = (f p.2.1 p.2.2).map fun v => r ++ [(p.1, v)] := by
  obtain ⟨hk, he⟩ := List.getElem?_eq_some_iff.1 hp
  rw [List.take_succ_eq_append_getElem hk, he, allE_snoc, h]
  rfl
theorem allE_none {M V W : Type} {f : V → V → Option W} {l : List (M × V × V)} {k : Nat} {p : M × V × V} {r : List (M × W)} (hp : l[k]? = some p) (h : allE f (l.take k) = some r) (hn : f p.2.1 p.2.2 = none) : togE f l = none := by
  have h1 : allE f (l.take (k + 1)) = none := by rw [allE_step hp h, hn]; rfl
  have := allE_append_none f _ (l.drop (k + 1)) h1
  rw [List.take_append_drop] at this
  unfold togE
  split
  · rfl
  · exact this
theorem allE_len {M V W : Type} {f : V → V → Option W} : ∀ {l : List (M × V × V)} {r : List (M × W)}, allE f l = some r → r.length = l.length
  | [], r, h => by simp [allE] at h; subst h; rfl
  | q :: l, r, h => by
    rw [allE] at h
    cases hf : f q.2.1 q.2.2 with
    | none => rw [hf] at h; simp at h
    | some v =>
      rw [hf] at h
      cases ha : allE f l with
      | none => rw [ha] at h; simp at h
      | some x => rw [ha] at h; simp at h; subst h; simp [allE_len ha]
/-- By number, by writer, by text. -/
def cmpL : List Str → List Str → Int
  | [], [] => 0
  | [], _ :: _ => -1
  | _ :: _, [] => 1
  | x :: a, y :: b => if cmpS x y = 0 then cmpL a b else cmpS x y
def writerI (x y : Va) : Int := if cmpI x.n y.n = 0 then (if cmpI x.m y.m = 0 then cmpL x.s y.s else cmpI x.m y.m) else cmpI x.n y.n
def lastE (x y : Va) : Va := if writerI x y < 0 then .mk y.n y.m y.s [] [] else .mk x.n x.m x.s [] []
def clockE (x y : Va) : Option Va := if (x.c ++ y.c).foldl mergeC [] = [] then some .zero else if 40 < ((x.c ++ y.c).foldl mergeC []).length then none else some (.mk 0 0 [] [(x.c ++ y.c).foldl mergeC []] [])
/-- Zero where a pair is zero. -/
def halfE (x : Va) (i : Nat) : Va := x.v[i]?.getD .zero
def setE (x y : Va) : Option Va := if 40 < (bothL x.s y.s).length then none else some (.mk 0 0 (bothL x.s y.s) [] [])
/-- Has another one seen it? -/
def seenE (l : List Tk) (cs : List (List Tk)) : Bool := cs.any fun o => decide (cmpC l o = -1)

def mapE (f : Va → Va → Option Va) (x y : Va) : Option Va := (togE f (mix cmpS .zero (x.s.zip x.v) (y.s.zip y.v))).map fun l => .mk 0 0 (l.map (·.1)) [] (l.map (·.2))
def causeE (f : Va → Va → Option Va) (x y : Va) : Option Va := (togE f ((mix cmpT .zero (x.c.zip x.v) (y.c.zip y.v)).filter fun p => !seenE p.1 (x.c ++ y.c))).map fun l => .mk 0 0 [] (l.map (·.1)) (l.map (·.2))
def pairE (f g : Va → Va → Option Va) (x y : Va) : Option Va := (f (halfE x 0) (halfE y 0)).bind fun u => (g (halfE x 1) (halfE y 1)).map fun v => .mk 0 0 [] [] [u, v]

/-- Both together; none, where it is too large. -/
def joinE : Tr → Va → Va → Option Va
  | .mk k [], x, y => if k = 3 then setE x y else if k = 6 then some (lastE x y) else if k = 7 then clockE x y else some (.mk (max x.n y.n) 0 [] [] [])
  | .mk k [a], x, y => if k = 4 then mapE (joinE a) x y else causeE (joinE a) x y
  | .mk _ [a, b], x, y => pairE (joinE a) (joinE b) x y
  | .mk _ (_ :: _ :: _ :: _), _, _ => none
end Go.Proofs.YtdbohojncbeajaaGreat.J5

namespace Go.Proofs.YtdbohojncbeajaaGreat.J5
open Go.RowKit Go.Shelf
open V4 (KF Ab yield_any)

/-- What a round leaves: all below N, and from B on all but the caller's own blocks, X. -/
structure KP (N B : Nat) (X : Nat → Prop) (W W' : World) : Prop where
  size : W.heap.size ≤ W'.heap.size
  same : ∀ (b : Nat) (o : Obj), W.heap[b]? = some o → (b < N ∨ (B ≤ b ∧ ¬ X b)) → W'.heap[b]? = some o
/-- What an iterator leaves between the rounds: all below B, and the caller's own blocks. -/
structure KJ (B : Nat) (X : Nat → Prop) (W W' : World) : Prop where
  bel : Below B W W'
  same : ∀ (b : Nat) (o : Obj), W.heap[b]? = some o → X b → W'.heap[b]? = some o
/-- The caller's own blocks become more by new ones alone. -/
def Grow (n : Nat) (X X' : Nat → Prop) : Prop := ∀ b, X' b → X b ∨ n ≤ b

section
variable {N B : Nat} {F : Nat → Prop} {W W' X Y Z : World}
theorem KP.refl : KP N B F W W := ⟨Nat.le_refl _, fun _ _ h _ => h⟩
theorem KP.trans (h : KP N B F X Y) (k : KP N B F Y Z) : KP N B F X Z := ⟨Nat.le_trans h.size k.size, fun b o h1 h2 => k.same b o (h.same b o h1 h2) h2⟩
theorem KP.mono {B' : Nat} (h : KP N B F W W') (hB : B ≤ B') : KP N B' F W W' := ⟨h.size, fun b o h1 h2 => h.same b o h1 (h2.imp id fun h => ⟨Nat.le_trans hB h.1, h.2⟩)⟩
theorem KP.of_below (h : Below W.heap.size W W') : KP N B F W W' := ⟨h.size, fun b _ h1 _ => (h.block b (Array.getElem?_eq_some_iff.1 h1).1).trans h1⟩
theorem KP.put {l : Nat} (h1 : N ≤ l) (h2 : l < B) (o' : Obj) : KP N B F W (W.putObj l o') := ⟨by simp, fun b o2 h3 h4 => by rw [World.putObj_heap_other (by rcases h4 with h | ⟨h, _⟩ <;> omega)]; exact h3⟩
theorem KP.low (h : KP N B F W W') {b : Nat} (hb : b < N) (hW : b < W.heap.size) : W'.heap[b]? = W.heap[b]? := by
  rw [Array.getElem?_eq_getElem hW]
  exact h.same b _ (Array.getElem?_eq_getElem hW) (.inl hb)
theorem KJ.refl : KJ B F W W := ⟨Below.refl _ _, fun _ _ h _ => h⟩
theorem KJ.trans (h : KJ B F X Y) (k : KJ B F Y Z) : KJ B F X Z := ⟨h.bel.trans k.bel, fun b o h1 h2 => k.same b o (h.same b o h1 h2) h2⟩
theorem KJ.mono {B' : Nat} (h : KJ B F W W') (hB : B' ≤ B) : KJ B' F W W' := ⟨h.bel.mono hB, h.same⟩
theorem KJ.of_below (h : Below W.heap.size W W') (hB : B ≤ W.heap.size) : KJ B F W W' := ⟨h.mono hB, fun b _ h1 _ => (h.block b (Array.getElem?_eq_some_iff.1 h1).1).trans h1⟩
theorem KJ.later (h : KJ B F X Y) (hb : Below Y.heap.size Y Z) (hB : B ≤ Y.heap.size) : KJ B F X Z := h.trans (KJ.of_below hb hB)
theorem KJ.put {l : Nat} (hl : ¬ F l) (hB : B ≤ l) (o' : Obj) : KJ B F W (W.putObj l o') :=
  ⟨⟨rfl, rfl, rfl, by simp, fun k hk => World.putObj_heap_other (by omega)⟩, fun b o2 h1 h2 => by
    have hne : b ≠ l := fun e => hl (by rw [← e]; exact h2)
    rw [World.putObj_heap_other hne]; exact h1⟩
end

/-- What is said of a world speaks of what an iterator leaves. -/
def AbJ (B : Nat) (J : Nat → (Nat → Prop) → World → Prop) : Prop := ∀ k X W W', J k X W → KJ B X W W' → J k X W'

/-- An iterator that gives zs, one by one. -/
def SeqP {α : Type} (P : Program) (g : Nat) (lb : Array Value) (encs : α → Array Value) (N : Nat) (zs : List α) (w : World) : Prop :=
  ∀ (l : Nat) (J : Nat → (Nat → Prop) → World → Prop) (Jx : Nat → World → Prop) (W : World), Below w.heap.size w W → AbJ W.heap.size J → Ab W.heap.size Jx →
    (∀ k X x W1, zs[k]? = some x → J k X W1 → W.heap.size ≤ W1.heap.size → YieldAt Fence.wide 0 P l (encs x) W1 fun e W' =>
      (e = .returned (.bool true) ∧ ∃ X', Grow W1.heap.size X X' ∧ J (k + 1) X' W' ∧ KP N W.heap.size X W1 W') ∨ (e = .returned (.bool false) ∧ Jx k W' ∧ KF W.heap.size W1 W')) →
    J 0 (fun _ => False) W →
    Calls P g (#[.func (.yield l) #[] #[]] ++ lb) W fun e W' => (∃ v, e = .returned v) ∧ ((∃ X, J zs.length X W') ∨ ∃ k, k < zs.length ∧ Jx k W')

theorem SeqP.later {α : Type} {P : Program} {g : Nat} {lb : Array Value} {encs : α → Array Value} {N : Nat} {zs : List α} {w w' : World} (h : SeqP P g lb encs N zs w) (hb : Below w.heap.size w w') : SeqP P g lb encs N zs w' :=
  fun l J Jx W hW => h l J Jx W (hb.trans (hW.mono hb.size))

/-- How a round's body may be left. -/
def postP (N B : Nat) (X : Nat → Prop) (I : Nat → (Nat → Prop) → World → Prop) (Ix : Code → Nat → World → Prop) (k : Nat) (W : World) : Exit → Act → World → Prop
  | .normal, _, W' => KP N B X W W' ∧ ∃ X', Grow W.heap.size X X' ∧ I (k + 1) X' W'
  | .ret, _, W' => KF B W W' ∧ Ix .ret k W'
  | .exit id, _, W' => KF B W W' ∧ Ix (.exit id) k W'
  | .goto t, _, W' => KF B W W' ∧ Ix (.goto t) k W'
  | .panic _, _, _ => False
  | .outgrown, _, _ => False

set_option maxHeartbeats 1000000 in
/-- The law. -/
theorem range_row {α : Type} {n : Nat} {P : Program} {g : Operand} {ps : Array Tmp} {assign body : Code} {Q : Exit → Act → World → Prop} {a : Act} {w : World}
    {gf : Nat} {lb : Array Value} (hg : a.eval g = .func (.func gf) #[] lb) (eg : Enters P gf)
    {encs : α → Array Value} {N : Nat} (hN : N ≤ w.heap.size) {zs : List α} (hseq : SeqP P gf lb encs N zs w) (hps : ∀ x, (encs x).size = ps.size)
    (I : Nat → (Nat → Prop) → World → Prop) (Ix : Code → Nat → World → Prop) (hI : AbJ w.heap.size I) (hIx : ∀ c, Ab w.heap.size (Ix c)) (h0 : I 0 (fun _ => False) w)
    (Ax : α → Act → World → Prop) (hAx : ∀ x a', OwnFrom w.heap.size (fun (_ : Unit) W => Ax x a' W))
    (hassign : ∀ (l k : Nat) (x : α) (W : World) (K : Act → World → Prop), zs[k]? = some x → (∀ a' W', Below W.heap.size W W' → Ax x a' W' → K a' W') →
      assign.wpIn (Fence.wide.inRound l) 0 P (Exit.then K (fun _ _ _ => False)) { tmps := (ps.zip (encs x)).foldl (fun t (p, v) => t.setIfInBounds p v) a.tmps, defers := [] } W)
    (hbody : ∀ (l k : Nat) (X : Nat → Prop) (x : α) (a' : Act) (W : World), w.heap.size ≤ W.heap.size → zs[k]? = some x → I k X W → Ax x a' W → body.wpIn (Fence.wide.inRound l) 0 P (postP N w.heap.size X I Ix k W) a' W)
    (hdone : ∀ (E : Nat) (X : Nat → Prop) (W : World), w.heap.size ≤ E → ¬ X E → I zs.length X W → W.heap[E]? = some (.deferred (some [])) → Q .normal { a with defers := { target := .collected E, args := #[] } :: a.defers } W)
    (hstop : ∀ (E : Nat) (c : Code) (k : Nat) (W : World), w.heap.size ≤ E → k < zs.length → Ix c k W → W.heap[E]? = some (.deferred (some [])) → c.wpIn Fence.wide n P Q { a with defers := { target := .collected E, args := #[] } :: a.defers } W) :
    (Code.rangeFunc g ps assign body).wpIn Fence.wide n P Q a w := by
  refine wpIn_rangeFunc fun fn hfn => ?_
  show ∃ _ _ _ _ _ _ _ _, _
  obtain ⟨R, hR⟩ : ∃ R : LoopState → Option Code → Obj, R = fun st pe => .loop { state := st, pending := pe, fn, tmps := a.tmps, params := ps, assign, body, defers := w.heap.size } := ⟨_, rfl⟩
  have hRc : ∀ st pe, (R st pe).isCells = false := fun st pe => by rw [hR]; rfl
  obtain ⟨V, hV⟩ : ∃ V, (w.alloc (.deferred (some []))).alloc (R .ready none) = V := ⟨_, rfl⟩
  have hsz : V.heap.size = w.heap.size + 2 := by rw [← hV]; simp
  have hbV : Below w.heap.size w V := by rw [← hV]; exact ((Below.refl _ w).alloc (Nat.le_refl _) _).alloc (by simp) _
  have hrec : V.heap[w.heap.size + 1]? = some (R .ready none) := by
    rw [← hV]; have := World.alloc_heap_new (w.alloc (.deferred (some []))) (R .ready none); rwa [World.size_alloc] at this
  have hdef : V.heap[w.heap.size]? = some (.deferred (some [])) := by
    rw [← hV]; exact (Below.heap_alloc _ _ _ (by simp)).trans (World.alloc_heap_new w _)
  -- a turn of the record leaves what is below
  have turn : ∀ (F : Nat → Prop) (X : World) (o : Obj), ¬ F (w.heap.size + 1) → KJ w.heap.size F X (X.putObj (w.heap.size + 1) o) := fun F X o h => KJ.put h (by omega) o
  have turnB : ∀ (X : World) (o : Obj), Below w.heap.size X (X.putObj (w.heap.size + 1) o) := fun X o => ⟨rfl, rfl, rfl, by simp, fun k hk => World.putObj_heap_other (by omega)⟩
  refine ⟨w.heap.size + 1, [{ target := .collected w.heap.size, args := #[] }], V, { target := .fn (.func gf) lb, args := #[.func (.yield (w.heap.size + 1)) #[] #[]] }, V, gf,
    #[.func (.yield (w.heap.size + 1)) #[] #[]] ++ lb, V, ?_, ?_, ?_, ?_, fun h => absurd h (by simp [Fence.wide]), callsIn_wide.2 ?_⟩
  · rw [← hV, hR]; exact run_enterLoop_outer _ _ _ _ _
  · simp only [resolve, hg]
    simp [go_sem]
  · intro f' _; trivial
  · simp [invoke, go_sem]
    exact eg _ _
  · refine (hseq (w.heap.size + 1)
      (fun k F W => I k F W ∧ W.heap[w.heap.size + 1]? = some (R .ready none) ∧ W.heap[w.heap.size]? = some (.deferred (some [])) ∧ ¬ F (w.heap.size + 1) ∧ ¬ F w.heap.size)
      (fun k W => ∃ c, Ix c k W ∧ W.heap[w.heap.size + 1]? = some (R .done (some c)) ∧ W.heap[w.heap.size]? = some (.deferred (some [])))
      V hbV ?_ ?_ ?_ ⟨hI _ _ _ _ h0 (KJ.of_below hbV (Nat.le_refl _)), hrec, hdef, id, id⟩).mono ?_
    · rintro k F X Y ⟨h1, h2, h3, h4, h5⟩ hb
      exact ⟨hI _ _ _ _ h1 (hb.mono (by omega)), (hb.bel.block _ (by omega)).trans h2, (hb.bel.block _ (by omega)).trans h3, h4, h5⟩
    · rintro k X Y ⟨c, h1, h2, h3⟩ hb
      exact ⟨c, hIx c _ _ _ h1 (hb.mono (by omega)), (hb.block _ (by omega)).trans h2, (hb.block _ (by omega)).trans h3⟩
    · rintro k F x X hx ⟨hi, hl, hd, nF1, nF0⟩ hXs
      have hy := run_yield (P := P) (args := encs x) (l := w.heap.size + 1) (by rw [hR] at hl; exact hl) (hps x)
      refine ⟨fn, _, assign, body, hy, roundIn_of_wpIn trivial (hassign _ k x X _ hx ?_)⟩
      intro a' Y hbY hax
      have hlY : Y.heap[w.heap.size + 1]? = some (R .ready none) := (hbY.block _ (by omega)).trans hl
      have hdY : Y.heap[w.heap.size]? = some (.deferred (some [])) := (hbY.block _ (by omega)).trans hd
      have hltY : w.heap.size + 1 < Y.heap.size := (Array.getElem?_eq_some_iff.1 hlY).1
      have hbeg : (Instr.beginRound (w.heap.size + 1)).run P Y = .ok () (Y.putObj (w.heap.size + 1) (R .busy none)) := by
        rw [hR] at hlY ⊢
        exact run_beginRound hlY rfl
      refine ⟨_, hbeg, ?_⟩
      have hiZ : I k F (Y.putObj (w.heap.size + 1) (R .busy none)) := hI _ _ _ _ hi ((KJ.of_below hbY (by omega)).trans (turn _ _ _ nF1))
      have hlZ : (Y.putObj (w.heap.size + 1) (R .busy none)).heap[w.heap.size + 1]? = some (R .busy none) := World.putObj_heap_same hltY
      have hdZ : (Y.putObj (w.heap.size + 1) (R .busy none)).heap[w.heap.size]? = some (.deferred (some [])) := (World.putObj_heap_other (by omega)).trans hdY
      have hkZ : KP N V.heap.size F X (Y.putObj (w.heap.size + 1) (R .busy none)) := (KP.of_below hbY).trans (KP.put (by omega) (by omega) _)
      have hkZf : KF V.heap.size X (Y.putObj (w.heap.size + 1) (R .busy none)) := (KF.of_below hbY).trans (KF.put (by omega) _)
      have hfin : ∀ (jump : Option Code) (Z : World), Z.heap[w.heap.size + 1]? = some (R .busy none) →
          (Instr.endRound (w.heap.size + 1) jump).run P Z = .ok (.bool jump.isNone) (Z.putObj (w.heap.size + 1) (R (if jump.isNone then .ready else .done) jump)) := fun jump Z hz => by
        rw [hR] at hz ⊢
        exact run_endRound jump hz
      refine wpIn_mono (hbody _ k F x a' _ (by simp; omega) hx hiZ ((hAx x a').putObj (s := ()) _ hax (by omega) hlY (hRc _ _))) ?_
      have leave : ∀ (c : Code) (Z : World), KF w.heap.size (Y.putObj (w.heap.size + 1) (R .busy none)) Z → Ix c k Z → ∃ v w', (Instr.endRound (w.heap.size + 1) (some c)).run P Z = .ok v w' ∧
          ((Ending.returned v = .returned (.bool true) ∧ ∃ F', Grow X.heap.size F F' ∧ (I (k + 1) F' w' ∧ w'.heap[w.heap.size + 1]? = some (R .ready none) ∧ w'.heap[w.heap.size]? = some (.deferred (some [])) ∧ ¬ F' (w.heap.size + 1) ∧ ¬ F' w.heap.size) ∧ KP N V.heap.size F X w') ∨
            (Ending.returned v = .returned (.bool false) ∧ (∃ c, Ix c k w' ∧ w'.heap[w.heap.size + 1]? = some (R .done (some c)) ∧ w'.heap[w.heap.size]? = some (.deferred (some []))) ∧ KF V.heap.size X w')) := fun c Z hk hi => by
        have h1 := hk.same _ _ (by omega) hlZ
        have h2 := hk.same _ _ (Nat.le_refl _) hdZ
        exact ⟨_, _, hfin (some c) Z h1, .inr ⟨rfl, ⟨c, hIx c _ _ _ hi (turnB _ _), World.putObj_heap_same (Array.getElem?_eq_some_iff.1 h1).1, (World.putObj_heap_other (by omega)).trans h2⟩,
          hkZf.trans ((hk.mono (by omega)).trans (KF.put (by omega) _))⟩⟩
      rintro e a3 Z hp
      cases e with
      | normal =>
        obtain ⟨hk, F', hgr, hi3⟩ := hp
        have hgr2 : Grow X.heap.size F F' := fun b hb => (hgr b hb).imp id fun h => Nat.le_trans hbY.size (by simpa using h)
        have hlX : w.heap.size + 1 < X.heap.size := by omega
        have nG1 : ¬ F' (w.heap.size + 1) := fun h => by rcases hgr2 _ h with h | h; exact nF1 h; omega
        have nG0 : ¬ F' w.heap.size := fun h => by rcases hgr2 _ h with h | h; exact nF0 h; omega
        have h1 := hk.same _ _ hlZ (.inr ⟨by omega, nF1⟩)
        have h2 := hk.same _ _ hdZ (.inr ⟨Nat.le_refl _, nF0⟩)
        exact ⟨_, _, hfin none Z h1, .inl ⟨rfl, F', hgr2, ⟨hI _ _ _ _ hi3 (turn _ _ _ nG1), World.putObj_heap_same (Array.getElem?_eq_some_iff.1 h1).1, (World.putObj_heap_other (by omega)).trans h2, nG1, nG0⟩,
          hkZ.trans ((hk.mono (by omega)).trans (KP.put (by omega) (by omega) _))⟩⟩
      | ret => exact leave .ret Z hp.1 hp.2
      | exit id => exact leave (.exit id) Z hp.1 hp.2
      | goto t => exact leave (.goto t) Z hp.1 hp.2
      | panic ch => exact hp.elim
      | outgrown => exact hp.elim
    · rintro e X ⟨⟨v, rfl⟩, ⟨F, hi, hl, hd, nF1, nF0⟩ | ⟨k, hk, c, hi, hl, hd⟩⟩
      · refine ⟨none, _, by rw [hR] at hl; exact run_endLoop hl (by simp), ?_⟩
        exact hdone _ _ _ (Nat.le_refl _) nF0 (hI _ _ _ _ hi (turn _ _ _ nF1)) ((World.putObj_heap_other (by omega)).trans hd)
      · refine ⟨some c, _, by rw [hR] at hl; exact run_endLoop hl (by simp), ?_⟩
        exact hstop _ c k _ (Nat.le_refl _) hk (hIx c _ _ _ hi (turnB _ _)) ((World.putObj_heap_other (by omega)).trans hd)
end Go.Proofs.YtdbohojncbeajaaGreat.J5

namespace Go.Proofs.YtdbohojncbeajaaGreat.V4
open Go.RowKit Go.Shelf
open S2 (Sc LiesP)

attribute [local go_sem] Oper.semAt_some

def encC (x : Ck) : Array Value := #[x.v]

set_option maxHeartbeats 400000 in
/-- slices.Values, of clocks. -/
theorem clocks1_any (A : Option Addr) (c : Nat) (l : List Ck) (w : World) : Calls Tryz.prog 112 #[.slice A l.length c] w fun e w' =>
    e = .returned (.func (.func 128) #[] #[.pointer (some ⟨w.heap.size, 0, none⟩)]) ∧ w.alloc (.cells #[.slice A l.length c] 26) = w' := by
  go_enter Tryz.func112, Tryz.ntmps112
  go_wp2_with fail
  go_ret
  exact ⟨rfl, rfl⟩

set_option maxRecDepth 100000 in
set_option maxHeartbeats 1000000 in
theorem clocks1_seq (Bt D : Nat) (A : Option Addr) (c : Nat) (vs : List Ck) (w : World) (hl : LiesC (Bar D) w A (cellsC vs)) (hn : vs.length * 24 ≤ 140737488351232) (hBt : w.cell? ⟨Bt, 0, none⟩ = some (.slice A vs.length c)) :
    SeqO Tryz.prog 128 #[.pointer (some ⟨Bt, 0, none⟩)] encC D (fun _ => True) vs w := by
  intro l J Jx W hW hJ hJx hY h0
  have hB : W.cell? ⟨Bt, 0, none⟩ = some (.slice A vs.length c) := (hW.cell (p := ⟨Bt, 0, none⟩) (World.block_lt_of_cell? w _ hBt)).trans hBt
  have hlW : LiesC (Bar D) W A (cellsC vs) := hl.kn (B := 0) (KN.of_below hW)
  have HY := Lib.hid hY
  have HL := Lib.hid hlW
  clear hY hJ hJx hBt hl hlW hW
  refine (callsIn_wide (n := 6)).1 (callsIn_of_wp Tryz.func128 rfl trivial ?_ rfl)
  simp only [Tryz.ntmps128, List.size_toArray, List.length_cons, List.length_nil, Nat.reduceAdd, Nat.reduceSub, Array.replicate_succ, Array.replicate_zero, List.push_toArray, List.append_toArray, List.nil_append, List.cons_append]
  gi_wp2_with fail
  gi_loopw [7] (fun iv wr => ∃ (k : Nat), k ≤ vs.length ∧ iv = .int .i64 k ∧ J k wr ∧ KN D W.heap.size W wr) (fun iv _ => vs.length - (intOf iv).toNat)
  case atStart => exact ⟨0, Nat.zero_le _, rfl, h0, KN.refl _ _ _⟩
  case round =>
    obtain ⟨k, hk, rfl, hJr, hkr⟩ := hrel
    clear h0
    by_cases hlt : k < vs.length
    · obtain ⟨x, hx⟩ : ∃ x, vs[k]? = some x := ⟨_, List.getElem?_eq_getElem hlt⟩
      obtain ⟨b, off, rfl, hb, c0⟩ := clock_at HL.out hx
      replace c0 := hkr.cell hb c0
      have hbb := World.block_lt_of_cell? wr _ c0
      simp only at hbb
      have HX := Lib.hid hx
      clear hx
      obtain ⟨fn, tmps, assign, body, hy, hR⟩ := yield_any (m' := 5) (HY.out k x _ HX.out hJr hkr.size)
      unfold encC at hy
      obtain ⟨xA, xc, xl⟩ := x
      simp only [Ck.v] at hy c0
      gi_wp2_with fail
      refine hR.mono ?_
      clear hR hy c0
      rintro e W5 (⟨rfl, hJ5, hk5, -⟩ | ⟨rfl, hJx5, -⟩)
      · have hk6 : KN D W.heap.size W W5 := hkr.trans hk5
        clear hk5 hkr hJr
        gi_wp2_with fail
        go_roundw
        case rel => exact ⟨k + 1, by omega, by go_num, hJ5, hk6⟩
        case measure => simp [intOf]; omega
      · gi_wp2_with fail
        refine bodyPost_ret (results_none rfl _ _ _) rfl ?_
        exact ⟨⟨_, rfl⟩, .inr ⟨k, hlt, hJx5⟩⟩
    · gi_wp2_with fail
      go_end0
      have hke : k = vs.length := by omega
      exact ⟨⟨_, rfl⟩, .inl (hke ▸ hJr)⟩
end Go.Proofs.YtdbohojncbeajaaGreat.V4

namespace Go.Proofs.YtdbohojncbeajaaGreat.V4
open Go.RowKit Go.Shelf
open S2 (Sc LiesP)

attribute [local go_sem] Oper.semAt_some

/-- A value with its schema, as it lies in a variable. -/
def cellsT (x : Sc × Vl) : Array Value := #[.int .i64 x.1.k, x.1.v1, .int .u64 x.2.n, .int .u64 x.2.m, x.2.s1, x.2.c1, x.2.v1]
/-- .. as it is handed over. -/
def valT (x : Sc × Vl) : Value := .agg (cellsT x)
def encT (x : Sc × Vl) : Array Value := #[valT x]
/-- Whatever is in the value has a schema. -/
def SafeT (x : Sc × Vl) : Prop := x.2.vs = [] ∨ x.1.ins ≠ []

/-- The two ways out of a round as one. -/
theorem one_way {e : Ending} {p q : Prop} (h : (e = .returned (.bool true) ∧ p) ∨ (e = .returned (.bool false) ∧ q)) : ∃ r : Bool, e = .returned (.bool r) ∧ (if r then p else q) := by
  rcases h with ⟨h1, h2⟩ | ⟨h1, h2⟩
  · exact ⟨true, h1, h2⟩
  · exact ⟨false, h1, h2⟩

set_option maxHeartbeats 400000 in
theorem inside_any (x : Sc × Vl) (w : World) : Calls Tryz.prog 41 #[valT x] w fun e w' =>
    e = .returned (.func (.func 56) #[] #[.pointer (some ⟨w.heap.size, 0, none⟩)]) ∧ w.alloc (.cells (cellsT x) 94) = w' := by
  obtain ⟨⟨k, A, c, l⟩, xn, xm, xsA, xsc, xss, xcA, xcc, xcs, xvA, xvc, xvs⟩ := x
  unfold valT cellsT
  simp only [Sc.k, Sc.v1, Vl.n, Vl.m, Vl.s1, Vl.c1, Vl.v1]
  go_enter Tryz.func41, Tryz.ntmps41
  go_wp2_with fail
  go_ret
  exact ⟨rfl, rfl⟩

set_option maxRecDepth 100000 in
set_option maxHeartbeats 1000000 in
theorem inside_seq (Bt D : Nat) (x : Sc × Vl) (w : World) (h1 : x.1.Inp (Bar D) w) (h2 : x.2.Inp (Bar D) w) (hs : SafeT x) (hBt : ∀ i v, (cellsT x)[i]? = some v → w.cell? ⟨Bt, i, none⟩ = some v) :
    SeqO Tryz.prog 56 #[.pointer (some ⟨Bt, 0, none⟩)] encT D (fun _ => True) (kidsT x) w := by
  intro l J Jx W hW hJ hJx hY h0
  have hb1 : W.cell? ⟨Bt, 1, none⟩ = some x.1.v1 := (hW.cell (p := ⟨Bt, 1, none⟩) (World.block_lt_of_cell? w _ (hBt 1 _ rfl))).trans (hBt 1 _ rfl)
  have hb6 : W.cell? ⟨Bt, 6, none⟩ = some x.2.v1 := (hW.cell (p := ⟨Bt, 6, none⟩) (World.block_lt_of_cell? w _ (hBt 6 _ rfl))).trans (hBt 6 _ rfl)
  have g1 : x.1.Inp (Bar D) W := sc_kn (B := 0) h1 (KN.of_below hW)
  have g2 : x.2.Inp (Bar D) W := h2.kn (B := 0) (KN.of_below hW)
  have HY := Lib.hid hY
  have HJ := Lib.hid hJ
  clear hY hJ hJx hBt h1 h2 hW
  obtain ⟨⟨k0, A, c, ins⟩, n0, m0, sA, sc, ss, cA, cc, cs, vA, vc, vs⟩ := x
  simp only [Sc.v1, Vl.v1] at hb1 hb6
  obtain ⟨hlS, hnS⟩ : LiesP (Bar D) W A ins ∧ ins.length * 32 ≤ 140737488351232 := by
    cases g1 with
    | mk _ _ _ _ h1 _ _ h3 _ => exact ⟨h1, h3⟩
  obtain ⟨hlV, hnV⟩ : LiesC (Bar D) W vA (cellsV vs) ∧ vs.length * 88 ≤ 140737488351232 := by
    cases g2 with
    | mk _ _ _ _ _ _ _ _ _ _ _ _ _ _ _ _ _ _ _ h9 h10 _ => exact ⟨h9, h10.2.2⟩
  have HS := Lib.hid hlS
  have HV := Lib.hid hlV
  have HSA := Lib.hid hs
  clear g1 g2 hlS hlV hs
  refine (callsIn_wide (n := 6)).1 (callsIn_of_wp Tryz.func56 rfl trivial ?_ rfl)
  simp only [Tryz.ntmps56, List.size_toArray, List.length_cons, List.length_nil, Nat.reduceAdd, Nat.reduceSub, Array.replicate_succ, Array.replicate_zero, List.push_toArray, List.append_toArray, List.nil_append, List.cons_append]
  gi_wp2_with fail
  gi_loopw [13] (fun iv wr => ∃ (k : Nat), k ≤ vs.length ∧ iv = .int .i64 k ∧ J k wr ∧ KN D W.heap.size W wr) (fun iv _ => vs.length - (intOf iv).toNat)
  case atStart => exact ⟨0, Nat.zero_le _, rfl, h0, KN.refl _ _ _⟩
  case round =>
    obtain ⟨k, hk, rfl, hJr, hkr⟩ := hrel
    clear h0
    by_cases hlt : k < vs.length
    · obtain ⟨x, hx⟩ : ∃ x, vs[k]? = some x := ⟨_, List.getElem?_eq_getElem hlt⟩
      obtain ⟨b, off, rfl, hb, c0, c1, c2, c3, c4⟩ := value_at HV.out hx
      replace c0 := hkr.cell hb c0
      replace c1 := hkr.cell hb c1
      replace c2 := hkr.cell hb c2
      replace c3 := hkr.cell hb c3
      replace c4 := hkr.cell hb c4
      have hbb := World.block_lt_of_cell? wr _ c0
      simp only at hbb
      have hi0 : 0 < ins.length := by
        rcases HSA.out with h | h
        · simp only [Vl.vs] at h; subst h; simp at hlt
        · exact List.length_pos_iff.2 h
      obtain ⟨q, hq⟩ : ∃ q, min k (ins.length - 1) = q := ⟨_, rfl⟩
      have hql : q < ins.length := by omega
      obtain ⟨y, hy0⟩ : ∃ y, ins[q]? = some y := ⟨_, List.getElem?_eq_getElem hql⟩
      obtain ⟨b', off', rfl, hb', hc'⟩ : ∃ b off, A = some ⟨b, off, none⟩ ∧ Bar D b ∧ ∀ i x, ins[i]? = some x → W.cell? ⟨b, off + i * 2, none⟩ = some (.int .i64 x.k) ∧ W.cell? ⟨b, off + i * 2 + 1, none⟩ = some x.v1 := by
        rcases HS.out with h | h
        · subst h; simp at hql
        · exact h
      have d0 := hkr.cell hb' (hc' q y hy0).1
      have d1 := hkr.cell hb' (hc' q y hy0).2
      have hbb' := World.block_lt_of_cell? wr _ d0
      simp only at hbb'
      have hkid : (kidsT (Sc.mk k0 (some ⟨b', off', none⟩) c ins, Vl.mk n0 m0 sA sc ss cA cc cs (some ⟨b, off, none⟩) vc vs))[k]? = some (y, x) := by
        rw [kidsT_at]
        simp only [Vl.vs, hx, Option.map_some, Sc.ins, scAt, hq, hy0, Option.getD_some]
      have HX := Lib.hid hkid
      clear hkid hx hc' hy0
      have hbr : Below wr.heap.size wr (wr.alloc (.cells #[.int .u64 x.n, .int .u64 x.m, x.s1, x.c1, x.v1] 29)) := (Below.refl _ wr).alloc (Nat.le_refl _) _
      obtain ⟨xn, xm, xsA, xsc, xss, xcA, xcc, xcs, xvA, xvc, xvs⟩ := x
      obtain ⟨yk, yA, yc, yl⟩ := y
      simp only [Vl.n, Vl.m, Vl.s1, Vl.c1, Vl.v1, Sc.k, Sc.v1] at c0 c1 c2 c3 c4 d0 d1
      simp only [Vl.n, Vl.m, Vl.s1, Vl.c1, Vl.v1] at hbr
      have hbr2 : Below wr.heap.size wr (wr.alloc (.cells #[.int .u64 xn, .int .u64 xm, .slice xsA xss.length xsc, .slice xcA xcs.length xcc, .slice xvA xvs.length xvc] 29)).drew := ⟨hbr.os, hbr.tape, hbr.output, hbr.size, hbr.block⟩
      obtain ⟨fn, tmps, assign, body, hy, hR⟩ := yield_any (m' := 5) (HY.out k _ _ HX.out (HJ.out _ _ _ hJr (hbr2.mono hkr.size)) (Nat.le_trans hkr.size hbr2.size))
      unfold encT valT cellsT at hy
      simp only [Sc.k, Sc.v1, Vl.n, Vl.m, Vl.s1, Vl.c1, Vl.v1] at hy
      have hmn : min (k : Int) (IntKind.i64.wrap ((ins.length : Int) - 1)) = (q : Int) := by
        have : IntKind.i64.wrap ((ins.length : Int) - 1) = (ins.length : Int) - 1 := IntWalk.i64_in _ (by omega)
        rw [this]; omega
      clear hq
      have hmx : Tryz.prog.follows .mixedOrders = true := by kernel_rfl
      have hR2 := hR.mono fun e W' h => one_way h
      clear hR
      gi_wp2_with fail
      gi_region_with_o (refine hR2.mono ?_; rintro e W5 ⟨r, rfl, hr⟩)
      all_goals (
        clear hR2 hy c0 c1 c2 c3 c4 d0 d1
        cases r with
        | true =>
          obtain ⟨hJ5, hk5, -⟩ := hr
          have hk6 : KN D W.heap.size W W5 := hkr.trans ((KN.of_below hbr2).trans hk5)
          clear hk5 hbr2 hbr hkr hJr
          gi_wp2_with fail
          go_roundw
          case rel => exact ⟨k + 1, by omega, by go_num, hJ5, hk6⟩
          case measure => simp [intOf]; omega
        | false =>
          gi_wp2_with fail
          refine bodyPost_ret (results_none rfl _ _ _) rfl ?_
          exact ⟨⟨_, rfl⟩, .inr ⟨k, by rw [kidsT_len]; exact hlt, hr.1⟩⟩)
    · gi_wp2_with fail
      go_end0
      have hke : k = vs.length := by omega
      refine ⟨⟨_, rfl⟩, .inl ?_⟩
      rw [kidsT_len]
      exact hke ▸ hJr
end Go.Proofs.YtdbohojncbeajaaGreat.V4
