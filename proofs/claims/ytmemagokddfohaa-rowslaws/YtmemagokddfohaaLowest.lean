/- What lowest does, of two rows of which one at least isn't empty. No condition but that the slices read as strings. -/
import Derived.Test.YtmemagokddfohaaNorm
namespace Go.Proofs.Ytmemagokddfohaa
open Go.RowKit

theorem len_zero {ys : List Str} (h : ys = []) : ((ys.length : Int) == 0) = true := by subst h; rfl
theorem len_pos {ys : List Str} {y : Str} (h : ys[0]? = some y) : ((ys.length : Int) == 0) = false := by
  have := (List.getElem?_eq_some_iff.1 h).1
  rw [beq_eq_false_iff_ne]; omega
theorem pos_of {ys : List Str} {y : Str} (h : ys[0]? = some y) : 0 < ys.length := (List.getElem?_eq_some_iff.1 h).1

/-- A call that answers a string and a side. -/
def RetE (w : World) (x : Str) (k : Int) (e : Ending) (w' : World) : Prop := e = .returned (.tuple #[.string (S x), .int .i64 k]) ∧ ∃ n, w' = w.drewN n

set_option maxHeartbeats 1000000 in
theorem lowest_nil2 (A B : Option Addr) (c d : Nat) (xs : List Str) (x : Str) (w : World) (hl : Lies w A xs) (hx : xs[0]? = some x) :
    Calls Try.prog 37 #[.slice A xs.length c, .slice B 0 d] w (RetE w x 0) := by
  have hpos := pos_of hx
  obtain ⟨b, off, rfl, hb, hc⟩ := hl.get hpos
  have hcx : w.cell? ⟨b, off, none⟩ = some (.string (S x)) := hc 0 x hx
  clear hc hl hx
  go_enter Try.func37, Try.ntmps37
  go_wp2
  go_quiet (fail)
  go_wp2
  go_ret2
  exact ⟨rfl, _, rfl⟩

set_option maxHeartbeats 1000000 in
theorem lowest_lt (A B : Option Addr) (c d : Nat) (xs ys : List Str) (x y : Str) (w : World) (hl : Lies w A xs) (hm : Lies w B ys) (hx : xs[0]? = some x) (hy : ys[0]? = some y) (hlt : x < y) :
    Calls Try.prog 37 #[.slice A xs.length c, .slice B ys.length d] w (RetE w x 0) := by
  have hpos := pos_of hx
  have hpos' := pos_of hy
  have hz := len_pos hy
  obtain ⟨b, off, rfl, hb, hc⟩ := hl.get hpos
  obtain ⟨b', off', rfl, hb', hc'⟩ := hm.get hpos'
  have hcx : w.cell? ⟨b, off, none⟩ = some (.string (S x)) := hc 0 x hx
  have hcy : w.cell? ⟨b', off', none⟩ = some (.string (S y)) := hc' 0 y hy
  have hb1 := bl_true hlt
  have hd : decide (0 < xs.length) = true := decide_eq_true hpos
  clear hc hl hx hc' hm hy hlt
  go_enter Try.func37, Try.ntmps37
  go_wp2
  go_quiet (fail)
  go_wp2
  go_ret2
  exact ⟨rfl, _, rfl⟩

set_option maxHeartbeats 1000000 in
theorem lowest_nil1 (A B : Option Addr) (c d : Nat) (ys : List Str) (y : Str) (w : World) (hm : Lies w B ys) (hy : ys[0]? = some y) :
    Calls Try.prog 37 #[.slice A 0 c, .slice B ys.length d] w (RetE w y 1) := by
  have hpos' := pos_of hy
  have hz := len_pos hy
  obtain ⟨b', off', rfl, hb', hc'⟩ := hm.get hpos'
  have hcy : w.cell? ⟨b', off', none⟩ = some (.string (S y)) := hc' 0 y hy
  clear hc' hm hy
  go_enter Try.func37, Try.ntmps37
  go_wp2
  go_quiet (fail)
  go_wp2
  go_quiet (fail)
  go_wp2
  go_ret2
  exact ⟨rfl, _, rfl⟩

set_option maxHeartbeats 1000000 in
theorem lowest_gt (A B : Option Addr) (c d : Nat) (xs ys : List Str) (x y : Str) (w : World) (hl : Lies w A xs) (hm : Lies w B ys) (hx : xs[0]? = some x) (hy : ys[0]? = some y) (hlt : y < x) :
    Calls Try.prog 37 #[.slice A xs.length c, .slice B ys.length d] w (RetE w y 1) := by
  have hpos := pos_of hx
  have hpos' := pos_of hy
  have hz := len_pos hy
  have hz' := len_pos hx
  obtain ⟨b, off, rfl, hb, hc⟩ := hl.get hpos
  obtain ⟨b', off', rfl, hb', hc'⟩ := hm.get hpos'
  have hcx : w.cell? ⟨b, off, none⟩ = some (.string (S x)) := hc 0 x hx
  have hcy : w.cell? ⟨b', off', none⟩ = some (.string (S y)) := hc' 0 y hy
  have hb1 := bl_true hlt
  have hb2 := bl_false (str_asymm hlt)
  have hd : decide (0 < xs.length) = true := decide_eq_true hpos
  clear hc hl hx hc' hm hy hlt
  go_enter Try.func37, Try.ntmps37
  go_wp2
  go_quiet (fail)
  go_wp2
  go_quiet (fail)
  go_wp2
  go_ret2
  exact ⟨rfl, _, rfl⟩

set_option maxHeartbeats 1000000 in
theorem lowest_eq (A B : Option Addr) (c d : Nat) (xs ys : List Str) (x : Str) (w : World) (hl : Lies w A xs) (hm : Lies w B ys) (hx : xs[0]? = some x) (hy : ys[0]? = some x) :
    Calls Try.prog 37 #[.slice A xs.length c, .slice B ys.length d] w (RetE w x 2) := by
  have hpos := pos_of hx
  have hpos' := pos_of hy
  have hz := len_pos hy
  have hz' := len_pos hx
  obtain ⟨b, off, rfl, hb, hc⟩ := hl.get hpos
  obtain ⟨b', off', rfl, hb', hc'⟩ := hm.get hpos'
  have hcx : w.cell? ⟨b, off, none⟩ = some (.string (S x)) := hc 0 x hx
  have hcy : w.cell? ⟨b', off', none⟩ = some (.string (S x)) := hc' 0 x hy
  have hb2 := bl_false (str_irrefl x)
  have hd : decide (0 < xs.length) = true := decide_eq_true hpos
  clear hc hl hx hc' hm hy
  go_enter Try.func37, Try.ntmps37
  go_wp2
  go_quiet (fail)
  go_wp2
  go_quiet (fail)
  go_wp2
  go_ret2
  exact ⟨rfl, _, rfl⟩
end Go.Proofs.Ytmemagokddfohaa
