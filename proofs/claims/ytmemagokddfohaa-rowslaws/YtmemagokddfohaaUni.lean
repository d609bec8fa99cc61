/- The contracts in one form: what a call answers, and that it leaves all that was there. No condition of its own. -/
import Derived.Test.YtmemagokddfohaaFaces
import Derived.Test.YtmemagokddfohaaSorted
import Derived.Test.YtmemagokddfohaaSearch
import Derived.Test.YtmemagokddfohaaRef1b
namespace Go.Proofs.Ytmemagokddfohaa
open Go.RowKit

theorem allocB (w : World) (o : Obj) : Below w.heap.size w (w.alloc o) := (Below.refl _ w).alloc (Nat.le_refl _) o

theorem callV {w w1 : World} {f : FuncId} {args : Array Value} {v : Value} (h : Below w.heap.size w w1) (hc : Calls Try.prog f args w1 (RetV w1 v)) : Calls Try.prog f args w1 (RetV w v) :=
  hc.mono fun _ _ ⟨h1, h2⟩ => ⟨h1, h.trans (h2.mono h.size)⟩
theorem callL {w w1 : World} {f : FuncId} {args : Array Value} {ys zs : List Str} (h : Below w.heap.size w w1) (e : ys = zs) (hc : Calls Try.prog f args w1 (RetL w1 ys)) : Calls Try.prog f args w1 (RetL w zs) :=
  hc.mono fun _ _ hr => RetL.from h (e ▸ hr)
theorem retV_draw {w w' : World} {v : Value} {e : Ending} (h : e = .returned v ∧ ∃ n, w' = w.drewN n) : RetV w v e w' := by
  obtain ⟨h1, n, rfl⟩ := h
  exact ⟨h1, below_drewN (Below.refl _ _) n⟩
theorem retV_same {w w' : World} {v : Value} {e : Ending} (h : e = .returned v ∧ w = w') : RetV w v e w' := by
  obtain ⟨h1, rfl⟩ := h
  exact ⟨h1, Below.refl _ _⟩

/-- A slice written out lies where it was made. -/
theorem Lies.lit (w : World) (xs : List Str) (t : TypeId) : Lies (w.alloc (.cells (cellsOf xs).toArray t)) (some ⟨w.heap.size, 0, none⟩) xs := by
  refine .inr ⟨_, _, rfl, by simp, fun i x hx => ?_⟩
  have := cellsOf_at hx
  simp [this]

section
variable (A B : Option Addr) (c d : Nat) (xs ys : List Str) (s : Str) (w : World)

theorem sameV (b : Bool) (hl : Lies w A xs) (hm : Lies w B ys) (hn : xs.length ≤ maxLen) (e : decide (xs = ys) = b) :
    Calls Try.prog 8 #[.slice A xs.length c, .slice B ys.length d] w (RetV w (.bool b)) := e ▸ (same_any A B c d xs ys w hl hm hn).mono fun _ _ h => retV_draw h
theorem isV (b : Bool) (hl : Lies w A xs) (hn : xs.length ≤ maxLen) (e : decide (Srt xs) = b) :
    Calls Try.prog 6 #[.slice A xs.length c] w (RetV w (.bool b)) := e ▸ (is_any A c xs w hl hn).mono fun _ _ h => retV_draw h
theorem refRisesV (b : Bool) (hl : Lies w A xs) (hn : xs.length ≤ maxLen) (e : decide (Srt xs) = b) :
    Calls Try.prog 7 #[.slice A xs.length c] w (RetV w (.bool b)) := e ▸ (refRises_any A c xs w hl hn).mono fun _ _ h => retV_draw h
theorem hasV (b : Bool) (hl : Lies w A xs) (hs : Srt xs) (hn : xs.length ≤ 400000) (e : decide (s ∈ xs) = b) :
    Calls Try.prog 11 #[.slice A xs.length c, .string (S s)] w (RetV w (.bool b)) := e ▸ (has_any A c xs s w hl hs hn).mono fun _ _ h => retV_same h
theorem atV (hl : Lies w A xs) (hn : xs.length ≤ maxLen) :
    Calls Try.prog 12 #[.slice A xs.length c, .string (S s)] w (RetV w (.int .i64 (atI xs s))) := (at_any A c xs s w hl hn).mono fun _ _ h => retV_same h
theorem refWithinV (b : Bool) (hl : Lies w A xs) (hm : Lies w B ys) (hn : xs.length ≤ maxLen) (hn' : ys.length ≤ maxLen) (e : decide (Wi xs ys) = b) :
    Calls Try.prog 20 #[.slice A xs.length c, .slice B ys.length d] w (RetV w (.bool b)) := e ▸ (refWithin_any A B c d xs ys w hl hm hn hn').mono fun _ _ h => retV_same h
theorem withinV (b : Bool) (hl : Lies w A xs) (hm : Lies w B ys) (hs : Srt xs) (hs' : Srt ys) (hc : xs.length ≤ c) (hd : ys.length ≤ d) (hcm : c ≤ maxLen) (hdm : d ≤ maxLen) (e : decide (Wi xs ys) = b) :
    Calls Try.prog 19 #[.slice A xs.length c, .slice B ys.length d] w (RetV w (.bool b)) := e ▸ Within_any A B c d xs ys w hl hm hs hs' hc hd hcm hdm
end
end Go.Proofs.Ytmemagokddfohaa
