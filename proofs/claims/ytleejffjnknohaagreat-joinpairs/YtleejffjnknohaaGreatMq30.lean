/- Rows of whatever that came in, opened; schemas and values among them. No condition. A value that came in, opened. No condition. -/
import Derived.Test.YtleejffjnknohaaGreatMq02
import Derived.Deep.Slices
import Derived.ProofKit
import Derived.SizedLaws
import Derived.OpenShut
import Derived.ChangeOld
namespace Go.Proofs.YtleejffjnknohaaGreat.V4
open Go.ChangeShapes Go.WideShapes Go.ChangeAt Go.RowKit Go.Deep
open C3 (Tk Nok)

theorem flatMap_at {α β : Type} {f : α → List β} {k : Nat} (hk : ∀ x, (f x).length = k) (h0 : 0 < k) : ∀ {l : List α} {p : Nat} {u : β}, (l.flatMap f)[p]? = some u → ∃ x, l[p / k]? = some x ∧ (f x)[p % k]? = some u
  | [], p, u, h => by simp at h
  | x :: l, p, u, h => by
    rw [List.flatMap_cons] at h
    by_cases hp : p < k
    · rw [List.getElem?_append_left (by rw [hk]; exact hp)] at h
      refine ⟨x, ?_, by rw [Nat.mod_eq_of_lt hp]; exact h⟩
      rw [Nat.div_eq_of_lt hp]
      rfl
    · rw [List.getElem?_append_right (by rw [hk]; omega), hk] at h
      obtain ⟨y, h1, h2⟩ := flatMap_at hk h0 h
      have e1 : p / k = (p - k) / k + 1 := by rw [Nat.div_eq_sub_div h0 (by omega)]
      have e2 : p % k = (p - k) % k := by rw [Nat.mod_eq_sub_mod (by omega)]
      exact ⟨y, by rw [e1]; simpa using h1, by rw [e2]; exact h2⟩

theorem wAll_mem {H : Type} {P : Program} {e : TypeId} {d : DataW H} {n : Nat} : ∀ {ds : List (DataW H)}, d ∈ ds → n ∈ d.weights P e → n ∈ DataW.weightsAll P e ds
  | x :: ds, h, hn => by
    rw [DataW.weightsAll, List.mem_append]
    rcases List.mem_cons.1 h with rfl | h
    · exact .inl hn
    · exact .inr (wAll_mem h hn)

section
variable {H : Type} {enc : TypeId × Value → H} {W : World}

set_option maxRecDepth 100000 in
/-- A slice that came in: what lies in it, one by one. -/
theorem open_row {α : Type} [Inhabited α] {t e : TypeId} (k bytes : Nat) (f : α → List Value) (hk : ∀ x, (f x).length = k) (h0 : 0 < k) (ht : Tryz.prog.underlying t = some (.slice e)) (hc : Tryz.prog.cellsOf e = k) (hby : Tryz.prog.bytesOf e = bytes) (Q : α → Prop)
    {d : DataW H} {fuel : Nat} {v : Value} {ps : List MemPlace} (h : DataW.trod enc Tryz.prog W 0 (fun _ => true) true fuel t [v] = some (d, ps)) (hw : ∀ n ∈ d.weights Tryz.prog t, n ≤ reachBytes)
    (each : ∀ (dd : DataW H) (fuel' : Nat) (cs' : List Value) (ps' : List MemPlace), SizeOf.sizeOf dd < SizeOf.sizeOf d → cs'.length = k → DataW.trod enc Tryz.prog W 0 (fun _ => true) true fuel' e cs' = some (dd, ps') → (∀ n ∈ dd.weights Tryz.prog e, n ≤ reachBytes) → ∃ x : α, cs' = f x ∧ Q x) :
    ∃ (A : Option Addr) (c : Nat) (l : List α), v = .slice A l.length c ∧ LiesC (fun b => b < W.heap.size) W A (l.flatMap f) ∧ (l.length ≤ c ∧ c ≤ maxLen ∧ l.length * bytes ≤ 140737488351232) ∧ ∀ x ∈ l, Q x := by
  rcases open_slice ht h with ⟨h1, _⟩ | ⟨a, len, cap, mm, n, D, Pl, h1, hb, hl, hcm, hmm, h2, hx⟩
  · cases h1
    exact ⟨none, 0, [], rfl, .inl rfl, ⟨by simp, by simp [maxLen], by simp⟩, by simp⟩
  · cases h1
    rw [if_pos rfl] at hmm
    subst hmm
    have hd : d = .slice ((List.range len).map D) ((List.range (mm - len)).map fun j => D (len + j)) := (Prod.mk.inj h2).1
    have hel : ∀ i, i < len → D i ∈ (List.range len).map D := fun i hi => List.mem_map.2 ⟨i, List.mem_range.2 hi, rfl⟩
    have hsz : len * bytes ≤ 140737488351232 := by
      have := hw ((len + (mm - len)) * bytes) (by rw [hd, DataW.weights, ht]; simp [hby])
      unfold reachBytes at this
      have h3 : len * bytes ≤ (len + (mm - len)) * bytes := Nat.mul_le_mul_right _ (by omega)
      omega
    have all : ∀ i, i < len → ∃ x : α, W.cells? 0 (a.add (i * k)) k = some (f x) ∧ Q x := by
      intro i hi
      obtain ⟨cs', hcc, htr⟩ := hx i (by omega)
      rw [hc] at hcc
      obtain ⟨x, rfl, hq⟩ := each (D i) n cs' (Pl i) (by
        have h3 := List.sizeOf_lt_of_mem (hel i hi)
        rw [hd]
        simp
        omega) (World.cells?_some hcc).2.1 htr (fun q hq => hw q (by
          rw [hd, DataW.weights, ht]
          exact List.mem_cons_of_mem _ (List.mem_append.2 (.inl (wAll_mem (hel i hi) hq)))))
      exact ⟨x, hcc, hq⟩
    obtain ⟨g, hg⟩ := choose_lt all
    refine ⟨some a, mm, (List.range len).map g, by simp, ?_, ⟨by simpa using hl, hcm, by simpa using hsz⟩, ?_⟩
    · by_cases hz : len = 0
      · subst hz; exact .inl rfl
      · have hone : ∀ i, i < len → ∀ j u, (f (g i))[j]? = some u → W.cell? ((a.add (i * k)).add j) = some u := by
          intro i hi j u hu
          have hjl : j < k := by rw [← hk (g i)]; exact (List.getElem?_eq_some_iff.1 hu).1
          rw [(World.cells?_some (hg i hi).1).2.2 j hjl, hu]
        obtain ⟨u0, hu0⟩ : ∃ u, (f (g 0))[0]? = some u := ⟨_, List.getElem?_eq_getElem (by rw [hk]; exact h0)⟩
        have hc0 := hone 0 (by omega) 0 u0 hu0
        obtain ⟨b, off, spot⟩ := a
        have hspot : spot = none := by simpa [Addr.add] using World.cell?_spot hc0
        subst hspot
        have hblt : b < W.heap.size := World.block_lt_of_cell? W _ (by simpa [Addr.add] using hc0)
        refine .inr ⟨b, off, rfl, hblt, fun p u hu => ?_⟩
        obtain ⟨x, hx1, hx2⟩ := flatMap_at hk h0 hu
        rw [List.getElem?_map] at hx1
        have hi : p / k < len := by
          rcases Nat.lt_or_ge (p / k) len with h | h
          · exact h
          · rw [List.getElem?_eq_none (by simpa using h)] at hx1; cases hx1
        rw [List.getElem?_range hi] at hx1
        have hxe : g (p / k) = x := by simpa using hx1
        have := hone (p / k) hi (p % k) u (by rw [hxe]; exact hx2)
        rw [Addr.add_lit, Addr.add_lit] at this
        rw [← this]
        congr 2
        have := Nat.div_add_mod p k
        rw [Nat.mul_comm] at this
        omega
    · intro x hx'
      obtain ⟨i, hi, rfl⟩ := List.mem_map.1 hx'
      exact (hg i (List.mem_range.1 hi)).2
end
end Go.Proofs.YtleejffjnknohaaGreat.V4

namespace Go.Proofs.YtleejffjnknohaaGreat.V4
open Go.ChangeShapes Go.WideShapes Go.ChangeAt Go.RowKit Go.Deep
open C3 (Tk Nok)

theorem Tryz.cStr : Tryz.prog.cellsOf 9 = 1 := by kernel_rfl
theorem Tryz.bStr : Tryz.prog.bytesOf 9 = 16 := by kernel_rfl
instance : Inhabited Tk := ⟨⟨0, 0⟩⟩
instance : Inhabited Ck := ⟨⟨none, 0, []⟩⟩
instance : Inhabited Vl := ⟨.mk 0 0 none 0 [] none 0 [] none 0 []⟩

theorem flatMap_one {α β : Type} (f : α → β) : ∀ l : List α, l.flatMap (fun x => [f x]) = l.map f
  | [] => rfl
  | x :: l => by rw [List.flatMap_cons, flatMap_one f l]; rfl
theorem size_S (x : Str) : (S x).size = x.length := by simp [S, ByteArray.size]

section
variable {H : Type} {enc : TypeId × Value → H} {W : World}

set_option maxRecDepth 100000 in
theorem open_texts {d : DataW H} {fuel : Nat} {v : Value} {ps : List MemPlace} (h : DataW.trod enc Tryz.prog W 0 (fun _ => true) true fuel 29 [v] = some (d, ps)) (hw : ∀ n ∈ d.weights Tryz.prog 29, n ≤ reachBytes) :
    ∃ (A : Option Addr) (c : Nat) (l : List Str), v = .slice A l.length c ∧ LiesC (fun b => b < W.heap.size) W A (cellsS l) ∧ (l.length ≤ c ∧ c ≤ maxLen ∧ l.length * 16 ≤ 140737488351232) ∧ ∀ s ∈ l, s.length ≤ maxLen := by
  obtain ⟨A, c, l, h1, h2, h3, h4⟩ := open_row 1 16 (fun s : Str => [Value.string (S s)]) (fun _ => rfl) (by omega) Tryz.underlying29 Tryz.cStr Tryz.bStr (fun s => s.length ≤ maxLen) h hw (by
    intro dd fuel' cs' ps' _ _ htr _
    obtain ⟨s, hs, -, hsz⟩ := DataW.trod_string Tryz.underlying9 htr
    obtain ⟨x, rfl⟩ := S_of s
    exact ⟨x, hs, by rw [← size_S]; exact hsz⟩)
  refine ⟨A, c, l, h1, ?_, h3, h4⟩
  have e : l.flatMap (fun s : Str => [Value.string (S s)]) = cellsS l := flatMap_one _ l
  rwa [e] at h2

end
end Go.Proofs.YtleejffjnknohaaGreat.V4
