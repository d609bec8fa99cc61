/- What schema.inside, schema.shaped, schema.leaning do. No condition. -/
import Derived.Test.YtohmgidmfabimaaRefSf
namespace Go.Proofs.Ytohmgidmfabimaa
open Go.RowKit

set_option maxHeartbeats 400000 in
theorem inside_any (s : Sc) (w : World) : Calls Try.prog 17 #[s.val] w (RetV w s.v1) := by
  obtain ⟨k0, A, c, l⟩ := s
  simp only [val_mk]
  go_enter Try.func17, Try.ntmps17
  go_wp2_with fail
  go_ret
  exact ⟨rfl, allocB _ _⟩

/-- It alone, not what is in it. -/
def shapedS (s : Sc) : Bool := decide ((s.ins.length : Int) = arI s.k)

theorem dec_int (n : Nat) (m : Int) : ((n : Int) == m) = decide ((n : Int) = m) := by
  by_cases h : (n : Int) = m <;> simp [h]

set_option maxHeartbeats 400000 in
theorem shaped_any (s : Sc) (w : World) : Calls Try.prog 18 #[s.val] w (RetV w (.bool (shapedS s))) := by
  obtain ⟨k, A, c, l⟩ := s
  simp only [val_mk]
  by_cases h0 : k = 1 ∨ k = 2 ∨ k = 3 ∨ k = 6 ∨ k = 7
  · rcases h0 with rfl | rfl | rfl | rfl | rfl
    all_goals
      go_enter Try.func18, Try.ntmps18
      go_wp2_with fail
      go_ret
      exact ⟨ret_bool (dec_int _ _), allocB _ _⟩
  · by_cases h1 : k = 4 ∨ k = 8
    · rcases h1 with rfl | rfl
      all_goals
        go_enter Try.func18, Try.ntmps18
        go_wp2_with fail
        go_ret
        exact ⟨ret_bool (dec_int _ _), allocB _ _⟩
    · by_cases h2 : k = 5
      · subst h2
        go_enter Try.func18, Try.ntmps18
        go_wp2_with fail
        go_ret
        exact ⟨ret_bool (dec_int _ _), allocB _ _⟩
      · have HA : Hid (shapedS (.mk k A c l) = false) := by
          show decide ((l.length : Int) = arI k) = false
          unfold arI
          rw [if_neg h0, if_neg h1, if_neg h2]
          exact decide_eq_false (by omega)
        have e1 : k ≠ 1 := fun h => h0 (by simp [h])
        have e2 : k ≠ 2 := fun h => h0 (by simp [h])
        have e3 : k ≠ 3 := fun h => h0 (by simp [h])
        have e6 : k ≠ 6 := fun h => h0 (by simp [h])
        have e7 : k ≠ 7 := fun h => h0 (by simp [h])
        have e4 : k ≠ 4 := fun h => h1 (by simp [h])
        have e8 : k ≠ 8 := fun h => h1 (by simp [h])
        clear h0 h1
        go_enter Try.func18, Try.ntmps18
        go_wp2_with fail
        go_ret
        exact ⟨ret_bool HA.out.symm, allocB _ _⟩

theorem retN_mk {w w' : World} {t : Tr} {v : Value} (s : Sc) (hb : Below w.heap.size w w') (hv : v = s.val) (he : s.er = t) (hi : s.Inp (fun b => w.heap.size ≤ b ∧ b < w'.heap.size) w') : RetN w t (.returned v) w' := ⟨s, by rw [hv], he, hi, hb⟩
theorem RetN.toS {w w' : World} {t : Tr} {e : Ending} (h : RetN w t e w') : RetS w t e w' := by
  obtain ⟨s, h1, h2, h3, h4⟩ := h
  exact ⟨s, h1, h2, h3.mono fun b hP => hP.2, h4⟩
theorem inp_leaf (P : Nat → Prop) (w : World) (k : Int) : (Sc.mk k none 0 []).Inp P w := .mk _ _ _ _ LiesP.nil (by simp) (by simp) (by simp) (by simp)
theorem inp_one {P : Nat → Prop} {b : Nat} {w : World} {k : Int} {x : Sc} (hP : P b) (h0 : w.cell? ⟨b, 0, none⟩ = some (.int .i64 x.k)) (h1 : w.cell? ⟨b, 1, none⟩ = some x.v1) (hx : x.Inp P w) : (Sc.mk k (some ⟨b, 0, none⟩) 1 [x]).Inp P w := by
  refine .mk _ _ _ _ (.inr ⟨b, 0, rfl, hP, fun i y hy => ?_⟩) (by simp) (by simp) (by simp) (fun y hy => by rw [List.mem_singleton.1 hy]; exact hx)
  match i, hy with
  | 0, hy => simp at hy; subst hy; exact ⟨h0, h1⟩
theorem inp_two {P : Nat → Prop} {b : Nat} {w : World} {k : Int} {x y : Sc} (hP : P b) (h0 : w.cell? ⟨b, 0, none⟩ = some (.int .i64 x.k)) (h1 : w.cell? ⟨b, 1, none⟩ = some x.v1)
    (h2 : w.cell? ⟨b, 2, none⟩ = some (.int .i64 y.k)) (h3 : w.cell? ⟨b, 3, none⟩ = some y.v1) (hx : x.Inp P w) (hy : y.Inp P w) : (Sc.mk k (some ⟨b, 0, none⟩) 2 [x, y]).Inp P w := by
  refine .mk _ _ _ _ (.inr ⟨b, 0, rfl, hP, fun i z hz => ?_⟩) (by simp) (by simp) (by simp) (fun z hz => by rcases List.mem_cons.1 hz with rfl | hz; exact hx; rw [List.mem_singleton.1 hz]; exact hy)
  match i, hz with
  | 0, hz => simp at hz; subst hz; exact ⟨h0, h1⟩
  | 1, hz => simp at hz; subst hz; exact ⟨h2, h3⟩

set_option maxHeartbeats 400000 in
theorem leaning_any (w : World) : Calls Try.prog 23 #[] w (RetN w leanT) := by
  go_enter Try.func23, Try.ntmps23
  go_wp2_with fail
  refine bodyPost_ret (results_cellS rfl _ _ _ (.int .i64 4) (.slice (some ⟨w.heap.size + 1 + 1, 0, none⟩) 1 1) rfl (by go_simp) (by go_simp)) rfl ?_
  refine retN_mk (.mk 4 (some ⟨w.heap.size + 1 + 1, 0, none⟩) 1 [.mk 7 none 0 []]) (belAl (belAl (belAl (Below.refl _ _)))) rfl (by simp only [er_mk, List.map_cons, List.map_nil]; rfl) ?_
  exact inp_one (by simp; omega) (by go_simp; rfl) (by go_simp; rfl) (inp_leaf _ _ _)
end Go.Proofs.Ytohmgidmfabimaa
