/- What the law's known does: it answers true. No condition. -/
import Derived.Test.YtohmgidmfabimaaPsl
namespace Go.Proofs.Ytohmgidmfabimaa
open Go.RowKit

/-- A schema in a variable's block. -/
structure At (w : World) (B : Nat) (s : Sc) : Prop where
  inn : s.In w.heap.size w
  c0 : w.cell? ⟨B, 0, none⟩ = some (.int .i64 s.k)
  c1 : w.cell? ⟨B, 1, none⟩ = some s.v1
  lt : B < w.heap.size

theorem At.later {w w' : World} {B : Nat} {s : Sc} (h : At w B s) (hb : Below w.heap.size w w') : At w' B s :=
  ⟨h.inn.later hb, (hb.cell (p := ⟨B, 0, none⟩) h.lt).trans h.c0, (hb.cell (p := ⟨B, 1, none⟩) h.lt).trans h.c1, Nat.lt_of_lt_of_le h.lt hb.size⟩

theorem callB {w1 : World} {f : FuncId} {args : Array Value} {v u : Value} (e : v = u) (hc : Calls Try.prog f args w1 (RetV w1 v)) : Calls Try.prog f args w1 (RetV w1 u) := e ▸ hc

theorem vB {a b : Bool} (h : a = b) : Value.bool a = .bool b := by rw [h]
theorem vI {a b : Int} (h : a = b) : Value.int .i64 a = .int .i64 b := by rw [h]

set_option maxRecDepth 100000 in
set_option maxHeartbeats 4000000 in
theorem known_any (w : World) : Calls Try.prog 5 #[] w (RetV w (.bool true)) := by
  have ha0 : At ((w.alloc (.cells #[.int .i64 3, .slice none 0 0] 24)).alloc (.cells #[.int .i64 4, .slice (some ⟨w.heap.size, 0, none⟩) 1 1] 24)) (w.heap.size + 1) (.mk 4 (some ⟨w.heap.size, 0, none⟩) 1 [.mk 3 none 0 []]) := by
    refine ⟨in_one (lies_one (by simp; omega) ((World.cell?_alloc_past _ _ _ (by simp)).trans (cell_at_new rfl rfl)) ((World.cell?_alloc_past _ _ _ (by simp)).trans (cell_at_new rfl rfl))) (in_leaf _ _ _), cell_at_new (by simp) rfl, cell_at_new (by simp) rfl, by simp⟩
  have hb0 : Below w.heap.size w ((w.alloc (.cells #[.int .i64 3, .slice none 0 0] 24)).alloc (.cells #[.int .i64 4, .slice (some ⟨w.heap.size, 0, none⟩) 1 1] 24)) := belAl (belAl (Below.refl _ _))
  have HA := Lib.hid ha0
  have HB := Lib.hid hb0
  clear ha0 hb0
  go_enter Try.func5, Try.ntmps5
  go_wp2_with fail
  refine (cause_any (.mk 1 none 0 []) _ (in_leaf _ _ _)).mono ?_
  rintro e w1 ⟨⟨ck, cA, cc, cl⟩, rfl, hce, hci, hb1⟩
  have hci1 : (Sc.mk ck cA cc cl).In w1.heap.size w1 := Sc.Inp.mono hci fun _ h => h.2
  have hba : Below w1.heap.size w1 (w1.alloc (.cells #[.int .i64 ck, .slice cA cl.length cc] 24)) := allocB _ _
  have hA := (HA.out.later hb1).later hba
  have hC : At (w1.alloc (.cells #[.int .i64 ck, .slice cA cl.length cc] 24)) w1.heap.size (.mk ck cA cc cl) := ⟨hci1.later hba, cell_at_new rfl rfl, cell_at_new rfl rfl, by simp⟩
  have hb : Below w.heap.size w (w1.alloc (.cells #[.int .i64 ck, .slice cA cl.length cc] 24)) := belAl (HB.out.trans (hb1.mono HB.out.size))
  have HCE := Lib.hid hce
  clear hci hci1 hb1 hba hce HA HB
  simp only [val_mk]
  have a0 : (w1.alloc (.cells #[.int .i64 ck, .slice cA cl.length cc] 24)).cell? ⟨w.heap.size + 1, 0, none⟩ = some (.int .i64 4) := hA.c0
  have a1 : (w1.alloc (.cells #[.int .i64 ck, .slice cA cl.length cc] 24)).cell? ⟨w.heap.size + 1, 1, none⟩ = some (.slice (some ⟨w.heap.size, 0, none⟩) 1 1) := hA.c1
  go_wp2_with fail
  refine (callB (vB (b := true) (by rw [er_mk]; simp only [List.map_cons, List.map_nil, er_mk]; decide)) (Is_any (.mk 4 (some ⟨w.heap.size, 0, none⟩) 1 [.mk 3 none 0 []]) _ hA.inn)).mono ?_
  rintro e v0 ⟨rfl, hbj⟩
  replace hA := hA.later hbj
  replace hC := hC.later hbj
  replace hb := hb.trans (hbj.mono hb.size)
  clear hbj a0 a1
  have a0 : v0.cell? ⟨w.heap.size + 1, 0, none⟩ = some (.int .i64 4) := hA.c0
  have a1 : v0.cell? ⟨w.heap.size + 1, 1, none⟩ = some (.slice (some ⟨w.heap.size, 0, none⟩) 1 1) := hA.c1
  try clear q0 q1
  have q0 : v0.cell? ⟨w1.heap.size, 0, none⟩ = some (.int .i64 ck) := hC.c0
  have q1 : v0.cell? ⟨w1.heap.size, 1, none⟩ = some (.slice cA cl.length cc) := hC.c1
  go_wp2_with fail
  refine (callB (vI (b := 2) (by rw [er_mk]; simp only [List.map_cons, List.map_nil, er_mk]; decide)) (Deep_any (.mk 4 (some ⟨w.heap.size, 0, none⟩) 1 [.mk 3 none 0 []]) _ hA.inn)).mono ?_
  rintro e v1 ⟨rfl, hbj⟩
  replace hA := hA.later hbj
  replace hC := hC.later hbj
  replace hb := hb.trans (hbj.mono hb.size)
  clear hbj a0 a1
  have a0 : v1.cell? ⟨w.heap.size + 1, 0, none⟩ = some (.int .i64 4) := hA.c0
  have a1 : v1.cell? ⟨w.heap.size + 1, 1, none⟩ = some (.slice (some ⟨w.heap.size, 0, none⟩) 1 1) := hA.c1
  try clear q0 q1
  have q0 : v1.cell? ⟨w1.heap.size, 0, none⟩ = some (.int .i64 ck) := hC.c0
  have q1 : v1.cell? ⟨w1.heap.size, 1, none⟩ = some (.slice cA cl.length cc) := hC.c1
  go_wp2_with fail
  refine (callB (vB (b := false) (by rw [er_mk, List.map_nil]; decide)) (Is_any (.mk 0 none 0 []) _ (in_leaf _ _ _))).mono ?_
  rintro e v2 ⟨rfl, hbj⟩
  replace hA := hA.later hbj
  replace hC := hC.later hbj
  replace hb := hb.trans (hbj.mono hb.size)
  clear hbj a0 a1
  have a0 : v2.cell? ⟨w.heap.size + 1, 0, none⟩ = some (.int .i64 4) := hA.c0
  have a1 : v2.cell? ⟨w.heap.size + 1, 1, none⟩ = some (.slice (some ⟨w.heap.size, 0, none⟩) 1 1) := hA.c1
  try clear q0 q1
  have q0 : v2.cell? ⟨w1.heap.size, 0, none⟩ = some (.int .i64 ck) := hC.c0
  have q1 : v2.cell? ⟨w1.heap.size, 1, none⟩ = some (.slice cA cl.length cc) := hC.c1
  go_wp2_with fail
  refine (callB (vB (b := false) (by rw [er_mk, List.map_nil]; decide)) (Is_any (.mk 4 none 0 []) _ (in_leaf _ _ _))).mono ?_
  rintro e v3 ⟨rfl, hbj⟩
  replace hA := hA.later hbj
  replace hC := hC.later hbj
  replace hb := hb.trans (hbj.mono hb.size)
  clear hbj a0 a1
  have a0 : v3.cell? ⟨w.heap.size + 1, 0, none⟩ = some (.int .i64 4) := hA.c0
  have a1 : v3.cell? ⟨w.heap.size + 1, 1, none⟩ = some (.slice (some ⟨w.heap.size, 0, none⟩) 1 1) := hA.c1
  try clear q0 q1
  have q0 : v3.cell? ⟨w1.heap.size, 0, none⟩ = some (.int .i64 ck) := hC.c0
  have q1 : v3.cell? ⟨w1.heap.size, 1, none⟩ = some (.slice cA cl.length cc) := hC.c1
  go_wp2_with fail
  refine (callB (vB (b := true) (by simp)) (same_any (.mk 4 (some ⟨w.heap.size, 0, none⟩) 1 [.mk 3 none 0 []]) (.mk 4 (some ⟨w.heap.size, 0, none⟩) 1 [.mk 3 none 0 []]) _ hA.inn hA.inn)).mono ?_
  rintro e v4 ⟨rfl, hbj⟩
  replace hA := hA.later hbj
  replace hC := hC.later hbj
  replace hb := hb.trans (hbj.mono hb.size)
  clear hbj a0 a1
  have a0 : v4.cell? ⟨w.heap.size + 1, 0, none⟩ = some (.int .i64 4) := hA.c0
  have a1 : v4.cell? ⟨w.heap.size + 1, 1, none⟩ = some (.slice (some ⟨w.heap.size, 0, none⟩) 1 1) := hA.c1
  try clear q0 q1
  have q0 : v4.cell? ⟨w1.heap.size, 0, none⟩ = some (.int .i64 ck) := hC.c0
  have q1 : v4.cell? ⟨w1.heap.size, 1, none⟩ = some (.slice cA cl.length cc) := hC.c1
  go_wp2_with fail
  refine (callB (vB (b := false) (by rw [HCE.out, er_mk, er_mk]; simp only [List.map_cons, List.map_nil, er_mk]; decide)) (same_any (.mk 4 (some ⟨w.heap.size, 0, none⟩) 1 [.mk 3 none 0 []]) (.mk ck cA cc cl) _ hA.inn hC.inn)).mono ?_
  rintro e v5 ⟨rfl, hbj⟩
  replace hA := hA.later hbj
  replace hC := hC.later hbj
  replace hb := hb.trans (hbj.mono hb.size)
  clear hbj a0 a1
  have a0 : v5.cell? ⟨w.heap.size + 1, 0, none⟩ = some (.int .i64 4) := hA.c0
  have a1 : v5.cell? ⟨w.heap.size + 1, 1, none⟩ = some (.slice (some ⟨w.heap.size, 0, none⟩) 1 1) := hA.c1
  try clear q0 q1
  have q0 : v5.cell? ⟨w1.heap.size, 0, none⟩ = some (.int .i64 ck) := hC.c0
  have q1 : v5.cell? ⟨w1.heap.size, 1, none⟩ = some (.slice cA cl.length cc) := hC.c1
  go_wp2_with fail
  refine (callB (vI (b := 3) (by rw [HCE.out, er_mk, List.map_nil]; decide)) (Level_any (.mk ck cA cc cl) _ hC.inn)).mono ?_
  rintro e v6 ⟨rfl, hbj⟩
  replace hA := hA.later hbj
  replace hC := hC.later hbj
  replace hb := hb.trans (hbj.mono hb.size)
  clear hbj a0 a1
  have a0 : v6.cell? ⟨w.heap.size + 1, 0, none⟩ = some (.int .i64 4) := hA.c0
  have a1 : v6.cell? ⟨w.heap.size + 1, 1, none⟩ = some (.slice (some ⟨w.heap.size, 0, none⟩) 1 1) := hA.c1
  try clear q0 q1
  have q0 : v6.cell? ⟨w1.heap.size, 0, none⟩ = some (.int .i64 ck) := hC.c0
  have q1 : v6.cell? ⟨w1.heap.size, 1, none⟩ = some (.slice cA cl.length cc) := hC.c1
  go_wp2_with fail
  refine (callB (vI (b := 2) (by rw [er_mk, List.map_nil]; decide)) (Level_any (.mk 6 none 0 []) _ (in_leaf _ _ _))).mono ?_
  rintro e v7 ⟨rfl, hbj⟩
  replace hA := hA.later hbj
  replace hC := hC.later hbj
  replace hb := hb.trans (hbj.mono hb.size)
  clear hbj a0 a1
  have a0 : v7.cell? ⟨w.heap.size + 1, 0, none⟩ = some (.int .i64 4) := hA.c0
  have a1 : v7.cell? ⟨w.heap.size + 1, 1, none⟩ = some (.slice (some ⟨w.heap.size, 0, none⟩) 1 1) := hA.c1
  try clear q0 q1
  have q0 : v7.cell? ⟨w1.heap.size, 0, none⟩ = some (.int .i64 ck) := hC.c0
  have q1 : v7.cell? ⟨w1.heap.size, 1, none⟩ = some (.slice cA cl.length cc) := hC.c1
  go_wp2_with fail
  refine (callB (vI (b := 1) (by rw [er_mk]; simp only [List.map_cons, List.map_nil, er_mk]; decide)) (Level_any (.mk 4 (some ⟨w.heap.size, 0, none⟩) 1 [.mk 3 none 0 []]) _ hA.inn)).mono ?_
  rintro e v8 ⟨rfl, hbj⟩
  replace hA := hA.later hbj
  replace hC := hC.later hbj
  replace hb := hb.trans (hbj.mono hb.size)
  clear hbj a0 a1
  have a0 : v8.cell? ⟨w.heap.size + 1, 0, none⟩ = some (.int .i64 4) := hA.c0
  have a1 : v8.cell? ⟨w.heap.size + 1, 1, none⟩ = some (.slice (some ⟨w.heap.size, 0, none⟩) 1 1) := hA.c1
  try clear q0 q1
  have q0 : v8.cell? ⟨w1.heap.size, 0, none⟩ = some (.int .i64 ck) := hC.c0
  have q1 : v8.cell? ⟨w1.heap.size, 1, none⟩ = some (.slice cA cl.length cc) := hC.c1
  go_wp2_with fail
  refine (callB (vI (b := 0) (by rw [er_mk, List.map_nil]; decide)) (Level_any (.mk 0 none 0 []) _ (in_leaf _ _ _))).mono ?_
  rintro e v9 ⟨rfl, hbj⟩
  replace hA := hA.later hbj
  replace hC := hC.later hbj
  replace hb := hb.trans (hbj.mono hb.size)
  clear hbj a0 a1
  have a0 : v9.cell? ⟨w.heap.size + 1, 0, none⟩ = some (.int .i64 4) := hA.c0
  have a1 : v9.cell? ⟨w.heap.size + 1, 1, none⟩ = some (.slice (some ⟨w.heap.size, 0, none⟩) 1 1) := hA.c1
  try clear q0 q1
  have q0 : v9.cell? ⟨w1.heap.size, 0, none⟩ = some (.int .i64 ck) := hC.c0
  have q1 : v9.cell? ⟨w1.heap.size, 1, none⟩ = some (.slice cA cl.length cc) := hC.c1
  go_wp2_with fail
  go_ret
  exact ⟨rfl, hb⟩
end Go.Proofs.Ytohmgidmfabimaa
