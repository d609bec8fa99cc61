/- What schema.nested gives. No condition but that the schema lies in memory. -/
import Derived.Test.YtohmgidmfabimaaPsg
namespace Go.Proofs.Ytohmgidmfabimaa
open Go.RowKit Go.Shelf

attribute [local go_sem] Oper.semAt_some

set_option maxHeartbeats 400000 in
theorem nested_any (s : Sc) (w : World) : Calls Try.prog 16 #[s.val, .func (.func 17) #[] #[]] w fun e w' =>
    e = .returned (.func (.func 25) #[] #[.pointer (some ⟨w.heap.size, 0, none⟩), .pointer (some ⟨w.heap.size + 1, 0, none⟩)]) ∧
      (w.alloc (.cells #[.int .i64 s.k, s.v1] 24)).alloc (.cells #[.func (.func 17) #[] #[]] 36) = w' := by
  obtain ⟨k0, A, c, l⟩ := s
  simp only [val_mk]
  go_enter Try.func16, Try.ntmps16
  go_wp2_with fail
  go_ret
  exact ⟨rfl, rfl⟩

set_option maxHeartbeats 400000 in
theorem nested_stops (n Bt Bi D : Nat) (s : Sc) (w : World) (hin : s.Inp (fun b => b ≠ D) w) (hD : D < w.heap.size) (hBt : w.cell? ⟨Bt, 0, none⟩ = some (.int .i64 s.k)) (hBt1 : w.cell? ⟨Bt, 1, none⟩ = some s.v1) (hBi : w.cell? ⟨Bi, 0, none⟩ = some (.func (.func 17) #[] #[])) :
    SeqStopsK Fence.wide n Try.prog 25 #[.pointer (some ⟨Bt, 0, none⟩), .pointer (some ⟨Bi, 0, none⟩)] encD (KC D) (fun zs => zs = preS s 1) (fun pre => pre <+: preS s 1) (preS s 1).length w := by
  intro l J Jx W hW hJ hJx hY h0
  have h1 := (hW.cell (p := ⟨Bt, 0, none⟩) (World.block_lt_of_cell? w _ hBt)).trans hBt
  have h2 := (hW.cell (p := ⟨Bt, 1, none⟩) (World.block_lt_of_cell? w _ hBt1)).trans hBt1
  have h3 := (hW.cell (p := ⟨Bi, 0, none⟩) (World.block_lt_of_cell? w _ hBi)).trans hBi
  have hinW : s.Inp (fun b => b ≠ D) W := hin.kc (KC.of_below hW)
  have HD := Lib.hid (descend_in l D (preS s 1).length J Jx (fun pre W1 W2 hj hb => hJ pre W1 W2 none hj ⟨hb.os, hb.tape, hb.output, hb.size, fun k hk _ => hb.block k hk⟩ (fun _ e => by cases e))
    (fun pre x W1 hj hl => yield_any (hY pre x W1 hj hl)) s (n - 1) 1 [] W hinW (Nat.lt_of_lt_of_le hD hW.size) h0 (by simp))
  clear hY hJ hJx hBt hBt1 hBi hin hinW
  obtain ⟨k0, A, c, l0⟩ := s
  simp only [Sc.k, Sc.v1] at h1 h2
  refine callsIn_of_wp Try.func25 rfl trivial ?_ rfl
  simp only [Try.ntmps25, List.size_toArray, List.length_cons, List.length_nil, Nat.reduceAdd, Nat.reduceSub, Array.replicate_succ, Array.replicate_zero, List.push_toArray, List.append_toArray, List.nil_append, List.cons_append]
  gi_wp2_with fail
  refine ⟨trivial, fun h => absurd h (by simp [Fence.wide]), HD.out.mono ?_⟩
  rintro e W5 (⟨rfl, hJ5, hk5⟩ | ⟨rfl, p, hp, hJx5⟩)
  · gi_wp2_with fail
    go_end0
    exact ⟨⟨_, rfl⟩, .inl ⟨_, rfl, hJ5⟩⟩
  · gi_wp2_with fail
    go_end0
    exact ⟨⟨_, rfl⟩, .inr ⟨_, hp, hJx5⟩⟩
end Go.Proofs.Ytohmgidmfabimaa
