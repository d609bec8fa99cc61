/- JoinLastsSaid is proved: at every input the law returns true, and each argument reads afterwards as it read before. No condition. What JoinLasts does: it answers true. No condition but that what is handed in are numbers of their kinds. Two last writers joined: plain mathematics. No condition. -/
import Derived.Test.YtleejffjnknohaaGreatMo24
import Derived.Deep.DeepCutAuto
import Derived.WalkKit
import Derived.ProofKit
import Derived.OpenShut
namespace Go.Proofs.YtleejffjnknohaaGreat.J5
open C3 (cmpI cmpI_lt cmpI_gt cmpI_eq)
open S2 (Tr isT)
open V4 (Va isV)

theorem is_last (n m : Int) (c : UInt8) (hn : 1 ≤ n) : isV (.mk 6 []) (.mk n m [[c]] [] []) = true :=
  isV_last.2 (.inr ⟨n, m, [c], rfl, rfl, .inl (by omega)⟩)
theorem writer_lt (n m n' m' : Int) (c d : UInt8) : writerI (.mk n m [[c]] [] []) (.mk n' m' [[d]] [] []) < 0 ↔ (n < n' ∨ (n = n' ∧ (m < m' ∨ (m = m' ∧ c < d)))) := by
  have hL : cmpL [[c]] [[d]] < 0 ↔ c < d := by
    have hs : ([c] : Str) < [d] ↔ c < d := by
      rw [List.cons_lt_cons_iff]
      constructor
      · rintro (h | ⟨_, h⟩)
        · exact h
        · exact absurd h (List.lt_irrefl _)
      · exact .inl
    rw [cmpL]
    by_cases h0 : cmpS [c] [d] = 0
    · rw [if_pos h0]
      have e : [c] = [d] := cmpS_ok.eq h0
      have e2 : c = d := by simpa using e
      subst e2
      simp [cmpL]
    · rw [if_neg h0, ← hs]
      unfold cmpS
      by_cases h1 : ([c] : Str) < [d]
      · rw [if_pos h1]; simp [h1]
      · rw [if_neg h1]
        split <;> simp [h1]
  show (if cmpI n n' = 0 then (if cmpI m m' = 0 then cmpL [[c]] [[d]] else cmpI m m') else cmpI n n') < 0 ↔ _
  rcases Int.lt_trichotomy n n' with h | h | h
  · rw [cmpI_lt h, if_neg (by decide)]
    exact ⟨fun _ => .inl h, fun _ => by decide⟩
  · subst h
    rw [cmpI_eq, if_pos rfl]
    rcases Int.lt_trichotomy m m' with h2 | h2 | h2
    · rw [cmpI_lt h2, if_neg (by decide)]
      exact ⟨fun _ => .inr ⟨rfl, .inl h2⟩, fun _ => by decide⟩
    · subst h2
      rw [cmpI_eq, if_pos rfl, hL]
      exact ⟨fun h => .inr ⟨rfl, .inr ⟨rfl, h⟩⟩, fun h => by
        rcases h with h | ⟨_, h | ⟨_, h⟩⟩
        · omega
        · omega
        · exact h⟩
    · rw [cmpI_gt h2, if_neg (by decide)]
      exact ⟨fun h => by omega, fun h => by
        rcases h with h | ⟨_, h | ⟨h, _⟩⟩ <;> omega⟩
  · rw [cmpI_gt h, if_neg (by decide)]
    exact ⟨fun h => by omega, fun h => by
      rcases h with h | ⟨h, _⟩ <;> omega⟩

/-- The greater one by p, q. -/
theorem jl_two (n m n' m' : Int) (c d : UInt8) (p q : Int) (hn : 1 ≤ n) (hn' : 1 ≤ n') (h : (n < n' ∨ (n = n' ∧ (m < m' ∨ (m = m' ∧ c < d)))) ↔ p < q) :
    joinF (.mk 6 []) (.mk n m [[c]] [] []) (.mk n' m' [[d]] [] []) = .ok (if p < q then .mk n' m' [[d]] [] [] else .mk n m [[c]] [] []) := by
  refine joinF_ok isT_6 (is_last n m c hn) (is_last n' m' d hn') ?_
  rw [joinE, if_neg (by decide), if_pos rfl]
  unfold lastE
  have hw := (writer_lt n m n' m' c d).trans h
  by_cases hpq : p < q
  · rw [if_pos (hw.2 hpq), if_pos hpq]; rfl
  · rw [if_neg (fun h => hpq (hw.1 h)), if_neg hpq]; rfl
theorem jl_none (n m : Int) (c : UInt8) (hn : 1 ≤ n) : joinF (.mk 6 []) (.mk n m [[c]] [] []) .zero = .ok (.mk n m [[c]] [] []) := by
  refine joinF_ok isT_6 (is_last n m c hn) (isV_last.2 (.inl rfl)) ?_
  rw [joinE, if_neg (by decide), if_pos rfl]
  unfold lastE
  rw [if_neg]
  · rfl
  · show ¬ (if cmpI n 0 = 0 then (if cmpI m 0 = 0 then cmpL [[c]] [] else cmpI m 0) else cmpI n 0) < 0
    rw [cmpI_gt (by omega), if_neg (by decide)]
    decide
end Go.Proofs.YtleejffjnknohaaGreat.J5

namespace Go.Proofs.YtleejffjnknohaaGreat.J5
open Go.RowKit Go.Shelf
open C3 (Tk belAl allocB)
open S2 (Sc Tr isT)
open V4 (Va Vl Ck isV botT Bxd val_mk er_mk scLeaf scLeaf_in mk_inj)

/-- What such a statement leaves: the value res in a box of its own, no error. -/
def VMid (U : World) (res : Va) (s1 s2 : Value) (wx : World) : Prop :=
  ∃ (pb : Nat) (z : Vl), s1 = .pointer (some ⟨pb, 0, none⟩) ∧ s2 = .nilIface ∧ U.heap.size ≤ pb ∧ V4.Bxd wx pb #[.int .u64 z.n, .int .u64 z.m, z.s1, z.c1, z.v1] ∧ z.er = res ∧ z.In wx ∧ Below U.heap.size U wx
theorem blk_bxd {W : World} {b : Nat} {t : TypeId} {cs : Array Value} (h : Blk W b t cs) : V4.Bxd W b cs := ⟨h.lt, fun i v hv => blk_cell h i v hv⟩
theorem vmid_mk {U T : World} {res : Va} {pb : Nat} {z : Vl} {z0 z1 z2 z3 z4 : Value} (hq : Blk T pb 32 #[z0, z1, z2, z3, z4]) (hpb : U.heap.size ≤ pb) (hz : z.Inp (fun b => b < T.heap.size ∧ b ≠ pb) T) (he : z.er = res) (hb : Below U.heap.size U T) :
    VMid U res (.pointer (some ⟨pb, 0, none⟩)) .nilIface (set5 T pb (.int .u64 z.n) (.int .u64 z.m) z.s1 z.c1 z.v1) :=
  ⟨pb, z, rfl, rfl, hpb, blk_bxd (set5_blk hq), he, (hz.keep fun _ hP => set5_low hP.2).mono fun _ hP => Nat.lt_of_lt_of_le hP.1 (Nat.le_of_eq set5_size.symm), set5_bel hb hpb⟩

/-- A last writer's value where it lies. -/
def vlLast (n m : Int) (b : Nat) (c : UInt8) : Vl := .mk n m (some ⟨b, 0, none⟩) 1 [[c]] none 0 [] none 0 []
theorem vlLast_in {W : World} {n m : Int} {b : Nat} {c : UInt8} (hn : 0 ≤ n ∧ n ≤ 1000) (hm : 0 ≤ m ∧ m ≤ 1000) (h : Bxd W b #[.string (S [c])]) : (vlLast n m b c).In W := by
  refine .mk _ _ _ _ _ _ _ _ _ _ _ (by omega) (by omega) (.inr ⟨b, 0, rfl, h.1, fun i u hu => ?_⟩) (by simp [maxLen]) (by simp [maxLen]) (.inl rfl) (by simp) (by simp) (.inl rfl) (by simp) (by simp)
  rw [Nat.zero_add]
  exact h.2 i u (by simpa [V4.cellsS] using hu)

set_option maxRecDepth 100000 in
set_option maxHeartbeats 8000000 in
theorem joinLasts_all (a b m n s t : Int) (ha : 0 ≤ a ∧ a ≤ 255) (hb : 0 ≤ b ∧ b ≤ 255) (hm : 0 ≤ m ∧ m ≤ 255) (hn : 0 ≤ n ∧ n ≤ 255) (hs : 0 ≤ s ∧ s ≤ 255) (ht : 0 ≤ t ∧ t ≤ 255) (w : World) : Calls Tryz.prog 8 #[.int .u8 a, .int .u8 b, .int .u8 m, .int .u8 n, .int .u8 s, .int .u8 t] w (RetV w (.bool true)) := by
  obtain ⟨a3, ea⟩ : ∃ q, a.tmod 3 = q := ⟨_, rfl⟩
  have ha3 : 0 ≤ a3 ∧ a3 ≤ 2 := by rw [← ea, Int.tmod_eq_emod_of_nonneg ha.1]; omega
  obtain ⟨b3, eb⟩ : ∃ q, b.tmod 3 = q := ⟨_, rfl⟩
  have hb3 : 0 ≤ b3 ∧ b3 ≤ 2 := by rw [← eb, Int.tmod_eq_emod_of_nonneg hb.1]; omega
  obtain ⟨m3, em⟩ : ∃ q, m.tmod 3 = q := ⟨_, rfl⟩
  have hm3 : 0 ≤ m3 ∧ m3 ≤ 2 := by rw [← em, Int.tmod_eq_emod_of_nonneg hm.1]; omega
  obtain ⟨n3, en⟩ : ∃ q, n.tmod 3 = q := ⟨_, rfl⟩
  have hn3 : 0 ≤ n3 ∧ n3 ≤ 2 := by rw [← en, Int.tmod_eq_emod_of_nonneg hn.1]; omega
  obtain ⟨s3, es⟩ : ∃ q, s.tmod 3 = q := ⟨_, rfl⟩
  have hs3 : 0 ≤ s3 ∧ s3 ≤ 2 := by rw [← es, Int.tmod_eq_emod_of_nonneg hs.1]; omega
  obtain ⟨t3, et⟩ : ∃ q, t.tmod 3 = q := ⟨_, rfl⟩
  have ht3 : 0 ≤ t3 ∧ t3 ≤ 2 := by rw [← et, Int.tmod_eq_emod_of_nonneg ht.1]; omega
  have K1 : Hid (joinF (.mk 6 []) (.mk (a3 + 1) m3 [[byt (97 + s3)]] [] []) (.mk (b3 + 1) n3 [[byt (97 + t3)]] [] []) = .ok (if a3 * 9 + m3 * 3 + s3 < b3 * 9 + n3 * 3 + t3 then .mk (b3 + 1) n3 [[byt (97 + t3)]] [] [] else .mk (a3 + 1) m3 [[byt (97 + s3)]] [] [])) :=
    jl_two _ _ _ _ _ _ _ _ (by omega) (by omega) (by rw [byt_lt (by omega) (by omega)]; omega)
  have K2 : Hid (joinF (.mk 6 []) (.mk (a3 + 1) m3 [[byt (97 + s3)]] [] []) .zero = .ok (.mk (a3 + 1) m3 [[byt (97 + s3)]] [] [])) := jl_none _ _ _ (by omega)
  obtain ⟨r1, hr1⟩ : ∃ r, (if a3 * 9 + m3 * 3 + s3 < b3 * 9 + n3 * 3 + t3 then Va.mk (b3 + 1) n3 [[byt (97 + t3)]] [] [] else .mk (a3 + 1) m3 [[byt (97 + s3)]] [] []) = r := ⟨_, rfl⟩
  rw [hr1] at K1
  have HR1 := Lib.hid hr1
  clear hr1
  have cv1 := conv_one (97 + s3) (by omega)
  have cv2 := fun w => conv_one (97 + t3) (by omega) w
  obtain ⟨bs, hbs⟩ : ∃ q, byt (97 + s3) = q := ⟨_, rfl⟩
  obtain ⟨bt, hbt⟩ : ∃ q, byt (97 + t3) = q := ⟨_, rfl⟩
  rw [hbs] at cv1 K1 K2 HR1
  rw [hbt] at cv2 K1 HR1
  clear hbs hbt
  go_enter Tryz.func8, Tryz.ntmps8
  go_wp2_with fail
  refine (known_any w).mono ?_
  rintro e W0 ⟨rfl, bW0⟩
  have BW0 : Below w.heap.size w W0 := bW0
  go_upto_region 4 with fail
  obtain ⟨A, hA⟩ : ∃ A, (((W0.alloc (.cells #[.int .u8 (97 + s3)] 5)).alloc (.cells #[.string (S [bs])] 9)).alloc (.cells #[.int .u64 (a3 + 1), .int .u64 m3, .slice (some ⟨W0.heap.size + 1, 0, none⟩) 1 1, .slice none 0 0, .slice none 0 0] 32)) = A := ⟨_, rfl⟩
  have bA : Below W0.heap.size W0 A := by rw [← hA]; exact belAl (belAl (belAl (Below.refl _ _)))
  have Xs : Bxd A (W0.heap.size + 1) #[.string (S [bs])] := by
    rw [← hA]
    have := V4.Bxd.new (W := (W0.alloc (.cells #[.int .u8 (97 + s3)] 5))) (cs := #[.string (S [bs])]) (t := 9)
    rw [World.size_alloc] at this
    exact this.al _
  have Xx : Bxd A (W0.heap.size + 1 + 1) #[.int .u64 (a3 + 1), .int .u64 m3, .slice (some ⟨W0.heap.size + 1, 0, none⟩) 1 1, .slice none 0 0, .slice none 0 0] := by
    rw [← hA]
    have := V4.Bxd.new (W := ((W0.alloc (.cells #[.int .u8 (97 + s3)] 5)).alloc (.cells #[.string (S [bs])] 9))) (cs := #[.int .u64 (a3 + 1), .int .u64 m3, .slice (some ⟨W0.heap.size + 1, 0, none⟩) 1 1, .slice none 0 0, .slice none 0 0]) (t := 32)
    rw [World.size_alloc, World.size_alloc] at this
    exact this
  have BA : Below w.heap.size w A := BW0.trans (bA.mono BW0.size)
  have IX : (vlLast (a3 + 1) m3 (W0.heap.size + 1) bs).In A := vlLast_in (by omega) (by omega) Xs
  clear Xs
  rw [hA]
  clear hA cv1
  go_upto_region 5 with fail
  obtain ⟨W1, hW1⟩ : ∃ W1, (((A.alloc (.cells #[.int .u8 (97 + t3)] 5)).alloc (.cells #[.string (S [bt])] 9)).alloc (.cells #[.int .u64 (b3 + 1), .int .u64 n3, .slice (some ⟨A.heap.size + 1, 0, none⟩) 1 1, .slice none 0 0, .slice none 0 0] 32)) = W1 := ⟨_, rfl⟩
  have bW1 : Below A.heap.size A W1 := by rw [← hW1]; exact belAl (belAl (belAl (Below.refl _ _)))
  have Xt : Bxd W1 (A.heap.size + 1) #[.string (S [bt])] := by
    rw [← hW1]
    have := V4.Bxd.new (W := (A.alloc (.cells #[.int .u8 (97 + t3)] 5))) (cs := #[.string (S [bt])]) (t := 9)
    rw [World.size_alloc] at this
    exact this.al _
  have Xy : Bxd W1 (A.heap.size + 1 + 1) #[.int .u64 (b3 + 1), .int .u64 n3, .slice (some ⟨A.heap.size + 1, 0, none⟩) 1 1, .slice none 0 0, .slice none 0 0] := by
    rw [← hW1]
    have := V4.Bxd.new (W := ((A.alloc (.cells #[.int .u8 (97 + t3)] 5)).alloc (.cells #[.string (S [bt])] 9))) (cs := #[.int .u64 (b3 + 1), .int .u64 n3, .slice (some ⟨A.heap.size + 1, 0, none⟩) 1 1, .slice none 0 0, .slice none 0 0]) (t := 32)
    rw [World.size_alloc, World.size_alloc] at this
    exact this
  replace Xx := Xx.later bW1
  replace IX := IX.later bW1
  have BW1 : Below w.heap.size w W1 := BA.trans (bW1.mono BA.size)
  have IY : (vlLast (b3 + 1) n3 (A.heap.size + 1) bt).In W1 := vlLast_in (by omega) (by omega) Xt
  clear Xt
  rw [hW1]
  clear hW1 cv2
  go_cut [15, 16] (fun s1 s2 wx => Hid (VMid W1 r1 s1 s2 wx))
  case first =>
    have HXI := Lib.hid (And.intro IX IY)
    have HK : Hid (∀ W, Below W1.heap.size W1 W → (fun w' => w'.cell? ⟨W0.heap.size + 1 + 1, 0, none⟩ = some (.int .u64 (a3 + 1)) ∧ w'.cell? ⟨W0.heap.size + 1 + 1, 1, none⟩ = some (.int .u64 m3) ∧ w'.cell? ⟨W0.heap.size + 1 + 1, 2, none⟩ = some (.slice (some ⟨W0.heap.size + 1, 0, none⟩) 1 1) ∧ w'.cell? ⟨W0.heap.size + 1 + 1, 3, none⟩ = some (.slice none 0 0) ∧ w'.cell? ⟨W0.heap.size + 1 + 1, 4, none⟩ = some (.slice none 0 0) ∧ w'.cell? ⟨A.heap.size + 1 + 1, 0, none⟩ = some (.int .u64 (b3 + 1)) ∧ w'.cell? ⟨A.heap.size + 1 + 1, 1, none⟩ = some (.int .u64 n3) ∧ w'.cell? ⟨A.heap.size + 1 + 1, 2, none⟩ = some (.slice (some ⟨A.heap.size + 1, 0, none⟩) 1 1) ∧ w'.cell? ⟨A.heap.size + 1 + 1, 3, none⟩ = some (.slice none 0 0) ∧ w'.cell? ⟨A.heap.size + 1 + 1, 4, none⟩ = some (.slice none 0 0)) W) := fun W hW => ⟨(hW.cell (p := ⟨W0.heap.size + 1 + 1, 0, none⟩) Xx.1).trans (Xx.2 0 _ rfl), (hW.cell (p := ⟨W0.heap.size + 1 + 1, 1, none⟩) Xx.1).trans (Xx.2 1 _ rfl), (hW.cell (p := ⟨W0.heap.size + 1 + 1, 2, none⟩) Xx.1).trans (Xx.2 2 _ rfl), (hW.cell (p := ⟨W0.heap.size + 1 + 1, 3, none⟩) Xx.1).trans (Xx.2 3 _ rfl), (hW.cell (p := ⟨W0.heap.size + 1 + 1, 4, none⟩) Xx.1).trans (Xx.2 4 _ rfl), (hW.cell (p := ⟨A.heap.size + 1 + 1, 0, none⟩) Xy.1).trans (Xy.2 0 _ rfl), (hW.cell (p := ⟨A.heap.size + 1 + 1, 1, none⟩) Xy.1).trans (Xy.2 1 _ rfl), (hW.cell (p := ⟨A.heap.size + 1 + 1, 2, none⟩) Xy.1).trans (Xy.2 2 _ rfl), (hW.cell (p := ⟨A.heap.size + 1 + 1, 3, none⟩) Xy.1).trans (Xy.2 3 _ rfl), (hW.cell (p := ⟨A.heap.size + 1 + 1, 4, none⟩) Xy.1).trans (Xy.2 4 _ rfl)⟩
    refine wp_region_noPanic ?_
    refine wp_region_held_drew (S := (fun w' => w'.cell? ⟨W0.heap.size + 1 + 1, 0, none⟩ = some (.int .u64 (a3 + 1)) ∧ w'.cell? ⟨W0.heap.size + 1 + 1, 1, none⟩ = some (.int .u64 m3) ∧ w'.cell? ⟨W0.heap.size + 1 + 1, 2, none⟩ = some (.slice (some ⟨W0.heap.size + 1, 0, none⟩) 1 1) ∧ w'.cell? ⟨W0.heap.size + 1 + 1, 3, none⟩ = some (.slice none 0 0) ∧ w'.cell? ⟨W0.heap.size + 1 + 1, 4, none⟩ = some (.slice none 0 0) ∧ w'.cell? ⟨A.heap.size + 1 + 1, 0, none⟩ = some (.int .u64 (b3 + 1)) ∧ w'.cell? ⟨A.heap.size + 1 + 1, 1, none⟩ = some (.int .u64 n3) ∧ w'.cell? ⟨A.heap.size + 1 + 1, 2, none⟩ = some (.slice (some ⟨A.heap.size + 1, 0, none⟩) 1 1) ∧ w'.cell? ⟨A.heap.size + 1 + 1, 3, none⟩ = some (.slice none 0 0) ∧ w'.cell? ⟨A.heap.size + 1 + 1, 4, none⟩ = some (.slice none 0 0))) (by kernel_rfl) ?_ (fun hHeld => ?_)
    · exact HK.out _ (Below.refl _ _).drew
    obtain ⟨D, hD⟩ : ∃ D, W1.drew = D := ⟨_, rfl⟩
    rw [hD] at hHeld ⊢
    have HB : Hid (Below W1.heap.size W1 D) := by rw [← hD]; exact (Below.refl _ _).drew
    clear hD
    refine V4.takeH 1 54 (v := ?t1_v) rfl rfl (by kernel_rfl) (by kernel_rfl) (by kernel_rfl) (fun _ _ _ h => h) (Or.inl ⟨by rfl, ?t1_h⟩) (by assumption) ?t1_r
    case t1_h => (intro w hSw; (try dsimp only at hSw); go_simp; try (with_reducible rfl))
    simp only [List.set_cons_zero, List.set_cons_succ]
    refine V4.takeH 2 55 (v := ?t2_v) rfl rfl (by kernel_rfl) (by kernel_rfl) (by kernel_rfl) (fun _ _ _ h => h) (Or.inl ⟨by rfl, ?t2_h⟩) (by assumption) ?t2_r
    case t2_h => (intro w hSw; (try dsimp only at hSw); go_simp; try (with_reducible rfl))
    simp only [List.set_cons_zero, List.set_cons_succ]
    refine wpAnyH_ready (rs := [0, 7]) (by kernel_rfl) (by simp) ?_
    refine AllReadyH.cons rfl (fun K hK => ?n3_a) (AllReadyH.cons rfl (fun K hK => ?n3_b) AllReadyH.nil)
    case n3_a =>
      go_simp
      go_wp2_with (go_at_call 16; refine (of_any 6 none 0 0 _).mono ?_; rintro e Da ⟨rfl, hbn⟩)
      replace HB : Hid (Below W1.heap.size W1 Da) := HB.out.trans (hbn.mono HB.out.size)
      clear hbn
      refine hK.out _ _ ?_ (fun hHeld => ?_)
      · exact HK.out _ HB.out
      clear hK K
      refine wpAnyH_ready (rs := [3, 7]) (by kernel_rfl) (by simp) ?_
      refine AllReadyH.cons rfl (fun K hK => ?n4_a) (AllReadyH.cons rfl (fun K hK => ?n4_b) AllReadyH.nil)
      case n4_a =>
        go_simp
        go_wp2_with (go_at_call 15; refine (Join_any False False.elim (scLeaf 6) (vlLast (a3 + 1) m3 (W0.heap.size + 1) bs) (vlLast (b3 + 1) n3 (A.heap.size + 1) bt) _ (scLeaf_in _ _ _) (HXI.out.1.later HB.out) (HXI.out.2.later HB.out) (fun _ => .inr (noP_leaf (by decide)))).mono ?_; rintro e Dab hr; (obtain ⟨⟨zn, zm, zsA, zsc, zss, zcA, zcc, zcs, zvA, zvc, zvs⟩, rfl, hze, hzi, hbn⟩ := retK_ok hr K1.out; have HZE := Lib.hid hze; simp only [val_mk]; clear hr hze))
        replace HB : Hid (Below W1.heap.size W1 Dab) := HB.out.trans (hbn.mono HB.out.size)
        clear hbn
        refine hK.out _ _ ?_ (fun hHeld => ?_)
        · exact HK.out _ HB.out
        clear hK K
        refine V4.takeH 4 52 (v := ?t5_v) rfl rfl (by kernel_rfl) (by kernel_rfl) (by kernel_rfl) (fun _ _ _ h => h) (Or.inl ⟨by rfl, ?t5_h⟩) (by assumption) ?t5_r
        case t5_h => (intro w hSw; (try dsimp only at hSw); go_simp; try (with_reducible rfl))
        simp only [List.set_cons_zero, List.set_cons_succ]
        refine V4.takeH 5 57 (v := ?t6_v) rfl rfl (by kernel_rfl) (by kernel_rfl) (by kernel_rfl) (fun _ _ _ h => h) (Or.inl ⟨by rfl, ?t6_h⟩) (by assumption) ?t6_r
        case t6_h => (intro w hSw; (try dsimp only at hSw); go_simp; try (with_reducible rfl))
        simp only [List.set_cons_zero, List.set_cons_succ]
        refine V4.takeH 6 58 (v := ?t7_v) rfl rfl (by kernel_rfl) (by kernel_rfl) (by kernel_rfl) (fun _ _ _ h => h) (Or.inl ⟨by rfl, ?t7_h⟩) (by assumption) ?t7_r
        case t7_h => (intro w hSw; (try dsimp only at hSw); go_simp; try (with_reducible rfl))
        simp only [List.set_cons_zero, List.set_cons_succ]
        refine wpAnyH_ready (rs := [7]) (by kernel_rfl) (by simp) ?_
        refine AllReadyH.cons rfl (fun K hK => ?_) AllReadyH.nil
        go_simp
        obtain ⟨Dabp, hDabp⟩ : ∃ Dabp, Dab.alloc (.cells #[.int .u64 0, .int .u64 0, .slice none 0 0, .slice none 0 0, .slice none 0 0] 32) = Dabp := ⟨_, rfl⟩
        rw [hDabp]
        have hbn : Below Dab.heap.size Dab Dabp := by rw [← hDabp]; exact allocB _ _
        have HPB : Hid (Blk Dabp Dab.heap.size 32 #[.int .u64 0, .int .u64 0, .slice none 0 0, .slice none 0 0, .slice none 0 0]) := by rw [← hDabp]; exact Blk.new _ _ _
        have hpb : W1.heap.size ≤ Dab.heap.size := HB.out.size
        replace HB : Hid (Below W1.heap.size W1 Dabp) := HB.out.trans (hbn.mono HB.out.size)
        refine hK.out _ _ ?_ (fun hHeld => ?_)
        · exact HK.out _ HB.out
        clear hK K
        have HZI : Hid ((Vl.mk zn zm zsA zsc zss zcA zcc zcs zvA zvc zvs).Inp (fun b => b < Dabp.heap.size ∧ b ≠ Dab.heap.size) Dabp) := (hzi.keep fun b hP => hbn.block b hP.2).mono fun b hP => ⟨Nat.lt_of_lt_of_le hP.2 hbn.size, Nat.ne_of_lt hP.2⟩
        have qp := HPB.out
        have d0 : Dabp.cell? ⟨Dab.heap.size, 0, none⟩ = some (.int .u64 0) := blk_cell qp 0 _ rfl
        have d1 : Dabp.cell? ⟨Dab.heap.size, 1, none⟩ = some (.int .u64 0) := blk_cell qp 1 _ rfl
        have d2 : Dabp.cell? ⟨Dab.heap.size, 2, none⟩ = some (.slice none 0 0) := blk_cell qp 2 _ rfl
        have d3 : Dabp.cell? ⟨Dab.heap.size, 3, none⟩ = some (.slice none 0 0) := blk_cell qp 3 _ rfl
        have d4 : Dabp.cell? ⟨Dab.heap.size, 4, none⟩ = some (.slice none 0 0) := blk_cell qp 4 _ rfl
        have f0 := blk_frozen qp 0
        have f1 := blk_frozen qp 1
        have f2 := blk_frozen qp 2
        have f3 := blk_frozen qp 3
        have f4 := blk_frozen qp 4
        refine wpAnyH_ready (rs := [8]) (by kernel_rfl) (by simp) ?_
        refine AllReadyH.cons rfl (fun K hK => ?_) AllReadyH.nil
        go_simp
        obtain ⟨Y, hY⟩ : ∃ Y, set5 Dabp (Dab.heap.size) (.int .u64 zn) (.int .u64 zm) (.slice zsA zss.length zsc) (.slice zcA zcs.length zcc) (.slice zvA zvs.length zvc) = Y := ⟨_, rfl⟩
        change K _ (set5 Dabp (Dab.heap.size) (.int .u64 zn) (.int .u64 zm) (.slice zsA zss.length zsc) (.slice zcA zcs.length zcc) (.slice zvA zvs.length zvc))
        rw [hY]
        have HMID : Hid (VMid W1 r1 (.pointer (some ⟨Dab.heap.size, 0, none⟩)) .nilIface Y) := by rw [← hY]; exact vmid_mk (z := .mk zn zm zsA zsc zss zcA zcc zcs zvA zvc zvs) qp hpb HZI.out HZE.out HB.out
        replace HB : Hid (Below W1.heap.size W1 Y) := by rw [← hY]; exact set5_bel HB.out hpb
        refine hK.out _ _ ?_ (fun hHeld => ?_)
        · exact HK.out _ HB.out
        clear hK K
        refine V4.takeH 9 16 (v := ?t8_v) rfl rfl (by kernel_rfl) (by kernel_rfl) (by kernel_rfl) (fun _ _ _ h => h) (Or.inl ⟨by rfl, ?t8_h⟩) (by assumption) ?t8_r
        case t8_h => (intro w hSw; (try dsimp only at hSw); go_simp; try (with_reducible rfl))
        simp only [List.set_cons_zero, List.set_cons_succ]
        refine wpAnyH_done (by kernel_rfl) ?_ _
        refine NoPanic.normal ?_
        go_wp2_with fail
        go_meet
        exact HMID
      case n4_b =>
        go_simp
        obtain ⟨Dap, hDap⟩ : ∃ Dap, Da.alloc (.cells #[.int .u64 0, .int .u64 0, .slice none 0 0, .slice none 0 0, .slice none 0 0] 32) = Dap := ⟨_, rfl⟩
        rw [hDap]
        have hbn : Below Da.heap.size Da Dap := by rw [← hDap]; exact allocB _ _
        have HPB : Hid (Blk Dap Da.heap.size 32 #[.int .u64 0, .int .u64 0, .slice none 0 0, .slice none 0 0, .slice none 0 0]) := by rw [← hDap]; exact Blk.new _ _ _
        have hpb : W1.heap.size ≤ Da.heap.size := HB.out.size
        replace HB : Hid (Below W1.heap.size W1 Dap) := HB.out.trans (hbn.mono HB.out.size)
        clear hbn
        refine hK.out _ _ ?_ (fun hHeld => ?_)
        · exact HK.out _ HB.out
        clear hK K
        refine wpAnyH_ready (rs := [3]) (by kernel_rfl) (by simp) ?_
        refine AllReadyH.cons rfl (fun K hK => ?_) AllReadyH.nil
        go_simp
        have HLT : Hid (Da.heap.size < Dap.heap.size) := HPB.out.lt
        go_wp2_with (go_at_call 15; refine (Join_any False False.elim (scLeaf 6) (vlLast (a3 + 1) m3 (W0.heap.size + 1) bs) (vlLast (b3 + 1) n3 (A.heap.size + 1) bt) _ (scLeaf_in _ _ _) (HXI.out.1.later HB.out) (HXI.out.2.later HB.out) (fun _ => .inr (noP_leaf (by decide)))).mono ?_; rintro e Dapb hr; (obtain ⟨⟨zn, zm, zsA, zsc, zss, zcA, zcc, zcs, zvA, zvc, zvs⟩, rfl, hze, hzi, hbn⟩ := retK_ok hr K1.out; have HZE := Lib.hid hze; simp only [val_mk]; clear hr hze))
        replace HPB := Lib.hid (HPB.out.below hbn)
        have HZI : Hid ((Vl.mk zn zm zsA zsc zss zcA zcc zcs zvA zvc zvs).Inp (fun b => b < Dapb.heap.size ∧ b ≠ Da.heap.size) Dapb) := hzi.mono fun b hP => ⟨hP.2, fun e => by have := hP.1; have := HLT.out; omega⟩
        replace HB : Hid (Below W1.heap.size W1 Dapb) := HB.out.trans (hbn.mono HB.out.size)
        clear hbn
        refine hK.out _ _ ?_ (fun hHeld => ?_)
        · exact HK.out _ HB.out
        clear hK K
        refine V4.takeH 4 52 (v := ?t9_v) rfl rfl (by kernel_rfl) (by kernel_rfl) (by kernel_rfl) (fun _ _ _ h => h) (Or.inl ⟨by rfl, ?t9_h⟩) (by assumption) ?t9_r
        case t9_h => (intro w hSw; (try dsimp only at hSw); go_simp; try (with_reducible rfl))
        simp only [List.set_cons_zero, List.set_cons_succ]
        refine V4.takeH 5 57 (v := ?t10_v) rfl rfl (by kernel_rfl) (by kernel_rfl) (by kernel_rfl) (fun _ _ _ h => h) (Or.inl ⟨by rfl, ?t10_h⟩) (by assumption) ?t10_r
        case t10_h => (intro w hSw; (try dsimp only at hSw); go_simp; try (with_reducible rfl))
        simp only [List.set_cons_zero, List.set_cons_succ]
        refine V4.takeH 6 58 (v := ?t11_v) rfl rfl (by kernel_rfl) (by kernel_rfl) (by kernel_rfl) (fun _ _ _ h => h) (Or.inl ⟨by rfl, ?t11_h⟩) (by assumption) ?t11_r
        case t11_h => (intro w hSw; (try dsimp only at hSw); go_simp; try (with_reducible rfl))
        simp only [List.set_cons_zero, List.set_cons_succ]
        have qp := HPB.out
        have d0 : Dapb.cell? ⟨Da.heap.size, 0, none⟩ = some (.int .u64 0) := blk_cell qp 0 _ rfl
        have d1 : Dapb.cell? ⟨Da.heap.size, 1, none⟩ = some (.int .u64 0) := blk_cell qp 1 _ rfl
        have d2 : Dapb.cell? ⟨Da.heap.size, 2, none⟩ = some (.slice none 0 0) := blk_cell qp 2 _ rfl
        have d3 : Dapb.cell? ⟨Da.heap.size, 3, none⟩ = some (.slice none 0 0) := blk_cell qp 3 _ rfl
        have d4 : Dapb.cell? ⟨Da.heap.size, 4, none⟩ = some (.slice none 0 0) := blk_cell qp 4 _ rfl
        have f0 := blk_frozen qp 0
        have f1 := blk_frozen qp 1
        have f2 := blk_frozen qp 2
        have f3 := blk_frozen qp 3
        have f4 := blk_frozen qp 4
        refine wpAnyH_ready (rs := [8]) (by kernel_rfl) (by simp) ?_
        refine AllReadyH.cons rfl (fun K hK => ?_) AllReadyH.nil
        go_simp
        obtain ⟨Y, hY⟩ : ∃ Y, set5 Dapb (Da.heap.size) (.int .u64 zn) (.int .u64 zm) (.slice zsA zss.length zsc) (.slice zcA zcs.length zcc) (.slice zvA zvs.length zvc) = Y := ⟨_, rfl⟩
        change K _ (set5 Dapb (Da.heap.size) (.int .u64 zn) (.int .u64 zm) (.slice zsA zss.length zsc) (.slice zcA zcs.length zcc) (.slice zvA zvs.length zvc))
        rw [hY]
        have HMID : Hid (VMid W1 r1 (.pointer (some ⟨Da.heap.size, 0, none⟩)) .nilIface Y) := by rw [← hY]; exact vmid_mk (z := .mk zn zm zsA zsc zss zcA zcc zcs zvA zvc zvs) qp hpb HZI.out HZE.out HB.out
        replace HB : Hid (Below W1.heap.size W1 Y) := by rw [← hY]; exact set5_bel HB.out hpb
        refine hK.out _ _ ?_ (fun hHeld => ?_)
        · exact HK.out _ HB.out
        clear hK K
        refine V4.takeH 9 16 (v := ?t12_v) rfl rfl (by kernel_rfl) (by kernel_rfl) (by kernel_rfl) (fun _ _ _ h => h) (Or.inl ⟨by rfl, ?t12_h⟩) (by assumption) ?t12_r
        case t12_h => (intro w hSw; (try dsimp only at hSw); go_simp; try (with_reducible rfl))
        simp only [List.set_cons_zero, List.set_cons_succ]
        refine wpAnyH_done (by kernel_rfl) ?_ _
        refine NoPanic.normal ?_
        go_wp2_with fail
        go_meet
        exact HMID
    case n3_b =>
      go_simp
      obtain ⟨Dp, hDp⟩ : ∃ Dp, D.alloc (.cells #[.int .u64 0, .int .u64 0, .slice none 0 0, .slice none 0 0, .slice none 0 0] 32) = Dp := ⟨_, rfl⟩
      rw [hDp]
      have hbn : Below D.heap.size D Dp := by rw [← hDp]; exact allocB _ _
      have HPB : Hid (Blk Dp D.heap.size 32 #[.int .u64 0, .int .u64 0, .slice none 0 0, .slice none 0 0, .slice none 0 0]) := by rw [← hDp]; exact Blk.new _ _ _
      have hpb : W1.heap.size ≤ D.heap.size := HB.out.size
      replace HB : Hid (Below W1.heap.size W1 Dp) := HB.out.trans (hbn.mono HB.out.size)
      clear hbn
      refine hK.out _ _ ?_ (fun hHeld => ?_)
      · exact HK.out _ HB.out
      clear hK K
      refine wpAnyH_ready (rs := [0]) (by kernel_rfl) (by simp) ?_
      refine AllReadyH.cons rfl (fun K hK => ?_) AllReadyH.nil
      go_simp
      go_wp2_with (go_at_call 16; refine (of_any 6 none 0 0 _).mono ?_; rintro e Dpa ⟨rfl, hbn⟩)
      replace HPB := Lib.hid (HPB.out.below hbn)
      replace HB : Hid (Below W1.heap.size W1 Dpa) := HB.out.trans (hbn.mono HB.out.size)
      clear hbn
      refine hK.out _ _ ?_ (fun hHeld => ?_)
      · exact HK.out _ HB.out
      clear hK K
      refine wpAnyH_ready (rs := [3]) (by kernel_rfl) (by simp) ?_
      refine AllReadyH.cons rfl (fun K hK => ?_) AllReadyH.nil
      go_simp
      have HLT : Hid (D.heap.size < Dpa.heap.size) := HPB.out.lt
      go_wp2_with (go_at_call 15; refine (Join_any False False.elim (scLeaf 6) (vlLast (a3 + 1) m3 (W0.heap.size + 1) bs) (vlLast (b3 + 1) n3 (A.heap.size + 1) bt) _ (scLeaf_in _ _ _) (HXI.out.1.later HB.out) (HXI.out.2.later HB.out) (fun _ => .inr (noP_leaf (by decide)))).mono ?_; rintro e Dpab hr; (obtain ⟨⟨zn, zm, zsA, zsc, zss, zcA, zcc, zcs, zvA, zvc, zvs⟩, rfl, hze, hzi, hbn⟩ := retK_ok hr K1.out; have HZE := Lib.hid hze; simp only [val_mk]; clear hr hze))
      replace HPB := Lib.hid (HPB.out.below hbn)
      have HZI : Hid ((Vl.mk zn zm zsA zsc zss zcA zcc zcs zvA zvc zvs).Inp (fun b => b < Dpab.heap.size ∧ b ≠ D.heap.size) Dpab) := hzi.mono fun b hP => ⟨hP.2, fun e => by have := hP.1; have := HLT.out; omega⟩
      replace HB : Hid (Below W1.heap.size W1 Dpab) := HB.out.trans (hbn.mono HB.out.size)
      clear hbn
      refine hK.out _ _ ?_ (fun hHeld => ?_)
      · exact HK.out _ HB.out
      clear hK K
      refine V4.takeH 4 52 (v := ?t13_v) rfl rfl (by kernel_rfl) (by kernel_rfl) (by kernel_rfl) (fun _ _ _ h => h) (Or.inl ⟨by rfl, ?t13_h⟩) (by assumption) ?t13_r
      case t13_h => (intro w hSw; (try dsimp only at hSw); go_simp; try (with_reducible rfl))
      simp only [List.set_cons_zero, List.set_cons_succ]
      refine V4.takeH 5 57 (v := ?t14_v) rfl rfl (by kernel_rfl) (by kernel_rfl) (by kernel_rfl) (fun _ _ _ h => h) (Or.inl ⟨by rfl, ?t14_h⟩) (by assumption) ?t14_r
      case t14_h => (intro w hSw; (try dsimp only at hSw); go_simp; try (with_reducible rfl))
      simp only [List.set_cons_zero, List.set_cons_succ]
      refine V4.takeH 6 58 (v := ?t15_v) rfl rfl (by kernel_rfl) (by kernel_rfl) (by kernel_rfl) (fun _ _ _ h => h) (Or.inl ⟨by rfl, ?t15_h⟩) (by assumption) ?t15_r
      case t15_h => (intro w hSw; (try dsimp only at hSw); go_simp; try (with_reducible rfl))
      simp only [List.set_cons_zero, List.set_cons_succ]
      have qp := HPB.out
      have d0 : Dpab.cell? ⟨D.heap.size, 0, none⟩ = some (.int .u64 0) := blk_cell qp 0 _ rfl
      have d1 : Dpab.cell? ⟨D.heap.size, 1, none⟩ = some (.int .u64 0) := blk_cell qp 1 _ rfl
      have d2 : Dpab.cell? ⟨D.heap.size, 2, none⟩ = some (.slice none 0 0) := blk_cell qp 2 _ rfl
      have d3 : Dpab.cell? ⟨D.heap.size, 3, none⟩ = some (.slice none 0 0) := blk_cell qp 3 _ rfl
      have d4 : Dpab.cell? ⟨D.heap.size, 4, none⟩ = some (.slice none 0 0) := blk_cell qp 4 _ rfl
      have f0 := blk_frozen qp 0
      have f1 := blk_frozen qp 1
      have f2 := blk_frozen qp 2
      have f3 := blk_frozen qp 3
      have f4 := blk_frozen qp 4
      refine wpAnyH_ready (rs := [8]) (by kernel_rfl) (by simp) ?_
      refine AllReadyH.cons rfl (fun K hK => ?_) AllReadyH.nil
      go_simp
      obtain ⟨Y, hY⟩ : ∃ Y, set5 Dpab (D.heap.size) (.int .u64 zn) (.int .u64 zm) (.slice zsA zss.length zsc) (.slice zcA zcs.length zcc) (.slice zvA zvs.length zvc) = Y := ⟨_, rfl⟩
      change K _ (set5 Dpab (D.heap.size) (.int .u64 zn) (.int .u64 zm) (.slice zsA zss.length zsc) (.slice zcA zcs.length zcc) (.slice zvA zvs.length zvc))
      rw [hY]
      have HMID : Hid (VMid W1 r1 (.pointer (some ⟨D.heap.size, 0, none⟩)) .nilIface Y) := by rw [← hY]; exact vmid_mk (z := .mk zn zm zsA zsc zss zcA zcc zcs zvA zvc zvs) qp hpb HZI.out HZE.out HB.out
      replace HB : Hid (Below W1.heap.size W1 Y) := by rw [← hY]; exact set5_bel HB.out hpb
      refine hK.out _ _ ?_ (fun hHeld => ?_)
      · exact HK.out _ HB.out
      clear hK K
      refine V4.takeH 9 16 (v := ?t16_v) rfl rfl (by kernel_rfl) (by kernel_rfl) (by kernel_rfl) (fun _ _ _ h => h) (Or.inl ⟨by rfl, ?t16_h⟩) (by assumption) ?t16_r
      case t16_h => (intro w hSw; (try dsimp only at hSw); go_simp; try (with_reducible rfl))
      simp only [List.set_cons_zero, List.set_cons_succ]
      refine wpAnyH_done (by kernel_rfl) ?_ _
      refine NoPanic.normal ?_
      go_wp2_with fail
      go_meet
      exact HMID
  obtain ⟨pb1, ⟨un, um, usA, usc, uss, ucA, ucc, ucs, uvA, uvc, uvs⟩, rfl, rfl, _, X15, hue, IU, bW2⟩ := hcut
  simp only [V4.Vl.n, V4.Vl.m, V4.Vl.s1, V4.Vl.c1, V4.Vl.v1] at X15
  have HUE := Lib.hid hue
  obtain ⟨W2, hW2⟩ : ∃ W2, wc = W2 := ⟨_, rfl⟩
  rw [hW2] at X15 IU bW2
  rw [hW2]
  clear hW2 hue
  replace Xx := Xx.later bW2
  replace Xy := Xy.later bW2
  replace IX := IX.later bW2
  replace IY := IY.later bW2
  have BW2 : Below w.heap.size w W2 := BW1.trans (bW2.mono BW1.size)
  go_upto_region 6 with fail
  go_cut [17, 18] (fun s1 s2 wx => Hid (VMid W2 (.mk (a3 + 1) m3 [[bs]] [] []) s1 s2 wx))
  case first =>
    have HXI := Lib.hid (And.intro IX IY)
    have HK : Hid (∀ W, Below W2.heap.size W2 W → (fun w' => w'.cell? ⟨W0.heap.size + 1 + 1, 0, none⟩ = some (.int .u64 (a3 + 1)) ∧ w'.cell? ⟨W0.heap.size + 1 + 1, 1, none⟩ = some (.int .u64 m3) ∧ w'.cell? ⟨W0.heap.size + 1 + 1, 2, none⟩ = some (.slice (some ⟨W0.heap.size + 1, 0, none⟩) 1 1) ∧ w'.cell? ⟨W0.heap.size + 1 + 1, 3, none⟩ = some (.slice none 0 0) ∧ w'.cell? ⟨W0.heap.size + 1 + 1, 4, none⟩ = some (.slice none 0 0)) W) := fun W hW => ⟨(hW.cell (p := ⟨W0.heap.size + 1 + 1, 0, none⟩) Xx.1).trans (Xx.2 0 _ rfl), (hW.cell (p := ⟨W0.heap.size + 1 + 1, 1, none⟩) Xx.1).trans (Xx.2 1 _ rfl), (hW.cell (p := ⟨W0.heap.size + 1 + 1, 2, none⟩) Xx.1).trans (Xx.2 2 _ rfl), (hW.cell (p := ⟨W0.heap.size + 1 + 1, 3, none⟩) Xx.1).trans (Xx.2 3 _ rfl), (hW.cell (p := ⟨W0.heap.size + 1 + 1, 4, none⟩) Xx.1).trans (Xx.2 4 _ rfl)⟩
    refine wp_region_noPanic ?_
    refine wp_region_held_drew (S := (fun w' => w'.cell? ⟨W0.heap.size + 1 + 1, 0, none⟩ = some (.int .u64 (a3 + 1)) ∧ w'.cell? ⟨W0.heap.size + 1 + 1, 1, none⟩ = some (.int .u64 m3) ∧ w'.cell? ⟨W0.heap.size + 1 + 1, 2, none⟩ = some (.slice (some ⟨W0.heap.size + 1, 0, none⟩) 1 1) ∧ w'.cell? ⟨W0.heap.size + 1 + 1, 3, none⟩ = some (.slice none 0 0) ∧ w'.cell? ⟨W0.heap.size + 1 + 1, 4, none⟩ = some (.slice none 0 0))) (by kernel_rfl) ?_ (fun hHeld => ?_)
    · exact HK.out _ (Below.refl _ _).drew
    obtain ⟨D, hD⟩ : ∃ D, W2.drew = D := ⟨_, rfl⟩
    rw [hD] at hHeld ⊢
    have HB : Hid (Below W2.heap.size W2 D) := by rw [← hD]; exact (Below.refl _ _).drew
    clear hD
    refine V4.takeH 1 61 (v := ?t17_v) rfl rfl (by kernel_rfl) (by kernel_rfl) (by kernel_rfl) (fun _ _ _ h => h) (Or.inl ⟨by rfl, ?t17_h⟩) (by assumption) ?t17_r
    case t17_h => (intro w hSw; (try dsimp only at hSw); go_simp; try (with_reducible rfl))
    simp only [List.set_cons_zero, List.set_cons_succ]
    refine V4.takeH 2 62 (v := ?t18_v) rfl rfl (by kernel_rfl) (by kernel_rfl) (by kernel_rfl) (fun _ _ _ h => h) (Or.inl ⟨by rfl, ?t18_h⟩) (by assumption) ?t18_r
    case t18_h => (intro w hSw; (try dsimp only at hSw); go_simp; try (with_reducible rfl))
    simp only [List.set_cons_zero, List.set_cons_succ]
    refine wpAnyH_ready (rs := [0, 7]) (by kernel_rfl) (by simp) ?_
    refine AllReadyH.cons rfl (fun K hK => ?n19_a) (AllReadyH.cons rfl (fun K hK => ?n19_b) AllReadyH.nil)
    case n19_a =>
      go_simp
      go_wp2_with (go_at_call 16; refine (of_any 6 none 0 0 _).mono ?_; rintro e Da ⟨rfl, hbn⟩)
      replace HB : Hid (Below W2.heap.size W2 Da) := HB.out.trans (hbn.mono HB.out.size)
      clear hbn
      refine hK.out _ _ ?_ (fun hHeld => ?_)
      · exact HK.out _ HB.out
      clear hK K
      refine wpAnyH_ready (rs := [3, 7]) (by kernel_rfl) (by simp) ?_
      refine AllReadyH.cons rfl (fun K hK => ?n20_a) (AllReadyH.cons rfl (fun K hK => ?n20_b) AllReadyH.nil)
      case n20_a =>
        go_simp
        go_wp2_with (go_at_call 15; refine (Join_any False False.elim (scLeaf 6) (vlLast (a3 + 1) m3 (W0.heap.size + 1) bs) vlZ _ (scLeaf_in _ _ _) (HXI.out.1.later HB.out) (V4.inp_zero _ _) (fun _ => .inr (noP_leaf (by decide)))).mono ?_; rintro e Dab hr; (obtain ⟨⟨zn, zm, zsA, zsc, zss, zcA, zcc, zcs, zvA, zvc, zvs⟩, rfl, hze, hzi, hbn⟩ := retK_ok hr K2.out; have HZE := Lib.hid hze; simp only [val_mk]; clear hr hze))
        replace HB : Hid (Below W2.heap.size W2 Dab) := HB.out.trans (hbn.mono HB.out.size)
        clear hbn
        refine hK.out _ _ ?_ (fun hHeld => ?_)
        · exact HK.out _ HB.out
        clear hK K
        refine V4.takeH 4 59 (v := ?t21_v) rfl rfl (by kernel_rfl) (by kernel_rfl) (by kernel_rfl) (fun _ _ _ h => h) (Or.inl ⟨by rfl, ?t21_h⟩) (by assumption) ?t21_r
        case t21_h => (intro w hSw; (try dsimp only at hSw); go_simp; try (with_reducible rfl))
        simp only [List.set_cons_zero, List.set_cons_succ]
        refine V4.takeH 5 64 (v := ?t22_v) rfl rfl (by kernel_rfl) (by kernel_rfl) (by kernel_rfl) (fun _ _ _ h => h) (Or.inl ⟨by rfl, ?t22_h⟩) (by assumption) ?t22_r
        case t22_h => (intro w hSw; (try dsimp only at hSw); go_simp; try (with_reducible rfl))
        simp only [List.set_cons_zero, List.set_cons_succ]
        refine V4.takeH 6 65 (v := ?t23_v) rfl rfl (by kernel_rfl) (by kernel_rfl) (by kernel_rfl) (fun _ _ _ h => h) (Or.inl ⟨by rfl, ?t23_h⟩) (by assumption) ?t23_r
        case t23_h => (intro w hSw; (try dsimp only at hSw); go_simp; try (with_reducible rfl))
        simp only [List.set_cons_zero, List.set_cons_succ]
        refine wpAnyH_ready (rs := [7]) (by kernel_rfl) (by simp) ?_
        refine AllReadyH.cons rfl (fun K hK => ?_) AllReadyH.nil
        go_simp
        obtain ⟨Dabp, hDabp⟩ : ∃ Dabp, Dab.alloc (.cells #[.int .u64 0, .int .u64 0, .slice none 0 0, .slice none 0 0, .slice none 0 0] 32) = Dabp := ⟨_, rfl⟩
        rw [hDabp]
        have hbn : Below Dab.heap.size Dab Dabp := by rw [← hDabp]; exact allocB _ _
        have HPB : Hid (Blk Dabp Dab.heap.size 32 #[.int .u64 0, .int .u64 0, .slice none 0 0, .slice none 0 0, .slice none 0 0]) := by rw [← hDabp]; exact Blk.new _ _ _
        have hpb : W2.heap.size ≤ Dab.heap.size := HB.out.size
        replace HB : Hid (Below W2.heap.size W2 Dabp) := HB.out.trans (hbn.mono HB.out.size)
        refine hK.out _ _ ?_ (fun hHeld => ?_)
        · exact HK.out _ HB.out
        clear hK K
        have HZI : Hid ((Vl.mk zn zm zsA zsc zss zcA zcc zcs zvA zvc zvs).Inp (fun b => b < Dabp.heap.size ∧ b ≠ Dab.heap.size) Dabp) := (hzi.keep fun b hP => hbn.block b hP.2).mono fun b hP => ⟨Nat.lt_of_lt_of_le hP.2 hbn.size, Nat.ne_of_lt hP.2⟩
        have qp := HPB.out
        have d0 : Dabp.cell? ⟨Dab.heap.size, 0, none⟩ = some (.int .u64 0) := blk_cell qp 0 _ rfl
        have d1 : Dabp.cell? ⟨Dab.heap.size, 1, none⟩ = some (.int .u64 0) := blk_cell qp 1 _ rfl
        have d2 : Dabp.cell? ⟨Dab.heap.size, 2, none⟩ = some (.slice none 0 0) := blk_cell qp 2 _ rfl
        have d3 : Dabp.cell? ⟨Dab.heap.size, 3, none⟩ = some (.slice none 0 0) := blk_cell qp 3 _ rfl
        have d4 : Dabp.cell? ⟨Dab.heap.size, 4, none⟩ = some (.slice none 0 0) := blk_cell qp 4 _ rfl
        have f0 := blk_frozen qp 0
        have f1 := blk_frozen qp 1
        have f2 := blk_frozen qp 2
        have f3 := blk_frozen qp 3
        have f4 := blk_frozen qp 4
        refine wpAnyH_ready (rs := [8]) (by kernel_rfl) (by simp) ?_
        refine AllReadyH.cons rfl (fun K hK => ?_) AllReadyH.nil
        go_simp
        obtain ⟨Y, hY⟩ : ∃ Y, set5 Dabp (Dab.heap.size) (.int .u64 zn) (.int .u64 zm) (.slice zsA zss.length zsc) (.slice zcA zcs.length zcc) (.slice zvA zvs.length zvc) = Y := ⟨_, rfl⟩
        change K _ (set5 Dabp (Dab.heap.size) (.int .u64 zn) (.int .u64 zm) (.slice zsA zss.length zsc) (.slice zcA zcs.length zcc) (.slice zvA zvs.length zvc))
        rw [hY]
        have HMID : Hid (VMid W2 (.mk (a3 + 1) m3 [[bs]] [] []) (.pointer (some ⟨Dab.heap.size, 0, none⟩)) .nilIface Y) := by rw [← hY]; exact vmid_mk (z := .mk zn zm zsA zsc zss zcA zcc zcs zvA zvc zvs) qp hpb HZI.out HZE.out HB.out
        replace HB : Hid (Below W2.heap.size W2 Y) := by rw [← hY]; exact set5_bel HB.out hpb
        refine hK.out _ _ ?_ (fun hHeld => ?_)
        · exact HK.out _ HB.out
        clear hK K
        refine V4.takeH 9 18 (v := ?t24_v) rfl rfl (by kernel_rfl) (by kernel_rfl) (by kernel_rfl) (fun _ _ _ h => h) (Or.inl ⟨by rfl, ?t24_h⟩) (by assumption) ?t24_r
        case t24_h => (intro w hSw; (try dsimp only at hSw); go_simp; try (with_reducible rfl))
        simp only [List.set_cons_zero, List.set_cons_succ]
        refine wpAnyH_done (by kernel_rfl) ?_ _
        refine NoPanic.normal ?_
        go_wp2_with fail
        go_meet
        exact HMID
      case n20_b =>
        go_simp
        obtain ⟨Dap, hDap⟩ : ∃ Dap, Da.alloc (.cells #[.int .u64 0, .int .u64 0, .slice none 0 0, .slice none 0 0, .slice none 0 0] 32) = Dap := ⟨_, rfl⟩
        rw [hDap]
        have hbn : Below Da.heap.size Da Dap := by rw [← hDap]; exact allocB _ _
        have HPB : Hid (Blk Dap Da.heap.size 32 #[.int .u64 0, .int .u64 0, .slice none 0 0, .slice none 0 0, .slice none 0 0]) := by rw [← hDap]; exact Blk.new _ _ _
        have hpb : W2.heap.size ≤ Da.heap.size := HB.out.size
        replace HB : Hid (Below W2.heap.size W2 Dap) := HB.out.trans (hbn.mono HB.out.size)
        clear hbn
        refine hK.out _ _ ?_ (fun hHeld => ?_)
        · exact HK.out _ HB.out
        clear hK K
        refine wpAnyH_ready (rs := [3]) (by kernel_rfl) (by simp) ?_
        refine AllReadyH.cons rfl (fun K hK => ?_) AllReadyH.nil
        go_simp
        have HLT : Hid (Da.heap.size < Dap.heap.size) := HPB.out.lt
        go_wp2_with (go_at_call 15; refine (Join_any False False.elim (scLeaf 6) (vlLast (a3 + 1) m3 (W0.heap.size + 1) bs) vlZ _ (scLeaf_in _ _ _) (HXI.out.1.later HB.out) (V4.inp_zero _ _) (fun _ => .inr (noP_leaf (by decide)))).mono ?_; rintro e Dapb hr; (obtain ⟨⟨zn, zm, zsA, zsc, zss, zcA, zcc, zcs, zvA, zvc, zvs⟩, rfl, hze, hzi, hbn⟩ := retK_ok hr K2.out; have HZE := Lib.hid hze; simp only [val_mk]; clear hr hze))
        replace HPB := Lib.hid (HPB.out.below hbn)
        have HZI : Hid ((Vl.mk zn zm zsA zsc zss zcA zcc zcs zvA zvc zvs).Inp (fun b => b < Dapb.heap.size ∧ b ≠ Da.heap.size) Dapb) := hzi.mono fun b hP => ⟨hP.2, fun e => by have := hP.1; have := HLT.out; omega⟩
        replace HB : Hid (Below W2.heap.size W2 Dapb) := HB.out.trans (hbn.mono HB.out.size)
        clear hbn
        refine hK.out _ _ ?_ (fun hHeld => ?_)
        · exact HK.out _ HB.out
        clear hK K
        refine V4.takeH 4 59 (v := ?t25_v) rfl rfl (by kernel_rfl) (by kernel_rfl) (by kernel_rfl) (fun _ _ _ h => h) (Or.inl ⟨by rfl, ?t25_h⟩) (by assumption) ?t25_r
        case t25_h => (intro w hSw; (try dsimp only at hSw); go_simp; try (with_reducible rfl))
        simp only [List.set_cons_zero, List.set_cons_succ]
        refine V4.takeH 5 64 (v := ?t26_v) rfl rfl (by kernel_rfl) (by kernel_rfl) (by kernel_rfl) (fun _ _ _ h => h) (Or.inl ⟨by rfl, ?t26_h⟩) (by assumption) ?t26_r
        case t26_h => (intro w hSw; (try dsimp only at hSw); go_simp; try (with_reducible rfl))
        simp only [List.set_cons_zero, List.set_cons_succ]
        refine V4.takeH 6 65 (v := ?t27_v) rfl rfl (by kernel_rfl) (by kernel_rfl) (by kernel_rfl) (fun _ _ _ h => h) (Or.inl ⟨by rfl, ?t27_h⟩) (by assumption) ?t27_r
        case t27_h => (intro w hSw; (try dsimp only at hSw); go_simp; try (with_reducible rfl))
        simp only [List.set_cons_zero, List.set_cons_succ]
        have qp := HPB.out
        have d0 : Dapb.cell? ⟨Da.heap.size, 0, none⟩ = some (.int .u64 0) := blk_cell qp 0 _ rfl
        have d1 : Dapb.cell? ⟨Da.heap.size, 1, none⟩ = some (.int .u64 0) := blk_cell qp 1 _ rfl
        have d2 : Dapb.cell? ⟨Da.heap.size, 2, none⟩ = some (.slice none 0 0) := blk_cell qp 2 _ rfl
        have d3 : Dapb.cell? ⟨Da.heap.size, 3, none⟩ = some (.slice none 0 0) := blk_cell qp 3 _ rfl
        have d4 : Dapb.cell? ⟨Da.heap.size, 4, none⟩ = some (.slice none 0 0) := blk_cell qp 4 _ rfl
        have f0 := blk_frozen qp 0
        have f1 := blk_frozen qp 1
        have f2 := blk_frozen qp 2
        have f3 := blk_frozen qp 3
        have f4 := blk_frozen qp 4
        refine wpAnyH_ready (rs := [8]) (by kernel_rfl) (by simp) ?_
        refine AllReadyH.cons rfl (fun K hK => ?_) AllReadyH.nil
        go_simp
        obtain ⟨Y, hY⟩ : ∃ Y, set5 Dapb (Da.heap.size) (.int .u64 zn) (.int .u64 zm) (.slice zsA zss.length zsc) (.slice zcA zcs.length zcc) (.slice zvA zvs.length zvc) = Y := ⟨_, rfl⟩
        change K _ (set5 Dapb (Da.heap.size) (.int .u64 zn) (.int .u64 zm) (.slice zsA zss.length zsc) (.slice zcA zcs.length zcc) (.slice zvA zvs.length zvc))
        rw [hY]
        have HMID : Hid (VMid W2 (.mk (a3 + 1) m3 [[bs]] [] []) (.pointer (some ⟨Da.heap.size, 0, none⟩)) .nilIface Y) := by rw [← hY]; exact vmid_mk (z := .mk zn zm zsA zsc zss zcA zcc zcs zvA zvc zvs) qp hpb HZI.out HZE.out HB.out
        replace HB : Hid (Below W2.heap.size W2 Y) := by rw [← hY]; exact set5_bel HB.out hpb
        refine hK.out _ _ ?_ (fun hHeld => ?_)
        · exact HK.out _ HB.out
        clear hK K
        refine V4.takeH 9 18 (v := ?t28_v) rfl rfl (by kernel_rfl) (by kernel_rfl) (by kernel_rfl) (fun _ _ _ h => h) (Or.inl ⟨by rfl, ?t28_h⟩) (by assumption) ?t28_r
        case t28_h => (intro w hSw; (try dsimp only at hSw); go_simp; try (with_reducible rfl))
        simp only [List.set_cons_zero, List.set_cons_succ]
        refine wpAnyH_done (by kernel_rfl) ?_ _
        refine NoPanic.normal ?_
        go_wp2_with fail
        go_meet
        exact HMID
    case n19_b =>
      go_simp
      obtain ⟨Dp, hDp⟩ : ∃ Dp, D.alloc (.cells #[.int .u64 0, .int .u64 0, .slice none 0 0, .slice none 0 0, .slice none 0 0] 32) = Dp := ⟨_, rfl⟩
      rw [hDp]
      have hbn : Below D.heap.size D Dp := by rw [← hDp]; exact allocB _ _
      have HPB : Hid (Blk Dp D.heap.size 32 #[.int .u64 0, .int .u64 0, .slice none 0 0, .slice none 0 0, .slice none 0 0]) := by rw [← hDp]; exact Blk.new _ _ _
      have hpb : W2.heap.size ≤ D.heap.size := HB.out.size
      replace HB : Hid (Below W2.heap.size W2 Dp) := HB.out.trans (hbn.mono HB.out.size)
      clear hbn
      refine hK.out _ _ ?_ (fun hHeld => ?_)
      · exact HK.out _ HB.out
      clear hK K
      refine wpAnyH_ready (rs := [0]) (by kernel_rfl) (by simp) ?_
      refine AllReadyH.cons rfl (fun K hK => ?_) AllReadyH.nil
      go_simp
      go_wp2_with (go_at_call 16; refine (of_any 6 none 0 0 _).mono ?_; rintro e Dpa ⟨rfl, hbn⟩)
      replace HPB := Lib.hid (HPB.out.below hbn)
      replace HB : Hid (Below W2.heap.size W2 Dpa) := HB.out.trans (hbn.mono HB.out.size)
      clear hbn
      refine hK.out _ _ ?_ (fun hHeld => ?_)
      · exact HK.out _ HB.out
      clear hK K
      refine wpAnyH_ready (rs := [3]) (by kernel_rfl) (by simp) ?_
      refine AllReadyH.cons rfl (fun K hK => ?_) AllReadyH.nil
      go_simp
      have HLT : Hid (D.heap.size < Dpa.heap.size) := HPB.out.lt
      go_wp2_with (go_at_call 15; refine (Join_any False False.elim (scLeaf 6) (vlLast (a3 + 1) m3 (W0.heap.size + 1) bs) vlZ _ (scLeaf_in _ _ _) (HXI.out.1.later HB.out) (V4.inp_zero _ _) (fun _ => .inr (noP_leaf (by decide)))).mono ?_; rintro e Dpab hr; (obtain ⟨⟨zn, zm, zsA, zsc, zss, zcA, zcc, zcs, zvA, zvc, zvs⟩, rfl, hze, hzi, hbn⟩ := retK_ok hr K2.out; have HZE := Lib.hid hze; simp only [val_mk]; clear hr hze))
      replace HPB := Lib.hid (HPB.out.below hbn)
      have HZI : Hid ((Vl.mk zn zm zsA zsc zss zcA zcc zcs zvA zvc zvs).Inp (fun b => b < Dpab.heap.size ∧ b ≠ D.heap.size) Dpab) := hzi.mono fun b hP => ⟨hP.2, fun e => by have := hP.1; have := HLT.out; omega⟩
      replace HB : Hid (Below W2.heap.size W2 Dpab) := HB.out.trans (hbn.mono HB.out.size)
      clear hbn
      refine hK.out _ _ ?_ (fun hHeld => ?_)
      · exact HK.out _ HB.out
      clear hK K
      refine V4.takeH 4 59 (v := ?t29_v) rfl rfl (by kernel_rfl) (by kernel_rfl) (by kernel_rfl) (fun _ _ _ h => h) (Or.inl ⟨by rfl, ?t29_h⟩) (by assumption) ?t29_r
      case t29_h => (intro w hSw; (try dsimp only at hSw); go_simp; try (with_reducible rfl))
      simp only [List.set_cons_zero, List.set_cons_succ]
      refine V4.takeH 5 64 (v := ?t30_v) rfl rfl (by kernel_rfl) (by kernel_rfl) (by kernel_rfl) (fun _ _ _ h => h) (Or.inl ⟨by rfl, ?t30_h⟩) (by assumption) ?t30_r
      case t30_h => (intro w hSw; (try dsimp only at hSw); go_simp; try (with_reducible rfl))
      simp only [List.set_cons_zero, List.set_cons_succ]
      refine V4.takeH 6 65 (v := ?t31_v) rfl rfl (by kernel_rfl) (by kernel_rfl) (by kernel_rfl) (fun _ _ _ h => h) (Or.inl ⟨by rfl, ?t31_h⟩) (by assumption) ?t31_r
      case t31_h => (intro w hSw; (try dsimp only at hSw); go_simp; try (with_reducible rfl))
      simp only [List.set_cons_zero, List.set_cons_succ]
      have qp := HPB.out
      have d0 : Dpab.cell? ⟨D.heap.size, 0, none⟩ = some (.int .u64 0) := blk_cell qp 0 _ rfl
      have d1 : Dpab.cell? ⟨D.heap.size, 1, none⟩ = some (.int .u64 0) := blk_cell qp 1 _ rfl
      have d2 : Dpab.cell? ⟨D.heap.size, 2, none⟩ = some (.slice none 0 0) := blk_cell qp 2 _ rfl
      have d3 : Dpab.cell? ⟨D.heap.size, 3, none⟩ = some (.slice none 0 0) := blk_cell qp 3 _ rfl
      have d4 : Dpab.cell? ⟨D.heap.size, 4, none⟩ = some (.slice none 0 0) := blk_cell qp 4 _ rfl
      have f0 := blk_frozen qp 0
      have f1 := blk_frozen qp 1
      have f2 := blk_frozen qp 2
      have f3 := blk_frozen qp 3
      have f4 := blk_frozen qp 4
      refine wpAnyH_ready (rs := [8]) (by kernel_rfl) (by simp) ?_
      refine AllReadyH.cons rfl (fun K hK => ?_) AllReadyH.nil
      go_simp
      obtain ⟨Y, hY⟩ : ∃ Y, set5 Dpab (D.heap.size) (.int .u64 zn) (.int .u64 zm) (.slice zsA zss.length zsc) (.slice zcA zcs.length zcc) (.slice zvA zvs.length zvc) = Y := ⟨_, rfl⟩
      change K _ (set5 Dpab (D.heap.size) (.int .u64 zn) (.int .u64 zm) (.slice zsA zss.length zsc) (.slice zcA zcs.length zcc) (.slice zvA zvs.length zvc))
      rw [hY]
      have HMID : Hid (VMid W2 (.mk (a3 + 1) m3 [[bs]] [] []) (.pointer (some ⟨D.heap.size, 0, none⟩)) .nilIface Y) := by rw [← hY]; exact vmid_mk (z := .mk zn zm zsA zsc zss zcA zcc zcs zvA zvc zvs) qp hpb HZI.out HZE.out HB.out
      replace HB : Hid (Below W2.heap.size W2 Y) := by rw [← hY]; exact set5_bel HB.out hpb
      refine hK.out _ _ ?_ (fun hHeld => ?_)
      · exact HK.out _ HB.out
      clear hK K
      refine V4.takeH 9 18 (v := ?t32_v) rfl rfl (by kernel_rfl) (by kernel_rfl) (by kernel_rfl) (fun _ _ _ h => h) (Or.inl ⟨by rfl, ?t32_h⟩) (by assumption) ?t32_r
      case t32_h => (intro w hSw; (try dsimp only at hSw); go_simp; try (with_reducible rfl))
      simp only [List.set_cons_zero, List.set_cons_succ]
      refine wpAnyH_done (by kernel_rfl) ?_ _
      refine NoPanic.normal ?_
      go_wp2_with fail
      go_meet
      exact HMID
  obtain ⟨pb2, ⟨qn, qm, qsA, qsc, qss, qcA, qcc, qcs, qvA, qvc, qvs⟩, rfl, rfl, _, X17, hqe, IQ, bW3⟩ := hcut
  simp only [V4.Vl.n, V4.Vl.m, V4.Vl.s1, V4.Vl.c1, V4.Vl.v1] at X17
  have HQE := Lib.hid hqe
  obtain ⟨W3, hW3⟩ : ∃ W3, wc = W3 := ⟨_, rfl⟩
  rw [hW3] at X17 IQ bW3
  rw [hW3]
  clear hW3 hqe
  replace Xx := Xx.later bW3
  replace Xy := Xy.later bW3
  replace X15 := X15.later bW3
  replace IX := IX.later bW3
  replace IY := IY.later bW3
  replace IU := IU.later bW3
  have BW3 : Below w.heap.size w W3 := BW2.trans (bW3.mono BW2.size)
  have EX : (vlLast (a3 + 1) m3 (W0.heap.size + 1) bs).er = .mk (a3 + 1) m3 [[bs]] [] [] := by unfold vlLast; rw [er_mk]; rfl
  have EY : (vlLast (b3 + 1) n3 (A.heap.size + 1) bt).er = .mk (b3 + 1) n3 [[bt]] [] [] := by unfold vlLast; rw [er_mk]; rfl
  have HQX : Hid (decide ((Vl.mk qn qm qsA qsc qss qcA qcc qcs qvA qvc qvs).er = (vlLast (a3 + 1) m3 (W0.heap.size + 1) bs).er) = true) := decide_eq_true (HQE.out.trans EX.symm)
  clear HQE K1 K2
  by_cases h : a3 * 9 + m3 * 3 + s3 < b3 * 9 + n3 * 3 + t3
  · skip
    have HUX : Hid (decide ((Vl.mk un um usA usc uss ucA ucc ucs uvA uvc uvs).er = (vlLast (b3 + 1) n3 (A.heap.size + 1) bt).er) = true) := decide_eq_true (HUE.out.trans (HR1.out.symm.trans ((if_pos h).trans EY.symm)))
    have g : decide (a3 * 9 + m3 * 3 + s3 < b3 * 9 + n3 * 3 + t3) = true := decide_eq_true h
    clear h EX EY HUE HR1
    have l0 : W3.cell? ⟨W0.heap.size + 1 + 1, 0, none⟩ = some (.int .u64 (a3 + 1)) := Xx.2 0 _ rfl
    have l1 : W3.cell? ⟨W0.heap.size + 1 + 1, 1, none⟩ = some (.int .u64 m3) := Xx.2 1 _ rfl
    have l2 : W3.cell? ⟨W0.heap.size + 1 + 1, 2, none⟩ = some (.slice (some ⟨W0.heap.size + 1, 0, none⟩) 1 1) := Xx.2 2 _ rfl
    have l3 : W3.cell? ⟨W0.heap.size + 1 + 1, 3, none⟩ = some (.slice none 0 0) := Xx.2 3 _ rfl
    have l4 : W3.cell? ⟨W0.heap.size + 1 + 1, 4, none⟩ = some (.slice none 0 0) := Xx.2 4 _ rfl
    have ly0 : (W3.alloc (.cells #[.int .u64 (a3 + 1), .int .u64 m3, .slice (some ⟨W0.heap.size + 1, 0, none⟩) 1 1, .slice none 0 0, .slice none 0 0] 32)).cell? ⟨A.heap.size + 1 + 1, 0, none⟩ = some (.int .u64 (b3 + 1)) := (Xy.al _).2 0 _ rfl
    have ly1 : (W3.alloc (.cells #[.int .u64 (a3 + 1), .int .u64 m3, .slice (some ⟨W0.heap.size + 1, 0, none⟩) 1 1, .slice none 0 0, .slice none 0 0] 32)).cell? ⟨A.heap.size + 1 + 1, 1, none⟩ = some (.int .u64 n3) := (Xy.al _).2 1 _ rfl
    have ly2 : (W3.alloc (.cells #[.int .u64 (a3 + 1), .int .u64 m3, .slice (some ⟨W0.heap.size + 1, 0, none⟩) 1 1, .slice none 0 0, .slice none 0 0] 32)).cell? ⟨A.heap.size + 1 + 1, 2, none⟩ = some (.slice (some ⟨A.heap.size + 1, 0, none⟩) 1 1) := (Xy.al _).2 2 _ rfl
    have ly3 : (W3.alloc (.cells #[.int .u64 (a3 + 1), .int .u64 m3, .slice (some ⟨W0.heap.size + 1, 0, none⟩) 1 1, .slice none 0 0, .slice none 0 0] 32)).cell? ⟨A.heap.size + 1 + 1, 3, none⟩ = some (.slice none 0 0) := (Xy.al _).2 3 _ rfl
    have ly4 : (W3.alloc (.cells #[.int .u64 (a3 + 1), .int .u64 m3, .slice (some ⟨W0.heap.size + 1, 0, none⟩) 1 1, .slice none 0 0, .slice none 0 0] 32)).cell? ⟨A.heap.size + 1 + 1, 4, none⟩ = some (.slice none 0 0) := (Xy.al _).2 4 _ rfl
    go_upto_region 12 with fail
    clear g
    clear l0 l1 l2 l3 l4
    clear ly0 ly1 ly2 ly3 ly4
    obtain ⟨W4, hW4⟩ : ∃ W4, (W3.alloc (.cells #[.int .u64 (b3 + 1), .int .u64 n3, .slice (some ⟨A.heap.size + 1, 0, none⟩) 1 1, .slice none 0 0, .slice none 0 0] 32)) = W4 := ⟨_, rfl⟩
    have bW4 : Below W3.heap.size W3 W4 := by rw [← hW4]; exact belAl (Below.refl _ _)
    have Xw : Bxd W4 (W3.heap.size) #[.int .u64 (b3 + 1), .int .u64 n3, .slice (some ⟨A.heap.size + 1, 0, none⟩) 1 1, .slice none 0 0, .slice none 0 0] := by
      rw [← hW4]
      have := V4.Bxd.new (W := W3) (cs := #[.int .u64 (b3 + 1), .int .u64 n3, .slice (some ⟨A.heap.size + 1, 0, none⟩) 1 1, .slice none 0 0, .slice none 0 0]) (t := 32)
      exact this
    replace Xx := Xx.later bW4
    replace Xy := Xy.later bW4
    replace X15 := X15.later bW4
    replace X17 := X17.later bW4
    replace IX := IX.later bW4
    replace IY := IY.later bW4
    replace IU := IU.later bW4
    replace IQ := IQ.later bW4
    have BW4 : Below w.heap.size w W4 := BW3.trans (bW4.mono BW3.size)
    rw [hW4]
    clear hW4
    have l5 : W4.cell? ⟨pb1, 0, none⟩ = some (.int .u64 un) := X15.2 0 _ rfl
    have l6 : W4.cell? ⟨pb1, 1, none⟩ = some (.int .u64 um) := X15.2 1 _ rfl
    have l7 : W4.cell? ⟨pb1, 2, none⟩ = some (.slice usA uss.length usc) := X15.2 2 _ rfl
    have l8 : W4.cell? ⟨pb1, 3, none⟩ = some (.slice ucA ucs.length ucc) := X15.2 3 _ rfl
    have l9 : W4.cell? ⟨pb1, 4, none⟩ = some (.slice uvA uvs.length uvc) := X15.2 4 _ rfl
    have l10 : W4.cell? ⟨W3.heap.size, 0, none⟩ = some (.int .u64 (b3 + 1)) := Xw.2 0 _ rfl
    have l11 : W4.cell? ⟨W3.heap.size, 1, none⟩ = some (.int .u64 n3) := Xw.2 1 _ rfl
    have l12 : W4.cell? ⟨W3.heap.size, 2, none⟩ = some (.slice (some ⟨A.heap.size + 1, 0, none⟩) 1 1) := Xw.2 2 _ rfl
    have l13 : W4.cell? ⟨W3.heap.size, 3, none⟩ = some (.slice none 0 0) := Xw.2 3 _ rfl
    have l14 : W4.cell? ⟨W3.heap.size, 4, none⟩ = some (.slice none 0 0) := Xw.2 4 _ rfl
    have HWT := Lib.hid (V4.refSameV_any (Vl.mk un um usA usc uss ucA ucc ucs uvA uvc uvs) (vlLast (b3 + 1) n3 (A.heap.size + 1) bt) W4 IU IY)
    rw [HUX.out] at HWT
    go_wp2_with fail
    refine HWT.out.mono ?_
    rintro e W5 ⟨rfl, bW5⟩
    clear HWT HUX
    clear l5 l6 l7 l8 l9 l10 l11 l12 l13 l14
    replace Xx := Xx.later bW5
    replace Xy := Xy.later bW5
    replace X15 := X15.later bW5
    replace X17 := X17.later bW5
    replace Xw := Xw.later bW5
    replace IX := IX.later bW5
    replace IY := IY.later bW5
    replace IU := IU.later bW5
    replace IQ := IQ.later bW5
    have BW5 : Below w.heap.size w W5 := BW4.trans (bW5.mono BW4.size)
    have l15 : W5.cell? ⟨pb2, 0, none⟩ = some (.int .u64 qn) := X17.2 0 _ rfl
    have l16 : W5.cell? ⟨pb2, 1, none⟩ = some (.int .u64 qm) := X17.2 1 _ rfl
    have l17 : W5.cell? ⟨pb2, 2, none⟩ = some (.slice qsA qss.length qsc) := X17.2 2 _ rfl
    have l18 : W5.cell? ⟨pb2, 3, none⟩ = some (.slice qcA qcs.length qcc) := X17.2 3 _ rfl
    have l19 : W5.cell? ⟨pb2, 4, none⟩ = some (.slice qvA qvs.length qvc) := X17.2 4 _ rfl
    have l20 : W5.cell? ⟨W0.heap.size + 1 + 1, 0, none⟩ = some (.int .u64 (a3 + 1)) := Xx.2 0 _ rfl
    have l21 : W5.cell? ⟨W0.heap.size + 1 + 1, 1, none⟩ = some (.int .u64 m3) := Xx.2 1 _ rfl
    have l22 : W5.cell? ⟨W0.heap.size + 1 + 1, 2, none⟩ = some (.slice (some ⟨W0.heap.size + 1, 0, none⟩) 1 1) := Xx.2 2 _ rfl
    have l23 : W5.cell? ⟨W0.heap.size + 1 + 1, 3, none⟩ = some (.slice none 0 0) := Xx.2 3 _ rfl
    have l24 : W5.cell? ⟨W0.heap.size + 1 + 1, 4, none⟩ = some (.slice none 0 0) := Xx.2 4 _ rfl
    have HWT := Lib.hid (V4.refSameV_any (Vl.mk qn qm qsA qsc qss qcA qcc qcs qvA qvc qvs) (vlLast (a3 + 1) m3 (W0.heap.size + 1) bs) W5 IQ IX)
    rw [HQX.out] at HWT
    go_wp2_with fail
    refine HWT.out.mono ?_
    rintro e W6 ⟨rfl, bW6⟩
    go_wp2_with fail
    go_ret
    exact ⟨rfl, BW5.trans (bW6.mono BW5.size)⟩
  · skip
    have HUX : Hid (decide ((Vl.mk un um usA usc uss ucA ucc ucs uvA uvc uvs).er = (vlLast (a3 + 1) m3 (W0.heap.size + 1) bs).er) = true) := decide_eq_true (HUE.out.trans (HR1.out.symm.trans ((if_neg h).trans EX.symm)))
    have g : decide (a3 * 9 + m3 * 3 + s3 < b3 * 9 + n3 * 3 + t3) = false := decide_eq_false h
    clear h EX EY HUE HR1
    have l0 : W3.cell? ⟨W0.heap.size + 1 + 1, 0, none⟩ = some (.int .u64 (a3 + 1)) := Xx.2 0 _ rfl
    have l1 : W3.cell? ⟨W0.heap.size + 1 + 1, 1, none⟩ = some (.int .u64 m3) := Xx.2 1 _ rfl
    have l2 : W3.cell? ⟨W0.heap.size + 1 + 1, 2, none⟩ = some (.slice (some ⟨W0.heap.size + 1, 0, none⟩) 1 1) := Xx.2 2 _ rfl
    have l3 : W3.cell? ⟨W0.heap.size + 1 + 1, 3, none⟩ = some (.slice none 0 0) := Xx.2 3 _ rfl
    have l4 : W3.cell? ⟨W0.heap.size + 1 + 1, 4, none⟩ = some (.slice none 0 0) := Xx.2 4 _ rfl
    go_upto_region 12 with fail
    clear g
    clear l0 l1 l2 l3 l4
    obtain ⟨W4, hW4⟩ : ∃ W4, (W3.alloc (.cells #[.int .u64 (a3 + 1), .int .u64 m3, .slice (some ⟨W0.heap.size + 1, 0, none⟩) 1 1, .slice none 0 0, .slice none 0 0] 32)) = W4 := ⟨_, rfl⟩
    have bW4 : Below W3.heap.size W3 W4 := by rw [← hW4]; exact belAl (Below.refl _ _)
    have Xw : Bxd W4 (W3.heap.size) #[.int .u64 (a3 + 1), .int .u64 m3, .slice (some ⟨W0.heap.size + 1, 0, none⟩) 1 1, .slice none 0 0, .slice none 0 0] := by
      rw [← hW4]
      have := V4.Bxd.new (W := W3) (cs := #[.int .u64 (a3 + 1), .int .u64 m3, .slice (some ⟨W0.heap.size + 1, 0, none⟩) 1 1, .slice none 0 0, .slice none 0 0]) (t := 32)
      exact this
    replace Xx := Xx.later bW4
    replace Xy := Xy.later bW4
    replace X15 := X15.later bW4
    replace X17 := X17.later bW4
    replace IX := IX.later bW4
    replace IY := IY.later bW4
    replace IU := IU.later bW4
    replace IQ := IQ.later bW4
    have BW4 : Below w.heap.size w W4 := BW3.trans (bW4.mono BW3.size)
    rw [hW4]
    clear hW4
    have l5 : W4.cell? ⟨pb1, 0, none⟩ = some (.int .u64 un) := X15.2 0 _ rfl
    have l6 : W4.cell? ⟨pb1, 1, none⟩ = some (.int .u64 um) := X15.2 1 _ rfl
    have l7 : W4.cell? ⟨pb1, 2, none⟩ = some (.slice usA uss.length usc) := X15.2 2 _ rfl
    have l8 : W4.cell? ⟨pb1, 3, none⟩ = some (.slice ucA ucs.length ucc) := X15.2 3 _ rfl
    have l9 : W4.cell? ⟨pb1, 4, none⟩ = some (.slice uvA uvs.length uvc) := X15.2 4 _ rfl
    have l10 : W4.cell? ⟨W3.heap.size, 0, none⟩ = some (.int .u64 (a3 + 1)) := Xw.2 0 _ rfl
    have l11 : W4.cell? ⟨W3.heap.size, 1, none⟩ = some (.int .u64 m3) := Xw.2 1 _ rfl
    have l12 : W4.cell? ⟨W3.heap.size, 2, none⟩ = some (.slice (some ⟨W0.heap.size + 1, 0, none⟩) 1 1) := Xw.2 2 _ rfl
    have l13 : W4.cell? ⟨W3.heap.size, 3, none⟩ = some (.slice none 0 0) := Xw.2 3 _ rfl
    have l14 : W4.cell? ⟨W3.heap.size, 4, none⟩ = some (.slice none 0 0) := Xw.2 4 _ rfl
    have HWT := Lib.hid (V4.refSameV_any (Vl.mk un um usA usc uss ucA ucc ucs uvA uvc uvs) (vlLast (a3 + 1) m3 (W0.heap.size + 1) bs) W4 IU IX)
    rw [HUX.out] at HWT
    go_wp2_with fail
    refine HWT.out.mono ?_
    rintro e W5 ⟨rfl, bW5⟩
    clear HWT HUX
    clear l5 l6 l7 l8 l9 l10 l11 l12 l13 l14
    replace Xx := Xx.later bW5
    replace Xy := Xy.later bW5
    replace X15 := X15.later bW5
    replace X17 := X17.later bW5
    replace Xw := Xw.later bW5
    replace IX := IX.later bW5
    replace IY := IY.later bW5
    replace IU := IU.later bW5
    replace IQ := IQ.later bW5
    have BW5 : Below w.heap.size w W5 := BW4.trans (bW5.mono BW4.size)
    have l15 : W5.cell? ⟨pb2, 0, none⟩ = some (.int .u64 qn) := X17.2 0 _ rfl
    have l16 : W5.cell? ⟨pb2, 1, none⟩ = some (.int .u64 qm) := X17.2 1 _ rfl
    have l17 : W5.cell? ⟨pb2, 2, none⟩ = some (.slice qsA qss.length qsc) := X17.2 2 _ rfl
    have l18 : W5.cell? ⟨pb2, 3, none⟩ = some (.slice qcA qcs.length qcc) := X17.2 3 _ rfl
    have l19 : W5.cell? ⟨pb2, 4, none⟩ = some (.slice qvA qvs.length qvc) := X17.2 4 _ rfl
    have l20 : W5.cell? ⟨W0.heap.size + 1 + 1, 0, none⟩ = some (.int .u64 (a3 + 1)) := Xx.2 0 _ rfl
    have l21 : W5.cell? ⟨W0.heap.size + 1 + 1, 1, none⟩ = some (.int .u64 m3) := Xx.2 1 _ rfl
    have l22 : W5.cell? ⟨W0.heap.size + 1 + 1, 2, none⟩ = some (.slice (some ⟨W0.heap.size + 1, 0, none⟩) 1 1) := Xx.2 2 _ rfl
    have l23 : W5.cell? ⟨W0.heap.size + 1 + 1, 3, none⟩ = some (.slice none 0 0) := Xx.2 3 _ rfl
    have l24 : W5.cell? ⟨W0.heap.size + 1 + 1, 4, none⟩ = some (.slice none 0 0) := Xx.2 4 _ rfl
    have HWT := Lib.hid (V4.refSameV_any (Vl.mk qn qm qsA qsc qss qcA qcc qcs qvA qvc qvs) (vlLast (a3 + 1) m3 (W0.heap.size + 1) bs) W5 IQ IX)
    rw [HQX.out] at HWT
    go_wp2_with fail
    refine HWT.out.mono ?_
    rintro e W6 ⟨rfl, bW6⟩
    go_wp2_with fail
    go_ret
    exact ⟨rfl, BW5.trans (bW6.mono BW5.size)⟩
end Go.Proofs.YtleejffjnknohaaGreat.J5

namespace Go.Proofs.YtleejffjnknohaaGreat
open Go.ChangeShapes Go.WideShapes Go.ChangeAt Go.RowKit

theorem u8_in {n : Int} (h : (Lit.int .u8 n).wf = true) : 0 ≤ n ∧ n ≤ 255 := by
  simp [Lit.wf] at h
  have e1 : IntKind.u8.min = 0 := by decide
  have e2 : IntKind.u8.max = 255 := by decide
  omega
theorem u64_in {n : Int} (h : (Lit.int .u64 n).wf = true) : 0 ≤ n ∧ n ≤ 18446744073709551615 := by
  simp [Lit.wf] at h
  have e1 : IntKind.u64.min = 0 := by decide
  have e2 : IntKind.u64.max = 18446744073709551615 := by decide
  omega

set_option maxRecDepth 100000 in
theorem joinLasts_lifted (os : Os) (started : os.Started) (H : Type) (enc : TypeId × Value → H) :
    ReturnsInHanded {} Tryz.checked os 8 .any (Rows.joinLastsSpec.pre6 enc Tryz.prog Tryz.f8 Rows.joinLastsRow.domain false) (Rows.joinLastsSpec.post enc Tryz.prog Tryz.f8 false true false false) := by
  refine returnsInHanded_of_change (C := Tryz.checked) (by kernel_rfl) started (by kernel_rfl) Tryz.func8
    (ChangeSpec.witness6 (enc := enc) (C := Tryz.checked) false ⟨#[], #[.int .u8 0, .int .u8 0, .int .u8 0, .int .u8 0, .int .u8 0, .int .u8 0], []⟩ 8 (by kernel_rfl) (by kernel_rfl) (by kernel_rfl) (by kernel_rfl)) ?_
  intro W base args ds gs before hval0 hW _ _
  have hval : ∀ (j : Nat) t v, Tryz.f8.params[j]? = some t → args[j]? = some v → Value.okWide Tryz.prog W .any base t v := hval0
  have hW' := hW
  obtain ⟨p, q, hA0, hV, rfl, _, _⟩ := hW
  have hA : DataW.TrodAll enc Tryz.prog W 0 (fun _ => true) true Tryz.f8.params.toList args.toList ds p := hA0
  rw [Tryz.params8] at hA hval
  obtain ⟨v0, vs0, d0, ds0, p0, q0, hargs, rfl, rfl, h0, r0⟩ := trodAll_cons hA
  obtain ⟨v1, vs1, d1, ds1, p1, q1, rfl, rfl, rfl, h1, r1⟩ := trodAll_cons r0
  obtain ⟨v2, vs2, d2, ds2, p2, q2, rfl, rfl, rfl, h2, r2⟩ := trodAll_cons r1
  obtain ⟨v3, vs3, d3, ds3, p3, q3, rfl, rfl, rfl, h3, r3⟩ := trodAll_cons r2
  obtain ⟨v4, vs4, d4, ds4, p4, q4, rfl, rfl, rfl, h4, r4⟩ := trodAll_cons r3
  obtain ⟨v5, vs5, d5, ds5, p5, q5, rfl, rfl, rfl, h5, r5⟩ := trodAll_cons r4
  obtain ⟨rfl, rfl, rfl⟩ := trodAll_nil r5
  obtain rfl : args = #[v0, v1, v2, v3, v4, v5] := by cases args; simp_all
  obtain ⟨rfl, rfl⟩ := trodVars_none hV
  obtain ⟨a0, rfl, rfl, rfl, w0⟩ := open_int Tryz.underlying5 (hval 0 5 v0 rfl rfl) h0
  obtain ⟨a1, rfl, rfl, rfl, w1⟩ := open_int Tryz.underlying5 (hval 1 5 v1 rfl rfl) h1
  obtain ⟨a2, rfl, rfl, rfl, w2⟩ := open_int Tryz.underlying5 (hval 2 5 v2 rfl rfl) h2
  obtain ⟨a3, rfl, rfl, rfl, w3⟩ := open_int Tryz.underlying5 (hval 3 5 v3 rfl rfl) h3
  obtain ⟨a4, rfl, rfl, rfl, w4⟩ := open_int Tryz.underlying5 (hval 4 5 v4 rfl rfl) h4
  obtain ⟨a5, rfl, rfl, rfl, w5⟩ := open_int Tryz.underlying5 (hval 5 5 v5 rfl rfl) h5
  clear hA0 hval0
  simp only [List.append_nil] at hW'
  refine (J5.joinLasts_all a0 a1 a2 a3 a4 a5 (u8_in w0) (u8_in w1) (u8_in w2) (u8_in w3) (u8_in w4) (u8_in w5) W).mono fun e W' ⟨he, bel⟩ => ?_
  subst he
  exact ⟨_, rfl, _, _, _, [], _, [], hW', trodAll_mk1 (shut_bool Tryz.underlying4 _), (trodAll_cons_mk (shut_int Tryz.underlying5 w0) (trodAll_cons_mk (shut_int Tryz.underlying5 w1) (trodAll_cons_mk (shut_int Tryz.underlying5 w2) (trodAll_cons_mk (shut_int Tryz.underlying5 w3) (trodAll_cons_mk (shut_int Tryz.underlying5 w4) (trodAll_cons_mk (shut_int Tryz.underlying5 w5) trodAll_mk0)))))), rfl, bel.frame _, fun h => by cases h⟩

theorem joinLasts_holds : Rows.JoinLastsSaid :=
  OpenClaim.holds_of_wide 8 Tryz.f8 rfl rfl rfl rfl rfl rfl rfl ⟨rfl, rfl, rfl, rfl, rfl⟩ rfl rfl rfl rfl rfl (by kernel_rfl) Tryz.func8 (by kernel_rfl)
    (of_decide_eq_true (by kernel_rfl)) (by unfold Func.isWrapper; first | (rw [if_pos (by decide +kernel)]; kernel_rfl) | (rw [if_neg (by decide +kernel)]; exact ⟨rfl, rfl⟩))
    (fun os started H enc _ => joinLasts_lifted os started H enc)
end Go.Proofs.YtleejffjnknohaaGreat
