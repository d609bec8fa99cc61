/- What JoinTwins does: it answers true. No condition but that what is handed in are numbers of their kinds. -/
import Derived.Test.YtleejffjnknohaaGreatPjkn
namespace Go.Proofs.YtleejffjnknohaaGreat.J5
open Go.RowKit Go.Shelf
open C3 (Tk belAl allocB)
open S2 (Sc Tr isT)
open V4 (Va Vl Ck isV botT Bxd val_mk er_mk scLeaf scLeaf_in scRow scRow_in vlNum vlNum_in ckOne ckOne_in vlCV vlCV_in mk_inj)

set_option maxRecDepth 100000 in
set_option maxHeartbeats 4000000 in
theorem joinTwins_all (a b n : Int) (ha : 0 ≤ a ∧ a ≤ 255) (hb : 0 ≤ b ∧ b ≤ 255) (hn : 0 ≤ n ∧ n ≤ 255) (w : World) : Calls Tryz.prog 10 #[.int .u8 a, .int .u8 b, .int .u8 n] w (RetV w (.bool true)) := by
  obtain ⟨M, hM⟩ : ∃ M, max a b = M := ⟨_, rfl⟩
  have hM1 : 0 ≤ M ∧ M ≤ 255 := by omega
  have KT : Hid (joinF (.mk 8 [.mk 1 []]) (verE 1 (n + 1) a) (verE 1 (n + 1) b) = .ok (verE 1 (n + 1) M)) := by show joinF _ _ _ = _; rw [← hM]; exact kn_twins 1 (n + 1) a b (by omega) (by omega)
  go_enter Tryz.func10, Tryz.ntmps10
  go_wp2_with fail
  refine (known_any w).mono ?_
  rintro e W0 ⟨rfl, bW0⟩
  have BW0 : Below w.heap.size w W0 := bW0
  go_wp2_with fail
  refine (of_any 1 none 0 0 W0).mono ?_
  rintro e W1 ⟨rfl, bW1⟩
  have BW1 : Below w.heap.size w W1 := BW0.trans (bW1.mono BW0.size)
  obtain ⟨V1, hV1⟩ : ∃ V1, (W1.alloc (.cells #[.int .i64 1, .slice none 0 0] 24)) = V1 := ⟨_, rfl⟩
  have bV1 : Below W1.heap.size W1 V1 := by rw [← hV1]; exact belAl (Below.refl _ _)
  have X5 : Bxd V1 (W1.heap.size) #[.int .i64 1, .slice none 0 0] := by
    rw [← hV1]
    have := V4.Bxd.new (W := W1) (cs := #[.int .i64 1, .slice none 0 0]) (t := 24)
    exact this
  have BV1 : Below w.heap.size w V1 := BW1.trans (bV1.mono BW1.size)
  go_wp2_with fail
  refine (of_any 8 (some ⟨W1.heap.size, 0, none⟩) 1 1 V1).mono ?_
  rintro e W2 ⟨rfl, bW2⟩
  clear hV1
  replace X5 := X5.later bW2
  have BW2 : Below w.heap.size w W2 := BV1.trans (bW2.mono BV1.size)
  obtain ⟨W3, hW3⟩ : ∃ W3, (((((W2.alloc (.cells #[.int .i64 8, .slice (some ⟨W1.heap.size, 0, none⟩) 1 1] 24)).alloc (.cells #[.int .i64 1, .int .u64 (n + 1)] 57)).alloc (.cells #[.slice (some ⟨W2.heap.size + 1, 0, none⟩) 1 1] 55)).alloc (.cells #[.int .u64 a, .int .u64 0, .slice none 0 0, .slice none 0 0, .slice none 0 0] 32)).alloc (.cells #[.int .u64 b, .int .u64 0, .slice none 0 0, .slice none 0 0, .slice none 0 0] 32)) = W3 := ⟨_, rfl⟩
  have bW3 : Below W2.heap.size W2 W3 := by rw [← hW3]; exact belAl (belAl (belAl (belAl (belAl (Below.refl _ _)))))
  have X7 : Bxd W3 (W2.heap.size) #[.int .i64 8, .slice (some ⟨W1.heap.size, 0, none⟩) 1 1] := by
    rw [← hW3]
    have := V4.Bxd.new (W := W2) (cs := #[.int .i64 8, .slice (some ⟨W1.heap.size, 0, none⟩) 1 1]) (t := 24)
    exact (((this.al _).al _).al _).al _
  have Xa : Bxd W3 (W2.heap.size + 1) #[.int .i64 1, .int .u64 (n + 1)] := by
    rw [← hW3]
    have := V4.Bxd.new (W := (W2.alloc (.cells #[.int .i64 8, .slice (some ⟨W1.heap.size, 0, none⟩) 1 1] 24))) (cs := #[.int .i64 1, .int .u64 (n + 1)]) (t := 57)
    rw [World.size_alloc] at this
    exact ((this.al _).al _).al _
  have Xb : Bxd W3 (W2.heap.size + 1 + 1) #[.slice (some ⟨W2.heap.size + 1, 0, none⟩) 1 1] := by
    rw [← hW3]
    have := V4.Bxd.new (W := ((W2.alloc (.cells #[.int .i64 8, .slice (some ⟨W1.heap.size, 0, none⟩) 1 1] 24)).alloc (.cells #[.int .i64 1, .int .u64 (n + 1)] 57))) (cs := #[.slice (some ⟨W2.heap.size + 1, 0, none⟩) 1 1]) (t := 55)
    rw [World.size_alloc, World.size_alloc] at this
    exact (this.al _).al _
  have Xc : Bxd W3 (W2.heap.size + 1 + 1 + 1) #[.int .u64 a, .int .u64 0, .slice none 0 0, .slice none 0 0, .slice none 0 0] := by
    rw [← hW3]
    have := V4.Bxd.new (W := (((W2.alloc (.cells #[.int .i64 8, .slice (some ⟨W1.heap.size, 0, none⟩) 1 1] 24)).alloc (.cells #[.int .i64 1, .int .u64 (n + 1)] 57)).alloc (.cells #[.slice (some ⟨W2.heap.size + 1, 0, none⟩) 1 1] 55))) (cs := #[.int .u64 a, .int .u64 0, .slice none 0 0, .slice none 0 0, .slice none 0 0]) (t := 32)
    rw [World.size_alloc, World.size_alloc, World.size_alloc] at this
    exact this.al _
  have Xd : Bxd W3 (W2.heap.size + 1 + 1 + 1 + 1) #[.int .u64 b, .int .u64 0, .slice none 0 0, .slice none 0 0, .slice none 0 0] := by
    rw [← hW3]
    have := V4.Bxd.new (W := ((((W2.alloc (.cells #[.int .i64 8, .slice (some ⟨W1.heap.size, 0, none⟩) 1 1] 24)).alloc (.cells #[.int .i64 1, .int .u64 (n + 1)] 57)).alloc (.cells #[.slice (some ⟨W2.heap.size + 1, 0, none⟩) 1 1] 55)).alloc (.cells #[.int .u64 a, .int .u64 0, .slice none 0 0, .slice none 0 0, .slice none 0 0] 32))) (cs := #[.int .u64 b, .int .u64 0, .slice none 0 0, .slice none 0 0, .slice none 0 0]) (t := 32)
    rw [World.size_alloc, World.size_alloc, World.size_alloc, World.size_alloc] at this
    exact this
  replace X5 := X5.later bW3
  have BW3 : Below w.heap.size w W3 := BW2.trans (bW3.mono BW2.size)
  have S8 : (scRow 8 W1.heap.size [scLeaf 1]).In W3.heap.size W3 := scRow_in 8 X5 rfl (by simp) (fun s hs => by rw [List.mem_singleton.1 hs]; exact scLeaf_in _ _ _)
  have I7 : (vlCV 0 0 none [] (W2.heap.size + 1 + 1) [ckOne (W2.heap.size + 1) 1 (n + 1)] (W2.heap.size + 1 + 1 + 1) [vlNum a]).In W3 := vlCV_in Xb rfl Xc rfl (by simp) (by simp) (fun k hk => by rw [List.mem_singleton.1 hk]; exact ckOne_in Xa (by omega)) (fun x hx => by rw [List.mem_singleton.1 hx]; exact vlNum_in _ (by omega) _ _)
  have I8 : (vlCV 0 0 none [] (W2.heap.size + 1 + 1) [ckOne (W2.heap.size + 1) 1 (n + 1)] (W2.heap.size + 1 + 1 + 1 + 1) [vlNum b]).In W3 := vlCV_in Xb rfl Xd rfl (by simp) (by simp) (fun k hk => by rw [List.mem_singleton.1 hk]; exact ckOne_in Xa (by omega)) (fun x hx => by rw [List.mem_singleton.1 hx]; exact vlNum_in _ (by omega) _ _)
  have HJ := Lib.hid (Join_any False False.elim (scRow 8 W1.heap.size [scLeaf 1]) (vlCV 0 0 none [] (W2.heap.size + 1 + 1) [ckOne (W2.heap.size + 1) 1 (n + 1)] (W2.heap.size + 1 + 1 + 1) [vlNum a]) (vlCV 0 0 none [] (W2.heap.size + 1 + 1) [ckOne (W2.heap.size + 1) 1 (n + 1)] (W2.heap.size + 1 + 1 + 1 + 1) [vlNum b]) W3 S8 I7 I8 (fun _ => .inr (noP_one (by decide) (noP_leaf (by decide)))))
  clear S8 I7 I8 X5 Xa Xb Xc Xd
  have l0 : W3.cell? ⟨W2.heap.size, 0, none⟩ = some (.int .i64 8) := X7.2 0 _ rfl
  have l1 : W3.cell? ⟨W2.heap.size, 1, none⟩ = some (.slice (some ⟨W1.heap.size, 0, none⟩) 1 1) := X7.2 1 _ rfl
  go_wp2_with fail
  refine HJ.out.mono ?_
  clear HJ hW3
  rintro e U3 hr
  obtain ⟨⟨dn, dm, dsA, dsc, dss, dcA, dcc, dcs, dvA, dvc, dvs⟩, rfl, hde, hdi, bU3⟩ := retK_ok hr KT.out
  have I9 := inn hdi
  rw [er_mk, verE, mk_inj] at hde
  obtain ⟨rfl, rfl, rfl, hc, hv⟩ := hde
  have hlc : dcs.length = 1 := by have := congrArg List.length hc; simpa using this
  obtain ⟨u, hu⟩ : ∃ u, dvs = [u] := List.length_eq_one_iff.1 (by have := congrArg List.length hv; simpa using this)
  subst hu
  have hun : u.er = numE M := by simpa using hv
  obtain ⟨un, um, usA, usc, uss, ucA, ucc, ucs, uvA, uvc, uvs⟩ := u
  rw [er_mk, numE, mk_inj] at hun
  obtain ⟨rfl, rfl, rfl, _, _⟩ := hun
  obtain ⟨vb, vo, rfl, hvb, c0, _, _, _, _⟩ := V4.value_at I9.out.vl (k := 0) rfl
  simp only [V4.Vl.n, Nat.zero_mul, Nat.add_zero] at c0
  simp only [val_mk, List.length_cons, List.length_nil, Nat.zero_add, hlc]
  clear hr hdi hc hv
  clear l0 l1
  clear X7
  have BU3 : Below w.heap.size w U3 := BW3.trans (bU3.mono BW3.size)
  obtain ⟨W4, hW4⟩ : ∃ W4, (U3.alloc (.cells #[.int .u64 0, .int .u64 0, .slice dsA 0 dsc, .slice dcA 1 dcc, .slice (some ⟨vb, vo, none⟩) 1 dvc] 32)) = W4 := ⟨_, rfl⟩
  have bW4 : Below U3.heap.size U3 W4 := by rw [← hW4]; exact belAl (Below.refl _ _)
  have X9 : Bxd W4 (U3.heap.size) #[.int .u64 0, .int .u64 0, .slice dsA 0 dsc, .slice dcA 1 dcc, .slice (some ⟨vb, vo, none⟩) 1 dvc] := by
    rw [← hW4]
    have := V4.Bxd.new (W := U3) (cs := #[.int .u64 0, .int .u64 0, .slice dsA 0 dsc, .slice dcA 1 dcc, .slice (some ⟨vb, vo, none⟩) 1 dvc]) (t := 32)
    exact this
  have BW4 : Below w.heap.size w W4 := BU3.trans (bW4.mono BU3.size)
  have c1 : W4.cell? ⟨vb, vo, none⟩ = some (.int .u64 un) := (bW4.cell (p := ⟨vb, vo, none⟩) hvb).trans c0
  have x3 : W4.cell? ⟨U3.heap.size, 3, none⟩ = some (.slice dcA 1 dcc) := X9.2 3 _ rfl
  have x4 : W4.cell? ⟨U3.heap.size, 4, none⟩ = some (.slice (some ⟨vb, vo, none⟩) 1 dvc) := X9.2 4 _ rfl
  go_wp2_with fail
  go_ret
  exact ⟨by simp, BW4⟩
end Go.Proofs.YtleejffjnknohaaGreat.J5
