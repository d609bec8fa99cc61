/- What the laws' own helpers, known and of, do. No condition. -/
import Derived.Test.YtleejffjnknohaaGreatMj32
namespace Go.Proofs.YtleejffjnknohaaGreat.J5
open Go.RowKit Go.Shelf
open C3 (Tk belAl allocB)
open S2 (Sc Tr isT)
open V4 (Va Vl Ck isV botT Bxd val_mk er_mk scLeaf scLeaf_in scRow scRow_in vlNum vlNum_in vlTexts vlTexts_in ckOne ckOne_in vlCV vlCV_in mk_inj)

set_option maxHeartbeats 400000 in
theorem of_any (k : Int) (A : Option Addr) (n c : Nat) (w : World) : Calls Tryz.prog 16 #[.int .i64 k, .slice A n c] w (RetV w (.agg #[.int .i64 k, .slice A n c])) := by
  go_enter Tryz.func16, Tryz.ntmps16
  go_wp2_with fail
  refine bodyPost_ret (S2.results_cellS rfl _ _ w.heap.size (.int .i64 k) (.slice A n c) rfl (by go_simp) (by go_simp)) rfl ?_
  exact ⟨rfl, belAl (Below.refl _ _)⟩

/-- What is in new memory is in memory. -/
theorem inn {P : Nat → Prop} {W : World} {x : Vl} (h : x.Inp (fun b => P b ∧ b < W.heap.size) W) : x.In W := h.mono fun _ h => h.2

set_option maxRecDepth 100000 in
set_option maxHeartbeats 4000000 in
theorem known_any (w : World) : Calls Tryz.prog 11 #[] w (RetV w (.bool true)) := by
  obtain ⟨W1, hW1⟩ : ∃ W1, (((w.alloc (.cells #[.int .i64 3, .slice none 0 0] 24)).alloc (.cells #[.string ⟨#[97]⟩] 9)).alloc (.cells #[.string ⟨#[98]⟩] 9)) = W1 := ⟨_, rfl⟩
  have bW1 : Below w.heap.size w W1 := by rw [← hW1]; exact belAl (belAl (belAl (Below.refl _ _)))
  have X0 : Bxd W1 (w.heap.size) #[.int .i64 3, .slice none 0 0] := by
    rw [← hW1]
    have := V4.Bxd.new (W := w) (cs := #[.int .i64 3, .slice none 0 0]) (t := 24)
    exact (this.al _).al _
  have X1 : Bxd W1 (w.heap.size + 1) #[.string ⟨#[97]⟩] := by
    rw [← hW1]
    have := V4.Bxd.new (W := (w.alloc (.cells #[.int .i64 3, .slice none 0 0] 24))) (cs := #[.string ⟨#[97]⟩]) (t := 9)
    rw [World.size_alloc] at this
    exact this.al _
  have X2 : Bxd W1 (w.heap.size + 1 + 1) #[.string ⟨#[98]⟩] := by
    rw [← hW1]
    have := V4.Bxd.new (W := ((w.alloc (.cells #[.int .i64 3, .slice none 0 0] 24)).alloc (.cells #[.string ⟨#[97]⟩] 9))) (cs := #[.string ⟨#[98]⟩]) (t := 9)
    rw [World.size_alloc, World.size_alloc] at this
    exact this
  have BW1 : Below w.heap.size w W1 := bW1
  have I1 : (vlTexts 0 (w.heap.size + 1) [[97]]).In W1 := vlTexts_in 0 (by omega) X1 rfl (by simp) (by simp)
  have I2 : (vlTexts 0 (w.heap.size + 1 + 1) [[98]]).In W1 := vlTexts_in 0 (by omega) X2 rfl (by simp) (by simp)
  have HJ := Lib.hid (Join_any False False.elim (scLeaf 3) (vlTexts 0 (w.heap.size + 1) [[97]]) (vlTexts 0 (w.heap.size + 1 + 1) [[98]]) W1 (scLeaf_in _ _ _) I1 I2 (fun _ => .inr (noP_leaf (by decide))))
  have l0 : W1.cell? ⟨w.heap.size, 0, none⟩ = some (.int .i64 3) := X0.2 0 _ rfl
  have l1 : W1.cell? ⟨w.heap.size, 1, none⟩ = some (.slice none 0 0) := X0.2 1 _ rfl
  clear I1 I2 X1 X2
  go_enter Tryz.func11, Tryz.ntmps11
  go_wp2_with fail
  refine HJ.out.mono ?_
  clear HJ hW1
  rintro e U1 hr
  obtain ⟨⟨an, am, asA, asc, ass, acA, acc, acs, avA, avc, avs⟩, rfl, hae, hai, bU1⟩ := retK_ok hr kn_j1
  rw [er_mk, mk_inj] at hae
  obtain ⟨rfl, rfl, rfl, hc, hv⟩ := hae
  obtain rfl := List.map_eq_nil_iff.1 hc
  obtain rfl := List.map_eq_nil_iff.1 hv
  have I1 := inn hai
  simp only [val_mk, List.length_cons, List.length_nil, Nat.zero_add, Nat.reduceAdd]
  clear hr hai hc hv
  clear l0 l1
  replace X0 := X0.later bU1
  have BU1 : Below w.heap.size w U1 := BW1.trans (bU1.mono BW1.size)
  obtain ⟨W2, hW2⟩ : ∃ W2, (U1.alloc (.cells #[.int .u64 0, .int .u64 0, .slice asA 2 asc, .slice acA 0 acc, .slice avA 0 avc] 32)) = W2 := ⟨_, rfl⟩
  have bW2 : Below U1.heap.size U1 W2 := by rw [← hW2]; exact belAl (Below.refl _ _)
  have X2 : Bxd W2 (U1.heap.size) #[.int .u64 0, .int .u64 0, .slice asA 2 asc, .slice acA 0 acc, .slice avA 0 avc] := by
    rw [← hW2]
    have := V4.Bxd.new (W := U1) (cs := #[.int .u64 0, .int .u64 0, .slice asA 2 asc, .slice acA 0 acc, .slice avA 0 avc]) (t := 32)
    exact this
  replace X0 := X0.later bW2
  replace I1 := I1.later bW2
  have BW2 : Below w.heap.size w W2 := BU1.trans (bW2.mono BU1.size)
  have HJ := Lib.hid (Join_any False False.elim (scLeaf 3) (.mk 0 0 asA asc [[97], [98]] acA acc [] avA avc []) (vlNum 1) W2 (scLeaf_in _ _ _) I1 (vlNum_in 1 (by omega) _ _) (fun _ => .inr (noP_leaf (by decide))))
  have l2 : W2.cell? ⟨w.heap.size, 0, none⟩ = some (.int .i64 3) := X0.2 0 _ rfl
  have l3 : W2.cell? ⟨w.heap.size, 1, none⟩ = some (.slice none 0 0) := X0.2 1 _ rfl
  have l4 : W2.cell? ⟨U1.heap.size, 0, none⟩ = some (.int .u64 0) := X2.2 0 _ rfl
  have l5 : W2.cell? ⟨U1.heap.size, 1, none⟩ = some (.int .u64 0) := X2.2 1 _ rfl
  have l6 : W2.cell? ⟨U1.heap.size, 2, none⟩ = some (.slice asA 2 asc) := X2.2 2 _ rfl
  have l7 : W2.cell? ⟨U1.heap.size, 3, none⟩ = some (.slice acA 0 acc) := X2.2 3 _ rfl
  have l8 : W2.cell? ⟨U1.heap.size, 4, none⟩ = some (.slice avA 0 avc) := X2.2 4 _ rfl
  go_wp2_with fail
  refine HJ.out.mono ?_
  clear HJ hW2
  rintro e U2 hr
  obtain ⟨rfl, bU2⟩ := retK_err hr (kn_j2 _)
  simp only [vlZ_val]
  unfold errV
  clear hr
  clear l2 l3 l4 l5 l6 l7 l8
  clear I1
  replace X0 := X0.later bU2
  replace X2 := X2.later bU2
  have BU2 : Below w.heap.size w U2 := BW2.trans (bU2.mono BW2.size)
  obtain ⟨W3, hW3⟩ : ∃ W3, (((((((((((U2.alloc (.cells #[.int .u64 0, .int .u64 0, .slice none 0 0, .slice none 0 0, .slice none 0 0] 32)).alloc (.cells #[.int .i64 1, .slice none 0 0] 24)).alloc (.cells #[.int .i64 8, .slice (some ⟨U2.heap.size + 1, 0, none⟩) 1 1] 24)).alloc (.cells #[.int .i64 1, .int .u64 1] 57)).alloc (.cells #[.slice (some ⟨U2.heap.size + 1 + 1 + 1, 0, none⟩) 1 1] 55)).alloc (.cells #[.int .u64 9, .int .u64 0, .slice none 0 0, .slice none 0 0, .slice none 0 0] 32)).alloc (.cells #[.int .u64 0, .int .u64 0, .slice none 0 0, .slice (some ⟨U2.heap.size + 1 + 1 + 1 + 1, 0, none⟩) 1 1, .slice (some ⟨U2.heap.size + 1 + 1 + 1 + 1 + 1, 0, none⟩) 1 1] 32)).alloc (.cells #[.int .i64 1, .int .u64 2] 57)).alloc (.cells #[.slice (some ⟨U2.heap.size + 1 + 1 + 1 + 1 + 1 + 1 + 1, 0, none⟩) 1 1] 55)).alloc (.cells #[.int .u64 3, .int .u64 0, .slice none 0 0, .slice none 0 0, .slice none 0 0] 32)).alloc (.cells #[.int .u64 0, .int .u64 0, .slice none 0 0, .slice (some ⟨U2.heap.size + 1 + 1 + 1 + 1 + 1 + 1 + 1 + 1, 0, none⟩) 1 1, .slice (some ⟨U2.heap.size + 1 + 1 + 1 + 1 + 1 + 1 + 1 + 1 + 1, 0, none⟩) 1 1] 32)) = W3 := ⟨_, rfl⟩
  have bW3 : Below U2.heap.size U2 W3 := by rw [← hW3]; exact belAl (belAl (belAl (belAl (belAl (belAl (belAl (belAl (belAl (belAl (belAl (Below.refl _ _)))))))))))
  have X5 : Bxd W3 (U2.heap.size + 1) #[.int .i64 1, .slice none 0 0] := by
    rw [← hW3]
    have := V4.Bxd.new (W := (U2.alloc (.cells #[.int .u64 0, .int .u64 0, .slice none 0 0, .slice none 0 0, .slice none 0 0] 32))) (cs := #[.int .i64 1, .slice none 0 0]) (t := 24)
    rw [World.size_alloc] at this
    exact ((((((((this.al _).al _).al _).al _).al _).al _).al _).al _).al _
  have X6 : Bxd W3 (U2.heap.size + 1 + 1) #[.int .i64 8, .slice (some ⟨U2.heap.size + 1, 0, none⟩) 1 1] := by
    rw [← hW3]
    have := V4.Bxd.new (W := ((U2.alloc (.cells #[.int .u64 0, .int .u64 0, .slice none 0 0, .slice none 0 0, .slice none 0 0] 32)).alloc (.cells #[.int .i64 1, .slice none 0 0] 24))) (cs := #[.int .i64 8, .slice (some ⟨U2.heap.size + 1, 0, none⟩) 1 1]) (t := 24)
    rw [World.size_alloc, World.size_alloc] at this
    exact (((((((this.al _).al _).al _).al _).al _).al _).al _).al _
  have Xa : Bxd W3 (U2.heap.size + 1 + 1 + 1) #[.int .i64 1, .int .u64 1] := by
    rw [← hW3]
    have := V4.Bxd.new (W := (((U2.alloc (.cells #[.int .u64 0, .int .u64 0, .slice none 0 0, .slice none 0 0, .slice none 0 0] 32)).alloc (.cells #[.int .i64 1, .slice none 0 0] 24)).alloc (.cells #[.int .i64 8, .slice (some ⟨U2.heap.size + 1, 0, none⟩) 1 1] 24))) (cs := #[.int .i64 1, .int .u64 1]) (t := 57)
    rw [World.size_alloc, World.size_alloc, World.size_alloc] at this
    exact ((((((this.al _).al _).al _).al _).al _).al _).al _
  have Xb : Bxd W3 (U2.heap.size + 1 + 1 + 1 + 1) #[.slice (some ⟨U2.heap.size + 1 + 1 + 1, 0, none⟩) 1 1] := by
    rw [← hW3]
    have := V4.Bxd.new (W := ((((U2.alloc (.cells #[.int .u64 0, .int .u64 0, .slice none 0 0, .slice none 0 0, .slice none 0 0] 32)).alloc (.cells #[.int .i64 1, .slice none 0 0] 24)).alloc (.cells #[.int .i64 8, .slice (some ⟨U2.heap.size + 1, 0, none⟩) 1 1] 24)).alloc (.cells #[.int .i64 1, .int .u64 1] 57))) (cs := #[.slice (some ⟨U2.heap.size + 1 + 1 + 1, 0, none⟩) 1 1]) (t := 55)
    rw [World.size_alloc, World.size_alloc, World.size_alloc, World.size_alloc] at this
    exact (((((this.al _).al _).al _).al _).al _).al _
  have Xc : Bxd W3 (U2.heap.size + 1 + 1 + 1 + 1 + 1) #[.int .u64 9, .int .u64 0, .slice none 0 0, .slice none 0 0, .slice none 0 0] := by
    rw [← hW3]
    have := V4.Bxd.new (W := (((((U2.alloc (.cells #[.int .u64 0, .int .u64 0, .slice none 0 0, .slice none 0 0, .slice none 0 0] 32)).alloc (.cells #[.int .i64 1, .slice none 0 0] 24)).alloc (.cells #[.int .i64 8, .slice (some ⟨U2.heap.size + 1, 0, none⟩) 1 1] 24)).alloc (.cells #[.int .i64 1, .int .u64 1] 57)).alloc (.cells #[.slice (some ⟨U2.heap.size + 1 + 1 + 1, 0, none⟩) 1 1] 55))) (cs := #[.int .u64 9, .int .u64 0, .slice none 0 0, .slice none 0 0, .slice none 0 0]) (t := 32)
    rw [World.size_alloc, World.size_alloc, World.size_alloc, World.size_alloc, World.size_alloc] at this
    exact ((((this.al _).al _).al _).al _).al _
  have X7 : Bxd W3 (U2.heap.size + 1 + 1 + 1 + 1 + 1 + 1) #[.int .u64 0, .int .u64 0, .slice none 0 0, .slice (some ⟨U2.heap.size + 1 + 1 + 1 + 1, 0, none⟩) 1 1, .slice (some ⟨U2.heap.size + 1 + 1 + 1 + 1 + 1, 0, none⟩) 1 1] := by
    rw [← hW3]
    have := V4.Bxd.new (W := ((((((U2.alloc (.cells #[.int .u64 0, .int .u64 0, .slice none 0 0, .slice none 0 0, .slice none 0 0] 32)).alloc (.cells #[.int .i64 1, .slice none 0 0] 24)).alloc (.cells #[.int .i64 8, .slice (some ⟨U2.heap.size + 1, 0, none⟩) 1 1] 24)).alloc (.cells #[.int .i64 1, .int .u64 1] 57)).alloc (.cells #[.slice (some ⟨U2.heap.size + 1 + 1 + 1, 0, none⟩) 1 1] 55)).alloc (.cells #[.int .u64 9, .int .u64 0, .slice none 0 0, .slice none 0 0, .slice none 0 0] 32))) (cs := #[.int .u64 0, .int .u64 0, .slice none 0 0, .slice (some ⟨U2.heap.size + 1 + 1 + 1 + 1, 0, none⟩) 1 1, .slice (some ⟨U2.heap.size + 1 + 1 + 1 + 1 + 1, 0, none⟩) 1 1]) (t := 32)
    rw [World.size_alloc, World.size_alloc, World.size_alloc, World.size_alloc, World.size_alloc, World.size_alloc] at this
    exact (((this.al _).al _).al _).al _
  have Xd : Bxd W3 (U2.heap.size + 1 + 1 + 1 + 1 + 1 + 1 + 1) #[.int .i64 1, .int .u64 2] := by
    rw [← hW3]
    have := V4.Bxd.new (W := (((((((U2.alloc (.cells #[.int .u64 0, .int .u64 0, .slice none 0 0, .slice none 0 0, .slice none 0 0] 32)).alloc (.cells #[.int .i64 1, .slice none 0 0] 24)).alloc (.cells #[.int .i64 8, .slice (some ⟨U2.heap.size + 1, 0, none⟩) 1 1] 24)).alloc (.cells #[.int .i64 1, .int .u64 1] 57)).alloc (.cells #[.slice (some ⟨U2.heap.size + 1 + 1 + 1, 0, none⟩) 1 1] 55)).alloc (.cells #[.int .u64 9, .int .u64 0, .slice none 0 0, .slice none 0 0, .slice none 0 0] 32)).alloc (.cells #[.int .u64 0, .int .u64 0, .slice none 0 0, .slice (some ⟨U2.heap.size + 1 + 1 + 1 + 1, 0, none⟩) 1 1, .slice (some ⟨U2.heap.size + 1 + 1 + 1 + 1 + 1, 0, none⟩) 1 1] 32))) (cs := #[.int .i64 1, .int .u64 2]) (t := 57)
    rw [World.size_alloc, World.size_alloc, World.size_alloc, World.size_alloc, World.size_alloc, World.size_alloc, World.size_alloc] at this
    exact ((this.al _).al _).al _
  have Xe : Bxd W3 (U2.heap.size + 1 + 1 + 1 + 1 + 1 + 1 + 1 + 1) #[.slice (some ⟨U2.heap.size + 1 + 1 + 1 + 1 + 1 + 1 + 1, 0, none⟩) 1 1] := by
    rw [← hW3]
    have := V4.Bxd.new (W := ((((((((U2.alloc (.cells #[.int .u64 0, .int .u64 0, .slice none 0 0, .slice none 0 0, .slice none 0 0] 32)).alloc (.cells #[.int .i64 1, .slice none 0 0] 24)).alloc (.cells #[.int .i64 8, .slice (some ⟨U2.heap.size + 1, 0, none⟩) 1 1] 24)).alloc (.cells #[.int .i64 1, .int .u64 1] 57)).alloc (.cells #[.slice (some ⟨U2.heap.size + 1 + 1 + 1, 0, none⟩) 1 1] 55)).alloc (.cells #[.int .u64 9, .int .u64 0, .slice none 0 0, .slice none 0 0, .slice none 0 0] 32)).alloc (.cells #[.int .u64 0, .int .u64 0, .slice none 0 0, .slice (some ⟨U2.heap.size + 1 + 1 + 1 + 1, 0, none⟩) 1 1, .slice (some ⟨U2.heap.size + 1 + 1 + 1 + 1 + 1, 0, none⟩) 1 1] 32)).alloc (.cells #[.int .i64 1, .int .u64 2] 57))) (cs := #[.slice (some ⟨U2.heap.size + 1 + 1 + 1 + 1 + 1 + 1 + 1, 0, none⟩) 1 1]) (t := 55)
    rw [World.size_alloc, World.size_alloc, World.size_alloc, World.size_alloc, World.size_alloc, World.size_alloc, World.size_alloc, World.size_alloc] at this
    exact (this.al _).al _
  have Xf : Bxd W3 (U2.heap.size + 1 + 1 + 1 + 1 + 1 + 1 + 1 + 1 + 1) #[.int .u64 3, .int .u64 0, .slice none 0 0, .slice none 0 0, .slice none 0 0] := by
    rw [← hW3]
    have := V4.Bxd.new (W := (((((((((U2.alloc (.cells #[.int .u64 0, .int .u64 0, .slice none 0 0, .slice none 0 0, .slice none 0 0] 32)).alloc (.cells #[.int .i64 1, .slice none 0 0] 24)).alloc (.cells #[.int .i64 8, .slice (some ⟨U2.heap.size + 1, 0, none⟩) 1 1] 24)).alloc (.cells #[.int .i64 1, .int .u64 1] 57)).alloc (.cells #[.slice (some ⟨U2.heap.size + 1 + 1 + 1, 0, none⟩) 1 1] 55)).alloc (.cells #[.int .u64 9, .int .u64 0, .slice none 0 0, .slice none 0 0, .slice none 0 0] 32)).alloc (.cells #[.int .u64 0, .int .u64 0, .slice none 0 0, .slice (some ⟨U2.heap.size + 1 + 1 + 1 + 1, 0, none⟩) 1 1, .slice (some ⟨U2.heap.size + 1 + 1 + 1 + 1 + 1, 0, none⟩) 1 1] 32)).alloc (.cells #[.int .i64 1, .int .u64 2] 57)).alloc (.cells #[.slice (some ⟨U2.heap.size + 1 + 1 + 1 + 1 + 1 + 1 + 1, 0, none⟩) 1 1] 55))) (cs := #[.int .u64 3, .int .u64 0, .slice none 0 0, .slice none 0 0, .slice none 0 0]) (t := 32)
    rw [World.size_alloc, World.size_alloc, World.size_alloc, World.size_alloc, World.size_alloc, World.size_alloc, World.size_alloc, World.size_alloc, World.size_alloc] at this
    exact this.al _
  have X8 : Bxd W3 (U2.heap.size + 1 + 1 + 1 + 1 + 1 + 1 + 1 + 1 + 1 + 1) #[.int .u64 0, .int .u64 0, .slice none 0 0, .slice (some ⟨U2.heap.size + 1 + 1 + 1 + 1 + 1 + 1 + 1 + 1, 0, none⟩) 1 1, .slice (some ⟨U2.heap.size + 1 + 1 + 1 + 1 + 1 + 1 + 1 + 1 + 1, 0, none⟩) 1 1] := by
    rw [← hW3]
    have := V4.Bxd.new (W := ((((((((((U2.alloc (.cells #[.int .u64 0, .int .u64 0, .slice none 0 0, .slice none 0 0, .slice none 0 0] 32)).alloc (.cells #[.int .i64 1, .slice none 0 0] 24)).alloc (.cells #[.int .i64 8, .slice (some ⟨U2.heap.size + 1, 0, none⟩) 1 1] 24)).alloc (.cells #[.int .i64 1, .int .u64 1] 57)).alloc (.cells #[.slice (some ⟨U2.heap.size + 1 + 1 + 1, 0, none⟩) 1 1] 55)).alloc (.cells #[.int .u64 9, .int .u64 0, .slice none 0 0, .slice none 0 0, .slice none 0 0] 32)).alloc (.cells #[.int .u64 0, .int .u64 0, .slice none 0 0, .slice (some ⟨U2.heap.size + 1 + 1 + 1 + 1, 0, none⟩) 1 1, .slice (some ⟨U2.heap.size + 1 + 1 + 1 + 1 + 1, 0, none⟩) 1 1] 32)).alloc (.cells #[.int .i64 1, .int .u64 2] 57)).alloc (.cells #[.slice (some ⟨U2.heap.size + 1 + 1 + 1 + 1 + 1 + 1 + 1, 0, none⟩) 1 1] 55)).alloc (.cells #[.int .u64 3, .int .u64 0, .slice none 0 0, .slice none 0 0, .slice none 0 0] 32))) (cs := #[.int .u64 0, .int .u64 0, .slice none 0 0, .slice (some ⟨U2.heap.size + 1 + 1 + 1 + 1 + 1 + 1 + 1 + 1, 0, none⟩) 1 1, .slice (some ⟨U2.heap.size + 1 + 1 + 1 + 1 + 1 + 1 + 1 + 1 + 1, 0, none⟩) 1 1]) (t := 32)
    rw [World.size_alloc, World.size_alloc, World.size_alloc, World.size_alloc, World.size_alloc, World.size_alloc, World.size_alloc, World.size_alloc, World.size_alloc, World.size_alloc] at this
    exact this
  replace X0 := X0.later bW3
  replace X2 := X2.later bW3
  have BW3 : Below w.heap.size w W3 := BU2.trans (bW3.mono BU2.size)
  have S8 : (scRow 8 (U2.heap.size + 1) [scLeaf 1]).In W3.heap.size W3 := scRow_in 8 X5 rfl (by simp) (fun s hs => by rw [List.mem_singleton.1 hs]; exact scLeaf_in _ _ _)
  have I7 : (vlCV 0 0 none [] (U2.heap.size + 1 + 1 + 1 + 1) [ckOne (U2.heap.size + 1 + 1 + 1) 1 1] (U2.heap.size + 1 + 1 + 1 + 1 + 1) [vlNum 9]).In W3 := vlCV_in Xb rfl Xc rfl (by simp) (by simp) (fun k hk => by rw [List.mem_singleton.1 hk]; exact ckOne_in Xa (by omega)) (fun x hx => by rw [List.mem_singleton.1 hx]; exact vlNum_in _ (by omega) _ _)
  have I8 : (vlCV 0 0 none [] (U2.heap.size + 1 + 1 + 1 + 1 + 1 + 1 + 1 + 1) [ckOne (U2.heap.size + 1 + 1 + 1 + 1 + 1 + 1 + 1) 1 2] (U2.heap.size + 1 + 1 + 1 + 1 + 1 + 1 + 1 + 1 + 1) [vlNum 3]).In W3 := vlCV_in Xe rfl Xf rfl (by simp) (by simp) (fun k hk => by rw [List.mem_singleton.1 hk]; exact ckOne_in Xd (by omega)) (fun x hx => by rw [List.mem_singleton.1 hx]; exact vlNum_in _ (by omega) _ _)
  have HJ := Lib.hid (Join_any False False.elim (scRow 8 (U2.heap.size + 1) [scLeaf 1]) (vlCV 0 0 none [] (U2.heap.size + 1 + 1 + 1 + 1) [ckOne (U2.heap.size + 1 + 1 + 1) 1 1] (U2.heap.size + 1 + 1 + 1 + 1 + 1) [vlNum 9]) (vlCV 0 0 none [] (U2.heap.size + 1 + 1 + 1 + 1 + 1 + 1 + 1 + 1) [ckOne (U2.heap.size + 1 + 1 + 1 + 1 + 1 + 1 + 1) 1 2] (U2.heap.size + 1 + 1 + 1 + 1 + 1 + 1 + 1 + 1 + 1) [vlNum 3]) W3 S8 I7 I8 (fun _ => .inr (noP_one (by decide) (noP_leaf (by decide)))))
  clear S8 I7 X5 Xa Xb Xc Xd Xe Xf
  have l9 : W3.cell? ⟨U2.heap.size + 1 + 1, 0, none⟩ = some (.int .i64 8) := X6.2 0 _ rfl
  have l10 : W3.cell? ⟨U2.heap.size + 1 + 1, 1, none⟩ = some (.slice (some ⟨U2.heap.size + 1, 0, none⟩) 1 1) := X6.2 1 _ rfl
  have l11 : W3.cell? ⟨U2.heap.size + 1 + 1 + 1 + 1 + 1 + 1, 0, none⟩ = some (.int .u64 0) := X7.2 0 _ rfl
  have l12 : W3.cell? ⟨U2.heap.size + 1 + 1 + 1 + 1 + 1 + 1, 1, none⟩ = some (.int .u64 0) := X7.2 1 _ rfl
  have l13 : W3.cell? ⟨U2.heap.size + 1 + 1 + 1 + 1 + 1 + 1, 2, none⟩ = some (.slice none 0 0) := X7.2 2 _ rfl
  have l14 : W3.cell? ⟨U2.heap.size + 1 + 1 + 1 + 1 + 1 + 1, 3, none⟩ = some (.slice (some ⟨U2.heap.size + 1 + 1 + 1 + 1, 0, none⟩) 1 1) := X7.2 3 _ rfl
  have l15 : W3.cell? ⟨U2.heap.size + 1 + 1 + 1 + 1 + 1 + 1, 4, none⟩ = some (.slice (some ⟨U2.heap.size + 1 + 1 + 1 + 1 + 1, 0, none⟩) 1 1) := X7.2 4 _ rfl
  have l16 : W3.cell? ⟨U2.heap.size + 1 + 1 + 1 + 1 + 1 + 1 + 1 + 1 + 1 + 1, 0, none⟩ = some (.int .u64 0) := X8.2 0 _ rfl
  have l17 : W3.cell? ⟨U2.heap.size + 1 + 1 + 1 + 1 + 1 + 1 + 1 + 1 + 1 + 1, 1, none⟩ = some (.int .u64 0) := X8.2 1 _ rfl
  have l18 : W3.cell? ⟨U2.heap.size + 1 + 1 + 1 + 1 + 1 + 1 + 1 + 1 + 1 + 1, 2, none⟩ = some (.slice none 0 0) := X8.2 2 _ rfl
  have l19 : W3.cell? ⟨U2.heap.size + 1 + 1 + 1 + 1 + 1 + 1 + 1 + 1 + 1 + 1, 3, none⟩ = some (.slice (some ⟨U2.heap.size + 1 + 1 + 1 + 1 + 1 + 1 + 1 + 1, 0, none⟩) 1 1) := X8.2 3 _ rfl
  have l20 : W3.cell? ⟨U2.heap.size + 1 + 1 + 1 + 1 + 1 + 1 + 1 + 1 + 1 + 1, 4, none⟩ = some (.slice (some ⟨U2.heap.size + 1 + 1 + 1 + 1 + 1 + 1 + 1 + 1 + 1, 0, none⟩) 1 1) := X8.2 4 _ rfl
  go_wp2_with fail
  refine HJ.out.mono ?_
  clear HJ hW3
  rintro e U3 hr
  obtain ⟨⟨dn, dm, dsA, dsc, dss, dcA, dcc, dcs, dvA, dvc, dvs⟩, rfl, hde, hdi, bU3⟩ := retK_ok hr kn_j3
  have I9 := inn hdi
  have HE := Lib.hid hde
  simp only [val_mk]
  clear hr hdi hde
  clear l9 l10 l11 l12 l13 l14 l15 l16 l17 l18 l19 l20
  clear X6 X7
  replace X0 := X0.later bU3
  replace X2 := X2.later bU3
  replace X8 := X8.later bU3
  replace I8 := I8.later bU3
  have BU3 : Below w.heap.size w U3 := BW3.trans (bU3.mono BW3.size)
  obtain ⟨W4, hW4⟩ : ∃ W4, (U3.alloc (.cells #[.int .u64 dn, .int .u64 dm, .slice dsA dss.length dsc, .slice dcA dcs.length dcc, .slice dvA dvs.length dvc] 32)) = W4 := ⟨_, rfl⟩
  have bW4 : Below U3.heap.size U3 W4 := by rw [← hW4]; exact belAl (Below.refl _ _)
  have X9 : Bxd W4 (U3.heap.size) #[.int .u64 dn, .int .u64 dm, .slice dsA dss.length dsc, .slice dcA dcs.length dcc, .slice dvA dvs.length dvc] := by
    rw [← hW4]
    have := V4.Bxd.new (W := U3) (cs := #[.int .u64 dn, .int .u64 dm, .slice dsA dss.length dsc, .slice dcA dcs.length dcc, .slice dvA dvs.length dvc]) (t := 32)
    exact this
  replace X0 := X0.later bW4
  replace X2 := X2.later bW4
  replace X8 := X8.later bW4
  replace I8 := I8.later bW4
  replace I9 := I9.later bW4
  have BW4 : Below w.heap.size w W4 := BU3.trans (bW4.mono BU3.size)
  have HJ := Lib.hid (All_any False False.elim (scLeaf 3) none 0 [] W4 (scLeaf_in _ _ _) (.inl rfl) (by simp) (by simp) (fun _ => .inr (noP_leaf (by decide))))
  have l21 : W4.cell? ⟨w.heap.size, 0, none⟩ = some (.int .i64 3) := X0.2 0 _ rfl
  have l22 : W4.cell? ⟨w.heap.size, 1, none⟩ = some (.slice none 0 0) := X0.2 1 _ rfl
  go_wp2_with fail
  refine HJ.out.mono ?_
  clear HJ hW4
  rintro e U4 hr
  obtain ⟨⟨gn, gm, gsA, gsc, gss, gcA, gcc, gcs, gvA, gvc, gvs⟩, rfl, hge, hgi, bU4⟩ := retK_ok hr kn_j4
  have I11 := inn hgi
  have HG := Lib.hid hge
  simp only [val_mk]
  clear hr hgi hge
  clear l21 l22
  replace X0 := X0.later bU4
  replace X2 := X2.later bU4
  replace X8 := X8.later bU4
  replace X9 := X9.later bU4
  replace I8 := I8.later bU4
  replace I9 := I9.later bU4
  have BU4 : Below w.heap.size w U4 := BW4.trans (bU4.mono BW4.size)
  obtain ⟨W5, hW5⟩ : ∃ W5, (U4.alloc (.cells #[.int .u64 gn, .int .u64 gm, .slice gsA gss.length gsc, .slice gcA gcs.length gcc, .slice gvA gvs.length gvc] 32)) = W5 := ⟨_, rfl⟩
  have bW5 : Below U4.heap.size U4 W5 := by rw [← hW5]; exact belAl (Below.refl _ _)
  have X11 : Bxd W5 (U4.heap.size) #[.int .u64 gn, .int .u64 gm, .slice gsA gss.length gsc, .slice gcA gcs.length gcc, .slice gvA gvs.length gvc] := by
    rw [← hW5]
    have := V4.Bxd.new (W := U4) (cs := #[.int .u64 gn, .int .u64 gm, .slice gsA gss.length gsc, .slice gcA gcs.length gcc, .slice gvA gvs.length gvc]) (t := 32)
    exact this
  replace X0 := X0.later bW5
  replace X2 := X2.later bW5
  replace X8 := X8.later bW5
  replace X9 := X9.later bW5
  replace I8 := I8.later bW5
  replace I9 := I9.later bW5
  replace I11 := I11.later bW5
  have BW5 : Below w.heap.size w W5 := BU4.trans (bW5.mono BU4.size)
  have l23 : W5.cell? ⟨U1.heap.size, 0, none⟩ = some (.int .u64 0) := X2.2 0 _ rfl
  have l24 : W5.cell? ⟨U1.heap.size, 1, none⟩ = some (.int .u64 0) := X2.2 1 _ rfl
  have l25 : W5.cell? ⟨U1.heap.size, 2, none⟩ = some (.slice asA 2 asc) := X2.2 2 _ rfl
  have l26 : W5.cell? ⟨U1.heap.size, 3, none⟩ = some (.slice acA 0 acc) := X2.2 3 _ rfl
  have l27 : W5.cell? ⟨U1.heap.size, 4, none⟩ = some (.slice avA 0 avc) := X2.2 4 _ rfl
  have HI := Lib.hid (is_any 14 14 W5)
  rw [decide_eq_true rfl] at HI
  unfold errV at HI
  go_wp2_with fail
  refine HI.out.mono ?_
  clear HI hW5
  rintro e U5 ⟨rfl, bU5⟩
  clear l23 l24 l25 l26 l27
  clear X2
  replace X0 := X0.later bU5
  replace X8 := X8.later bU5
  replace X9 := X9.later bU5
  replace X11 := X11.later bU5
  replace I8 := I8.later bU5
  replace I9 := I9.later bU5
  replace I11 := I11.later bU5
  have BU5 : Below w.heap.size w U5 := BW5.trans (bU5.mono BW5.size)
  have HS := Lib.hid (V4.refSameV_any (Vl.mk dn dm dsA dsc dss dcA dcc dcs dvA dvc dvs) (vlCV 0 0 none [] (U2.heap.size + 1 + 1 + 1 + 1 + 1 + 1 + 1 + 1) [ckOne (U2.heap.size + 1 + 1 + 1 + 1 + 1 + 1 + 1) 1 2] (U2.heap.size + 1 + 1 + 1 + 1 + 1 + 1 + 1 + 1 + 1) [vlNum 3]) U5 I9 I8)
  rw [decide_eq_true (show (Vl.mk dn dm dsA dsc dss dcA dcc dcs dvA dvc dvs).er = (vlCV 0 0 none [] (U2.heap.size + 1 + 1 + 1 + 1 + 1 + 1 + 1 + 1) [ckOne (U2.heap.size + 1 + 1 + 1 + 1 + 1 + 1 + 1) 1 2] (U2.heap.size + 1 + 1 + 1 + 1 + 1 + 1 + 1 + 1 + 1) [vlNum 3]).er from HE.out)] at HS
  have l28 : U5.cell? ⟨U3.heap.size, 0, none⟩ = some (.int .u64 dn) := X9.2 0 _ rfl
  have l29 : U5.cell? ⟨U3.heap.size, 1, none⟩ = some (.int .u64 dm) := X9.2 1 _ rfl
  have l30 : U5.cell? ⟨U3.heap.size, 2, none⟩ = some (.slice dsA dss.length dsc) := X9.2 2 _ rfl
  have l31 : U5.cell? ⟨U3.heap.size, 3, none⟩ = some (.slice dcA dcs.length dcc) := X9.2 3 _ rfl
  have l32 : U5.cell? ⟨U3.heap.size, 4, none⟩ = some (.slice dvA dvs.length dvc) := X9.2 4 _ rfl
  have l33 : U5.cell? ⟨U2.heap.size + 1 + 1 + 1 + 1 + 1 + 1 + 1 + 1 + 1 + 1, 0, none⟩ = some (.int .u64 0) := X8.2 0 _ rfl
  have l34 : U5.cell? ⟨U2.heap.size + 1 + 1 + 1 + 1 + 1 + 1 + 1 + 1 + 1 + 1, 1, none⟩ = some (.int .u64 0) := X8.2 1 _ rfl
  have l35 : U5.cell? ⟨U2.heap.size + 1 + 1 + 1 + 1 + 1 + 1 + 1 + 1 + 1 + 1, 2, none⟩ = some (.slice none 0 0) := X8.2 2 _ rfl
  have l36 : U5.cell? ⟨U2.heap.size + 1 + 1 + 1 + 1 + 1 + 1 + 1 + 1 + 1 + 1, 3, none⟩ = some (.slice (some ⟨U2.heap.size + 1 + 1 + 1 + 1 + 1 + 1 + 1 + 1, 0, none⟩) 1 1) := X8.2 3 _ rfl
  have l37 : U5.cell? ⟨U2.heap.size + 1 + 1 + 1 + 1 + 1 + 1 + 1 + 1 + 1 + 1, 4, none⟩ = some (.slice (some ⟨U2.heap.size + 1 + 1 + 1 + 1 + 1 + 1 + 1 + 1 + 1, 0, none⟩) 1 1) := X8.2 4 _ rfl
  go_wp2_with fail
  refine HS.out.mono ?_
  clear HS
  rintro e U6 ⟨rfl, bU6⟩
  clear l28 l29 l30 l31 l32 l33 l34 l35 l36 l37
  clear X9 X8 I9 I8
  replace X0 := X0.later bU6
  replace X11 := X11.later bU6
  replace I11 := I11.later bU6
  have BU6 : Below w.heap.size w U6 := BU5.trans (bU6.mono BU5.size)
  have HN := Lib.hid (V4.refNone_any (scLeaf 3) (Vl.mk gn gm gsA gsc gss gcA gcc gcs gvA gvc gvs) U6 (scLeaf_in _ _ _) I11)
  rw [HG.out, decide_eq_true (show Va.zero = botT (scLeaf 3).er from (V4.botT_zero (by rw [S2.er_k]; simp [scLeaf, S2.Sc.k])).symm)] at HN
  have l38 : U6.cell? ⟨w.heap.size, 0, none⟩ = some (.int .i64 3) := X0.2 0 _ rfl
  have l39 : U6.cell? ⟨w.heap.size, 1, none⟩ = some (.slice none 0 0) := X0.2 1 _ rfl
  have l40 : U6.cell? ⟨U4.heap.size, 0, none⟩ = some (.int .u64 gn) := X11.2 0 _ rfl
  have l41 : U6.cell? ⟨U4.heap.size, 1, none⟩ = some (.int .u64 gm) := X11.2 1 _ rfl
  have l42 : U6.cell? ⟨U4.heap.size, 2, none⟩ = some (.slice gsA gss.length gsc) := X11.2 2 _ rfl
  have l43 : U6.cell? ⟨U4.heap.size, 3, none⟩ = some (.slice gcA gcs.length gcc) := X11.2 3 _ rfl
  have l44 : U6.cell? ⟨U4.heap.size, 4, none⟩ = some (.slice gvA gvs.length gvc) := X11.2 4 _ rfl
  go_wp2_with fail
  refine HN.out.mono ?_
  rintro e U7 ⟨rfl, bU7⟩
  go_wp2_with fail
  go_ret
  exact ⟨by simp, BU6.trans (bU7.mono BU6.size)⟩

end Go.Proofs.YtleejffjnknohaaGreat.J5
