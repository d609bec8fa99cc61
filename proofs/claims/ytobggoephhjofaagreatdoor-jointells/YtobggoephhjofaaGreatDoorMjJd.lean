/- JoinTellsCardSaid is proved: at every input the law returns true, and each argument reads afterwards as it read before; what it lists of package-level variables is tied to the program's text. No condition. -/
import Derived.Test.YtobggoephhjofaaGreatDoorMj38
import Derived.Test.YtobggoephhjofaaGreatDoorTie
import Derived.Test.YtobggoephhjofaaGreatDoorCards
import Derived.SevenTiedAt
set_option maxRecDepth 100000
set_option maxHeartbeats 16000000
namespace Go.Proofs.YtobggoephhjofaaGreatDoor
section
open Go.ChangeShapes Go.WideShapes Go.ChangeAt Go.RowKit
open S2 (Sc jl2)
open V4 (Vl jym jvb)
theorem jbl(os:Os)(started:os.Started)(H:Type)(enc:TypeId×Value->H):ReturnsInHanded {} Tryz.checked os 3 .any (fun w args=>(Rows.joinTellsSpec.pre enc Tryz.prog Tryz.f3 [] false w args/\laidMetH Tryz.prog J5.joy w)/\sizedMet enc Tryz.prog Tryz.f3 (OpenSpec.ofChange Rows.joinTellsSpec) false w args) (Rows.joinTellsSpec.post enc Tryz.prog Tryz.f3 false true false false):=by
 refine returnsInHanded_of_change_and (C:=Tryz.checked) (X:=fun w _=>laidMetH Tryz.prog J5.joy w) (fun _ _ _ hh h=>h.of_heap hh) (by kernel_rfl) started (by kernel_rfl) Tryz.func3
   (ChangeSpec.witness_at (enc:=enc) (C:=Tryz.checked) (os:=os) (X:=fun w _=>laidMetH Tryz.prog J5.joy w) false (J5.laidWorld os) #[.agg #[.int .i64 0,.slice none 0 0],.agg #[.int .u64 0,.int .u64 0,.slice none 0 0,.slice none 0 0,.slice none 0 0],.agg #[.int .u64 0,.int .u64 0,.slice none 0 0,.slice none 0 0,.slice none 0 0],.slice none 0 0] 8 rfl (by kernel_rfl) (by kernel_rfl) (by kernel_rfl) (by kernel_rfl) (by kernel_rfl) (J5.jmw os _)) ?_
 intro W base args ds gs before hval0 hW _ hsz0 hL _;have hval:∀ (j:Nat) t v,Tryz.f3.params[j]?=some t->args[j]?=some v->Value.okWide Tryz.prog W .any base t v:=hval0
 have hsz:(DataW.weightsEach Tryz.prog (Tryz.f3.params.toList++Rows.joinTellsSpec.plain.varTypes Tryz.prog) (ds++gs)).all (·<=reachBytes)=true:=hsz0;have hlaid:=J5.jpy hL;have hW':=hW;obtain⟨p,q,hA0,hV,rfl,_,_⟩:=hW;have hA:DataW.TrodAll enc Tryz.prog W 0 (fun _=>true) true Tryz.f3.params.toList args.toList ds p:=hA0;rw[Tryz.params3] at hA hval hsz;obtain⟨v0,vs0,d0,ds0,p0,q0,hargs,rfl,rfl,h0,r0⟩:=trodAll_cons hA;obtain⟨v1,vs1,d1,ds1,p1,q1,rfl,rfl,rfl,h1,r1⟩:=trodAll_cons r0;obtain⟨v2,vs2,d2,ds2,p2,q2,rfl,rfl,rfl,h2,r2⟩:=trodAll_cons r1;obtain⟨v3,vs3,d3,ds3,p3,q3,rfl,rfl,rfl,h3,r3⟩:=trodAll_cons r2;obtain⟨rfl,rfl,rfl⟩:=trodAll_nil r3;obtain rfl:args=#[v0,v1,v2,v3]:=by cases args;simp_all
 obtain⟨rfl,rfl⟩:=trodVars_none hV;have lt0:∀ x∈p0,x.block<W.heap.size:=by obtain⟨m,hm⟩:=h0;exact DataW.trod_lt m _ _ _ hm
 have lt1:∀ x∈p1,x.block<W.heap.size:=by obtain⟨m,hm⟩:=h1;exact DataW.trod_lt m _ _ _ hm
 have lt2:∀ x∈p2,x.block<W.heap.size:=by obtain⟨m,hm⟩:=h2;exact DataW.trod_lt m _ _ _ hm
 have lt3:∀ x∈p3,x.block<W.heap.size:=by obtain⟨m,hm⟩:=h3;exact DataW.trod_lt m _ _ _ hm
 have hw0:∀ n∈d0.weights Tryz.prog 24,n<=reachBytes:=fun n hn=>by simpa using List.all_eq_true.1 hsz n (DataW.weights_mem_each (j:=0) (t:=24) rfl rfl n hn)
 obtain⟨x0,rfl,hx0⟩:=jl2 (hval 0 24 v0 rfl rfl) h0 hw0;have hw1:∀ n∈d1.weights Tryz.prog 30,n<=reachBytes:=fun n hn=>by simpa using List.all_eq_true.1 hsz n (DataW.weights_mem_each (j:=1) (t:=30) rfl rfl n hn)
 obtain⟨x1,rfl,hx1⟩:=jym (hval 1 30 v1 rfl rfl) h1 hw1;have hw2:∀ n∈d2.weights Tryz.prog 30,n<=reachBytes:=fun n hn=>by simpa using List.all_eq_true.1 hsz n (DataW.weights_mem_each (j:=2) (t:=30) rfl rfl n hn)
 obtain⟨x2,rfl,hx2⟩:=jym (hval 2 30 v2 rfl rfl) h2 hw2;have hw3:∀ n∈d3.weights Tryz.prog 28,n<=reachBytes:=fun n hn=>by simpa using List.all_eq_true.1 hsz n (DataW.weights_mem_each (j:=3) (t:=28) rfl rfl n hn)
 obtain⟨A,c,l,rfl,hl,hb,hv⟩:∃ (A:Option Addr) (c:Nat) (l:List Vl),v3 = .slice A l.length c/\V4.jzr (fun b=>b<W.heap.size) W A (V4.jzk l)/\(l.length<=c/\c<=maxLen/\l.length*88<=140737488351232)/\∀ x∈l,x.In W:=by (
 obtain⟨A,n,c,rfl⟩:=okWide_slice Tryz.underlying28 (hval 3 28 v3 rfl rfl);obtain⟨fuel,hf⟩:=h3;exact jvb (enc:=enc) (SizeOf.sizeOf d3+1) d3 fuel _ p3 (by omega) (by simpa[Value.cells] using hf) hw3)
 clear hA0 hval0 hsz0;simp only[List.append_nil] at hW';refine (J5.jmy x0 x1 x2 A c l W hx0 hx1 hx2 hl hv (by have:=hb.1;have:=hb.2.1;unfold maxLen at this;omega) hlaid).mono fun e W' ⟨he,bel⟩=>?_
 subst he;exact⟨_,rfl,_,_,_,[],_,[],hW',trodAll_mk1 (shut_bool Tryz.underlying4 _),(trodAll_cons_mk (Below.trod (by kernel_rfl) (by kernel_rfl) (of_decide_eq_true (by kernel_rfl)) h0 bel lt0) (trodAll_cons_mk (Below.trod (by kernel_rfl) (by kernel_rfl) (of_decide_eq_true (by kernel_rfl)) h1 bel lt1) (trodAll_cons_mk (Below.trod (by kernel_rfl) (by kernel_rfl) (of_decide_eq_true (by kernel_rfl)) h2 bel lt2) (trodAll_cons_mk (Below.trod (by kernel_rfl) (by kernel_rfl) (of_decide_eq_true (by kernel_rfl)) h3 bel lt3) trodAll_mk0)))),rfl,bel.frame _,fun h=>by cases h⟩
theorem joinTells_holds:Rows.JoinTellsSaid :=
  OpenClaim.holds_of_wide 3 Tryz.f3 rfl rfl rfl rfl rfl rfl rfl ⟨rfl,rfl,rfl,rfl,rfl⟩ rfl rfl rfl rfl rfl (by kernel_rfl) Tryz.func3 (by kernel_rfl)
    (of_decide_eq_true (by kernel_rfl)) (by unfold Func.isWrapper;first | (rw[if_pos (by decide +kernel)];kernel_rfl) | (rw[if_neg (by decide +kernel)];exact⟨rfl,rfl⟩))
    (fun os started H enc _=>jbl os started H enc)
theorem jgy : Tryz.prog.funcNamed "trefoil/trefoillaw5.JoinTells" = some 3 := by kernel_rfl
theorem joinTells_card:Rows.JoinTellsCardSaid :=
  Claim7.holds_tied_plain_at .later [] [.handle] true Rows.joinTellsCard.stood.harness true
    joinTells_holds (fun _ h=>by cases h) (by kernel_rfl) (fun _ h=>by cases h) joinTells_row_tie rfl ⟨rfl,rfl⟩ (by kernel_rfl) rfl
    (fun f fn hf hfn=>by
      obtain rfl:f=3:=(Option.some.inj (jgy.symm.trans hf)).symm
      obtain rfl:fn=Tryz.f3:=(Option.some.inj (Tryz.func3.symm.trans hfn)).symm
      exact⟨by kernel_rfl,fun j t ht=>by
        rw[Tryz.params3] at ht
        have h3:t∈[24,30,30,28]:=by simpa using Array.mem_of_getElem? ht
        simp only[List.mem_cons,List.not_mem_nil,or_false] at h3
        rcases h3 with rfl | rfl | rfl | rfl
        · exact (show Tryz.prog.wantsStandIn 24=false by kernel_rfl)
        · exact (show Tryz.prog.wantsStandIn 30=false by kernel_rfl)
        · exact (show Tryz.prog.wantsStandIn 30=false by kernel_rfl)
        · exact (show Tryz.prog.wantsStandIn 28=false by kernel_rfl)⟩)
    (by kernel_rfl)
end
end Go.Proofs.YtobggoephhjofaaGreatDoor
