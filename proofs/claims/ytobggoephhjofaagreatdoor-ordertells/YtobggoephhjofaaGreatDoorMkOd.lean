/- OrderTellsCardSaid is proved: at every input the law returns true, and each argument reads afterwards as it read before; what it lists of package-level variables is tied to the program's text. No condition. -/
import Derived.Test.YtobggoephhjofaaGreatDoorMk38
import Derived.Test.YtobggoephhjofaaGreatDoorTie
import Derived.Test.YtobggoephhjofaaGreatDoorCards
import Derived.SevenTiedAt
set_option maxRecDepth 100000
set_option maxHeartbeats 16000000
namespace Go.Proofs.YtobggoephhjofaaGreatDoor
section
open Go.ChangeShapes Go.WideShapes Go.ChangeAt Go.RowKit
open S2 (Sc jl7)
open V4 (Vl jyt jgu)
theorem jys(os:Os)(started:os.Started)(H:Type)(enc:TypeId×Value->H):ReturnsInHanded {} Tryz.checked os 4 .any (fun w args=>(Rows.orderTellsSpec.pre enc Tryz.prog Tryz.f4 [] false w args/\laidMetH Tryz.prog J5.jo6 w)/\sizedMet enc Tryz.prog Tryz.f4 (OpenSpec.ofChange Rows.orderTellsSpec) false w args) (Rows.orderTellsSpec.post enc Tryz.prog Tryz.f4 false true false false):=by
 refine returnsInHanded_of_change_and (C:=Tryz.checked) (X:=fun w _=>laidMetH Tryz.prog J5.jo6 w) (fun _ _ _ hh h=>h.of_heap hh) (by kernel_rfl) started (by kernel_rfl) Tryz.func4
   (ChangeSpec.witness_at (enc:=enc) (C:=Tryz.checked) (os:=os) (X:=fun w _=>laidMetH Tryz.prog J5.jo6 w) false (J5.laidWorld os) #[.agg #[.int .i64 0,.slice none 0 0],.agg #[.int .u64 0,.int .u64 0,.slice none 0 0,.slice none 0 0,.slice none 0 0],.agg #[.int .u64 0,.int .u64 0,.slice none 0 0,.slice none 0 0,.slice none 0 0]] 8 rfl (by kernel_rfl) (by kernel_rfl) (by kernel_rfl) (by kernel_rfl) (by kernel_rfl) (J5.jm0 os _)) ?_
 intro W base args ds gs before pB hW _ oD hL _;have oB:∀ (j:Nat) t v,Tryz.f4.params[j]?=some t->args[j]?=some v->Value.okWide Tryz.prog W .any base t v:=pB
 have ae:(DataW.weightsEach Tryz.prog (Tryz.f4.params.toList++Rows.orderTellsSpec.plain.varTypes Tryz.prog) (ds++gs)).all (·<=reachBytes)=true:=oD;have vD:=J5.jp3 hL;have tD:=hW;obtain⟨p,q,hA0,hV,rfl,_,_⟩:=hW;have hA:DataW.TrodAll enc Tryz.prog W 0 (fun _=>true) true Tryz.f4.params.toList args.toList ds p:=hA0;rw[Tryz.params4] at hA oB ae;obtain⟨v0,vs0,d0,ds0,p0,q0,hargs,rfl,rfl,h0,r0⟩:=trodAll_cons hA;obtain⟨v1,vs1,d1,ds1,p1,q1,rfl,rfl,rfl,h1,r1⟩:=trodAll_cons r0;obtain⟨v2,vs2,d2,ds2,p2,q2,rfl,rfl,rfl,h2,r2⟩:=trodAll_cons r1;obtain⟨rfl,rfl,rfl⟩:=trodAll_nil r2;obtain rfl:args=#[v0,v1,v2]:=by cases args;simp_all
 obtain⟨rfl,rfl⟩:=trodVars_none hV;have lt0:∀ x∈p0,x.block<W.heap.size:=by obtain⟨m,hm⟩:=h0;exact DataW.trod_lt m _ _ _ hm
 have lt1:∀ x∈p1,x.block<W.heap.size:=by obtain⟨m,hm⟩:=h1;exact DataW.trod_lt m _ _ _ hm
 have lt2:∀ x∈p2,x.block<W.heap.size:=by obtain⟨m,hm⟩:=h2;exact DataW.trod_lt m _ _ _ hm
 have hw0:∀ n∈d0.weights Tryz.prog 24,n<=reachBytes:=fun n hn=>by simpa using List.all_eq_true.1 ae n (DataW.weights_mem_each (j:=0) (t:=24) rfl rfl n hn)
 obtain⟨x0,rfl,cU⟩:=jl7 (oB 0 24 v0 rfl rfl) h0 hw0;have oz:∀ n∈d1.weights Tryz.prog 30,n<=reachBytes:=fun n hn=>by simpa using List.all_eq_true.1 ae n (DataW.weights_mem_each (j:=1) (t:=30) rfl rfl n hn)
 obtain⟨x1,rfl,eG⟩:=jyt (oB 1 30 v1 rfl rfl) h1 oz;have hw2:∀ n∈d2.weights Tryz.prog 30,n<=reachBytes:=fun n hn=>by simpa using List.all_eq_true.1 ae n (DataW.weights_mem_each (j:=2) (t:=30) rfl rfl n hn)
 obtain⟨x2,rfl,ux⟩:=jyt (oB 2 30 v2 rfl rfl) h2 hw2;clear hA0 pB oD;simp only[List.append_nil] at tD;refine (J5.jpv x0 x1 x2 W cU eG ux vD).mono fun e W' ⟨he,bel⟩=>?_
 subst he;exact⟨_,rfl,_,_,_,[],_,[],tD,trodAll_mk1 (shut_bool Tryz.underlying4 _),(trodAll_cons_mk (Below.trod (by kernel_rfl) (by kernel_rfl) (of_decide_eq_true (by kernel_rfl)) h0 bel lt0) (trodAll_cons_mk (Below.trod (by kernel_rfl) (by kernel_rfl) (of_decide_eq_true (by kernel_rfl)) h1 bel lt1) (trodAll_cons_mk (Below.trod (by kernel_rfl) (by kernel_rfl) (of_decide_eq_true (by kernel_rfl)) h2 bel lt2) trodAll_mk0))),rfl,bel.frame _,fun h=>by cases h⟩
theorem orderTells_holds:Rows.OrderTellsSaid :=
  OpenClaim.holds_of_wide 4 Tryz.f4 rfl rfl rfl rfl rfl rfl rfl ⟨rfl,rfl,rfl,rfl,rfl⟩ rfl rfl rfl rfl rfl (by kernel_rfl) Tryz.func4 (by kernel_rfl)
    (of_decide_eq_true (by kernel_rfl)) (by unfold Func.isWrapper;first | (rw[if_pos (by decide +kernel)];kernel_rfl) | (rw[if_neg (by decide +kernel)];exact⟨rfl,rfl⟩))
    (fun os started H enc _=>jys os started H enc)
theorem jbn : Tryz.prog.funcNamed "trefoil/trefoillaw6.OrderTells" = some 4 := by kernel_rfl
theorem orderTells_card:Rows.OrderTellsCardSaid :=
  Claim7.holds_tied_plain_at .later [] [.handle] true Rows.orderTellsCard.stood.harness true
    orderTells_holds (fun _ h=>by cases h) (by kernel_rfl) (fun _ h=>by cases h) orderTells_row_tie rfl ⟨rfl,rfl⟩ (by kernel_rfl) rfl
    (fun f fn hf hfn=>by
      obtain rfl:f=4:=(Option.some.inj (jbn.symm.trans hf)).symm
      obtain rfl:fn=Tryz.f4:=(Option.some.inj (Tryz.func4.symm.trans hfn)).symm
      exact⟨by kernel_rfl,fun j t ht=>by
        rw[Tryz.params4] at ht
        have h3:t∈[24,30,30]:=by simpa using Array.mem_of_getElem? ht
        simp only[List.mem_cons,List.not_mem_nil,or_false] at h3
        rcases h3 with rfl | rfl | rfl
        · exact (show Tryz.prog.wantsStandIn 24=false by kernel_rfl)
        · exact (show Tryz.prog.wantsStandIn 30=false by kernel_rfl)
        · exact (show Tryz.prog.wantsStandIn 30=false by kernel_rfl)⟩)
    (by kernel_rfl)
end
end Go.Proofs.YtobggoephhjofaaGreatDoor
