/- A part. No condition. -/
import Derived.Test.YtobggoephhjofaaGreatDoorMj10
set_option maxRecDepth 100000
set_option maxHeartbeats 16000000
namespace Go.Proofs.YtobggoephhjofaaGreatDoor
namespace V4
open Go.RowKit Go.Shelf
open S2 (Sc jxv jzf jzx)
open C3 (jzj)
attribute [local go_sem] Oper.semAt_some
end V4
namespace V4
open Go.RowKit Go.Shelf
open S2 (Sc jxv jzf jzx)
open C3 (jzj)
attribute [local go_sem] Oper.semAt_some
def InT(w:World)(x:Sc×Vl):Prop:=x.1.In w.heap.size w/\x.2.In w
def InC(w:World)(x:Ck):Prop:=x.Inp (fun b=>b<w.heap.size) w
theorem InT.later{w w':World}{x:Sc×Vl}(h:InT w x)(hb:Below w.heap.size w w'):InT w' x:=⟨h.1.later hb,h.2.later hb⟩
theorem InC.later{w w':World}{x:Ck}(h:InC w x)(hb:Below w.heap.size w w'):InC w' x:=(Ck.Inp.keep h fun b hlt=>hb.block b hlt).mono fun _ hlt=>ltl hlt hb.size
theorem jqx{α:Type}{p:α->Bool}{zs:List α}{k:Nat}{x:α}(hx:zs[k]?=some x):(zs.take (k+1)).all p=((zs.take k).all p && p x):=by
 obtain⟨hk,he⟩:=List.getElem?_eq_some_iff.1 hx;rw[List.take_succ_eq_append_getElem hk,he,List.all_append];simp
theorem jwn{α:Type}{p:α->Bool}{zs:List α}{k:Nat}{x:α}(hx:zs[k]?=some x)(hp:p x=false):zs.all p=false:=by
 refine Bool.eq_false_iff.2 fun h=>?_
 have:=List.all_eq_true.1 h x (List.mem_of_getElem? hx);rw[hp] at this;cases this
theorem jdx(p:Sc×Vl->Bool)(zs:List (Sc×Vl))(hf:∀ x∈zs,∀ W,InT W x->Calls Tryz.prog 39 #[jwz x] W (jqd W (.bool (p x))))(ok:Sc×Vl->Prop)(hok:∀ x∈zs,p x=true->ok x)(g:Nat)(lb:Array Value)(eg:Enters Tryz.prog g)(w:World)(hseq:∀ D w2,Below w.heap.size w w2->w.heap.size<=D->D<w2.heap.size->jtu Tryz.prog g lb jjb D ok zs w2)(hmem:∀ x∈zs,InT w x):Calls Tryz.prog 36 #[.func (.func g) #[] lb,.func (.func 39) #[] #[]] w (jqd w (.bool (zs.all p))):=by
 have HF:=Lh hf;have HOK:=Lh hok;have HE:=Lh eg;have HS:=Lh hseq;have HM:=Lh hmem;clear hf hok eg hseq hmem;refine (callsIn_wide (n:=6)).1 (callsIn_of_wp_marks Tryz.func36 rfl trivial ?_ rfl);simp only[Tryz.ntmps36,List.size_toArray,List.length_cons,List.length_nil,Nat.reduceAdd,Nat.reduceSub,Array.replicate_succ,Array.replicate_zero,List.push_toArray,List.append_toArray,List.nil_append,List.cons_append];gi_wp2_with fail
 obtain⟨V,hV⟩:=exq ((w.alloc (.cells #[.func (.func 39) #[] #[]] 81)).alloc (.cells #[.bool false] 4));have hB0:Below w.heap.size w V:=by rw[<- hV];exact jzj (jzj (Below.refl _ _))
 have hsz:V.heap.size=w.heap.size+2:=by rw[<- hV];simp
 have bR:Boxed V (w.heap.size+1) 4 (.bool false):=by (
 have:=Boxed.new (w.alloc (.cells #[.func (.func 39) #[] #[]] 81)) 4 (.bool false);rw[World.size_alloc,hV] at this;exact this)
 have cI:V.cell? ⟨w.heap.size,0,none⟩=some (.func (.func 39) #[] #[]):=by (
 rw[<- hV];exact ((jju (Below.refl (w.heap.size+1) (w.alloc (.cells #[.func (.func 39) #[] #[]] 81))) (by simp)).cell (p:=⟨w.heap.size,0,none⟩) (by simp)).trans (jz0 0 _ rfl))
 rw[hV];clear hV;refine jwf rfl HE.out (HS.out (w.heap.size+1) V hB0 (by omega) (by omega)) (fun _=>rfl)
   (fun k X=>(Boxed X (w.heap.size+1) 4 (.bool false)/\Below w.heap.size w X)/\X.cell? ⟨w.heap.size,0,none⟩=some (.func (.func 39) #[] #[])/\(zs.take k).all p=true)
   (fun c _ X=>(Boxed X (w.heap.size+1) 4 (.bool false)/\Below w.heap.size w X)/\c = .ret/\zs.all p=false)
   (fun k X Y ⟨⟨h1,h2⟩,h3,h4⟩ hb=>⟨⟨(hb.block _ (by omega)).trans h1,h2.trans (hb.mono (by omega))⟩,(hb.cell (p:=⟨w.heap.size,0,none⟩) (by simp only;omega)).trans h3,h4⟩)
   (fun c k X Y ⟨⟨h1,h2⟩,h3⟩ hb=>⟨⟨(hb.block _ (by omega)).trans h1,h2.trans (hb.mono (by omega))⟩,h3⟩)
   ⟨⟨bR,hB0⟩,cI,rfl⟩
   (fun y a' X=>∃ bp,a'={ tmps:=#[.func (.func g) #[] lb,.func (.func 39) #[] #[],undef,.pointer (some ⟨w.heap.size,0,none⟩),.pointer (some ⟨w.heap.size+1,0,none⟩),.pointer (some ⟨bp,0,none⟩),.func (.func g) #[] lb,jwz y,undef,undef,undef,undef],defers:=[] }/\∀ i v,(jzv y)[i]?=some v->X.cell? ⟨bp,i,none⟩=some v)
   ?ax ?assign ?body ?done ?stop
 case ax=>(
 rintro y a' _ X Y row ⟨bp,h1,h2⟩ hg hr;exact⟨bp,h1,fun i v h=>cell_kept (h2 i v h) hg (fun r e=>(hr r e).2)⟩)
 case assign=>(
 intro l2 k y X K _ _ hK;obtain⟨⟨yk,yA,yc,yl⟩,yn,ym,yK,yL,yN,yO,yP,yQ,yR,yS,yT⟩:=y;unfold jjb;simp only[jwz,jzv,Sc.k,Sc.v1,Vl.n,Vl.m,Vl.s1,Vl.c1,Vl.v1];gi_wp2
 exact hK _ _ (jzf _ _) ⟨X.heap.size,rfl,fun i v h=>jz0 i v h⟩)
 case body=>(
 rintro l2 k y a' X hXs hx ⟨⟨h1,h2⟩,h3,h4⟩ ⟨bp,rfl,hc⟩;have HX:=Lh hx;have hb:=h2;have hcl:=h1.cell;have hcf:=h1.frozen;have HR:=Lh (HF.out y (List.mem_of_getElem? hx) X ((HM.out y (List.mem_of_getElem? hx)).later h2));obtain⟨q,hq⟩:=exq (p y);have HQ:=Lh hq;have HP:=Lh h4;rw[hq] at HR;clear hx hq h4;obtain⟨⟨yk,yA,yc,yl⟩,yn,ym,yK,yL,yN,yO,yP,yQ,yR,yS,yT⟩:=y;have e0:=hc 0 _ rfl;have e1:=hc 1 _ rfl;have e2:=hc 2 _ rfl;have e3:=hc 3 _ rfl;have e4:=hc 4 _ rfl;have e5:=hc 5 _ rfl;have e6:=hc 6 _ rfl;simp only[jwz,jzv,Sc.k,Sc.v1,Vl.n,Vl.m,Vl.s1,Vl.c1,Vl.v1] at e0 e1 e2 e3 e4 e5 e6 HR ⊢;clear hc;gi_wp2_with fail
 refine⟨trivial,rfl,(CallsIn.inRound l2 (callsIn_wide.2 HR.out)).mono ?_⟩;clear HR e0 e1 e2 e3 e4 e5 e6;rintro e X5 ⟨rfl,hb5⟩;have g1:Boxed X5 (w.heap.size+1) 4 (.bool false):=(hb5.block _ (by omega)).trans h1;have g3:=(hb5.cell (p:=⟨w.heap.size,0,none⟩) (by simp only;omega)).trans h3;have hB5:Below w.heap.size w X5:=h2.trans (hb5.mono h2.size);cases q with
 | true=>(
 gi_wp2_with fail
 exact⟨KN.of_below hb5,⟨⟨g1,hB5⟩,g3,by rw[jqx HX.out,HP.out,HQ.out];rfl⟩,HOK.out _ (List.mem_of_getElem? HX.out) HQ.out⟩)
 | false=>(
 have hcl5:=g1.cell;have hcf5:=g1.frozen;gi_wp2_with fail
 exact⟨(KF.of_below hb5).trans (KF.set (by omega) _),⟨g1.set _,hB5.setCell (by first | omega | (simp;omega) | simp) _⟩,rfl,jwn HX.out HQ.out⟩))
 case done=>(
 rintro E X hE ⟨⟨hR,hB⟩,-,hp⟩ hK;have hcl:=hR.cell;have hcf:=hR.frozen;rw[List.take_length] at hp;have HP:=Lh hp;clear hp;gi_wp2
 have hne:w.heap.size+1≠E:=by omega
 have hK2:(X.setCell ⟨w.heap.size+1,0,none⟩ (.bool true)).heap[E]?=some (.deferred (some [])):=(Below.heap_setCell _ _ _ _ (Ne.symm hne)).trans hK;refine⟨by simp,.inl ⟨_,_,rfl,run_takeDeferred hK2,?_⟩⟩;refine⟨_,jzx rfl rfl _ _ (w.heap.size+1) (.bool true) rfl ((World.cell?_of_block (World.putObj_heap_other hne)).trans (hR.set (.bool true)).cell),?_⟩;rw[HP.out];exact⟨rfl,(hB.setCell (by first | omega | (simp;omega) | simp) _).trans ⟨rfl,rfl,rfl,by simp,fun q hq=>World.putObj_heap_other (by omega)⟩⟩)
 case stop=>(
 rintro E c k X hE hk ⟨⟨hR,hB⟩,rfl,hp⟩ hK;have hcl:=hR.cell;have HP:=Lh hp;clear hp;gi_wp2
 have hne:w.heap.size+1≠E:=by omega
 refine⟨by simp,.inl ⟨_,_,rfl,run_takeDeferred hK,?_⟩⟩;refine⟨_,jzx rfl rfl _ _ (w.heap.size+1) (.bool false) rfl ((World.cell?_of_block (World.putObj_heap_other hne)).trans hcl),?_⟩;rw[HP.out];exact⟨rfl,hB.trans ⟨rfl,rfl,rfl,by simp,fun q hq=>World.putObj_heap_other (by omega)⟩⟩)
theorem jcp(p:Sc×Vl->Bool)(zs:List (Sc×Vl))(hf:∀ x∈zs,∀ W,InT W x->Calls Tryz.prog 161 #[jwz x] W (jqd W (.bool (p x))))(ok:Sc×Vl->Prop)(hok:∀ x∈zs,p x=true->ok x)(g:Nat)(lb:Array Value)(eg:Enters Tryz.prog g)(w:World)(hseq:∀ D w2,Below w.heap.size w w2->w.heap.size<=D->D<w2.heap.size->jtu Tryz.prog g lb jjb D ok zs w2)(hmem:∀ x∈zs,InT w x):Calls Tryz.prog 36 #[.func (.func g) #[] lb,.func (.func 161) #[] #[]] w (jqd w (.bool (zs.all p))):=by
 have HF:=Lh hf;have HOK:=Lh hok;have HE:=Lh eg;have HS:=Lh hseq;have HM:=Lh hmem;clear hf hok eg hseq hmem;refine (callsIn_wide (n:=6)).1 (callsIn_of_wp_marks Tryz.func36 rfl trivial ?_ rfl);simp only[Tryz.ntmps36,List.size_toArray,List.length_cons,List.length_nil,Nat.reduceAdd,Nat.reduceSub,Array.replicate_succ,Array.replicate_zero,List.push_toArray,List.append_toArray,List.nil_append,List.cons_append];gi_wp2_with fail
 obtain⟨V,hV⟩:=exq ((w.alloc (.cells #[.func (.func 161) #[] #[]] 81)).alloc (.cells #[.bool false] 4));have hB0:Below w.heap.size w V:=by rw[<- hV];exact jzj (jzj (Below.refl _ _))
 have hsz:V.heap.size=w.heap.size+2:=by rw[<- hV];simp
 have bR:Boxed V (w.heap.size+1) 4 (.bool false):=by (
 have:=Boxed.new (w.alloc (.cells #[.func (.func 161) #[] #[]] 81)) 4 (.bool false);rw[World.size_alloc,hV] at this;exact this)
 have cI:V.cell? ⟨w.heap.size,0,none⟩=some (.func (.func 161) #[] #[]):=by (
 rw[<- hV];exact ((jju (Below.refl (w.heap.size+1) (w.alloc (.cells #[.func (.func 161) #[] #[]] 81))) (by simp)).cell (p:=⟨w.heap.size,0,none⟩) (by simp)).trans (jz0 0 _ rfl))
 rw[hV];clear hV;refine jwf rfl HE.out (HS.out (w.heap.size+1) V hB0 (by omega) (by omega)) (fun _=>rfl)
   (fun k X=>(Boxed X (w.heap.size+1) 4 (.bool false)/\Below w.heap.size w X)/\X.cell? ⟨w.heap.size,0,none⟩=some (.func (.func 161) #[] #[])/\(zs.take k).all p=true)
   (fun c _ X=>(Boxed X (w.heap.size+1) 4 (.bool false)/\Below w.heap.size w X)/\c = .ret/\zs.all p=false)
   (fun k X Y ⟨⟨h1,h2⟩,h3,h4⟩ hb=>⟨⟨(hb.block _ (by omega)).trans h1,h2.trans (hb.mono (by omega))⟩,(hb.cell (p:=⟨w.heap.size,0,none⟩) (by simp only;omega)).trans h3,h4⟩)
   (fun c k X Y ⟨⟨h1,h2⟩,h3⟩ hb=>⟨⟨(hb.block _ (by omega)).trans h1,h2.trans (hb.mono (by omega))⟩,h3⟩)
   ⟨⟨bR,hB0⟩,cI,rfl⟩
   (fun y a' X=>∃ bp,a'={ tmps:=#[.func (.func g) #[] lb,.func (.func 161) #[] #[],undef,.pointer (some ⟨w.heap.size,0,none⟩),.pointer (some ⟨w.heap.size+1,0,none⟩),.pointer (some ⟨bp,0,none⟩),.func (.func g) #[] lb,jwz y,undef,undef,undef,undef],defers:=[] }/\∀ i v,(jzv y)[i]?=some v->X.cell? ⟨bp,i,none⟩=some v)
   ?ax ?assign ?body ?done ?stop
 case ax=>(
 rintro y a' _ X Y row ⟨bp,h1,h2⟩ hg hr;exact⟨bp,h1,fun i v h=>cell_kept (h2 i v h) hg (fun r e=>(hr r e).2)⟩)
 case assign=>(
 intro l2 k y X K _ _ hK;obtain⟨⟨yk,yA,yc,yl⟩,yn,ym,yK,yL,yN,yO,yP,yQ,yR,yS,yT⟩:=y;unfold jjb;simp only[jwz,jzv,Sc.k,Sc.v1,Vl.n,Vl.m,Vl.s1,Vl.c1,Vl.v1];gi_wp2
 exact hK _ _ (jzf _ _) ⟨X.heap.size,rfl,fun i v h=>jz0 i v h⟩)
 case body=>(
 rintro l2 k y a' X hXs hx ⟨⟨h1,h2⟩,h3,h4⟩ ⟨bp,rfl,hc⟩;have HX:=Lh hx;have hb:=h2;have hcl:=h1.cell;have hcf:=h1.frozen;have HR:=Lh (HF.out y (List.mem_of_getElem? hx) X ((HM.out y (List.mem_of_getElem? hx)).later h2));obtain⟨q,hq⟩:=exq (p y);have HQ:=Lh hq;have HP:=Lh h4;rw[hq] at HR;clear hx hq h4;obtain⟨⟨yk,yA,yc,yl⟩,yn,ym,yK,yL,yN,yO,yP,yQ,yR,yS,yT⟩:=y;have e0:=hc 0 _ rfl;have e1:=hc 1 _ rfl;have e2:=hc 2 _ rfl;have e3:=hc 3 _ rfl;have e4:=hc 4 _ rfl;have e5:=hc 5 _ rfl;have e6:=hc 6 _ rfl;simp only[jwz,jzv,Sc.k,Sc.v1,Vl.n,Vl.m,Vl.s1,Vl.c1,Vl.v1] at e0 e1 e2 e3 e4 e5 e6 HR ⊢;clear hc;gi_wp2_with fail
 refine⟨trivial,rfl,(CallsIn.inRound l2 (callsIn_wide.2 HR.out)).mono ?_⟩;clear HR e0 e1 e2 e3 e4 e5 e6;rintro e X5 ⟨rfl,hb5⟩;have g1:Boxed X5 (w.heap.size+1) 4 (.bool false):=(hb5.block _ (by omega)).trans h1;have g3:=(hb5.cell (p:=⟨w.heap.size,0,none⟩) (by simp only;omega)).trans h3;have hB5:Below w.heap.size w X5:=h2.trans (hb5.mono h2.size);cases q with
 | true=>(
 gi_wp2_with fail
 exact⟨KN.of_below hb5,⟨⟨g1,hB5⟩,g3,by rw[jqx HX.out,HP.out,HQ.out];rfl⟩,HOK.out _ (List.mem_of_getElem? HX.out) HQ.out⟩)
 | false=>(
 have hcl5:=g1.cell;have hcf5:=g1.frozen;gi_wp2_with fail
 exact⟨(KF.of_below hb5).trans (KF.set (by omega) _),⟨g1.set _,hB5.setCell (by first | omega | (simp;omega) | simp) _⟩,rfl,jwn HX.out HQ.out⟩))
 case done=>(
 rintro E X hE ⟨⟨hR,hB⟩,-,hp⟩ hK;have hcl:=hR.cell;have hcf:=hR.frozen;rw[List.take_length] at hp;have HP:=Lh hp;clear hp;gi_wp2
 have hne:w.heap.size+1≠E:=by omega
 have hK2:(X.setCell ⟨w.heap.size+1,0,none⟩ (.bool true)).heap[E]?=some (.deferred (some [])):=(Below.heap_setCell _ _ _ _ (Ne.symm hne)).trans hK;refine⟨by simp,.inl ⟨_,_,rfl,run_takeDeferred hK2,?_⟩⟩;refine⟨_,jzx rfl rfl _ _ (w.heap.size+1) (.bool true) rfl ((World.cell?_of_block (World.putObj_heap_other hne)).trans (hR.set (.bool true)).cell),?_⟩;rw[HP.out];exact⟨rfl,(hB.setCell (by first | omega | (simp;omega) | simp) _).trans ⟨rfl,rfl,rfl,by simp,fun q hq=>World.putObj_heap_other (by omega)⟩⟩)
 case stop=>(
 rintro E c k X hE hk ⟨⟨hR,hB⟩,rfl,hp⟩ hK;have hcl:=hR.cell;have HP:=Lh hp;clear hp;gi_wp2
 have hne:w.heap.size+1≠E:=by omega
 refine⟨by simp,.inl ⟨_,_,rfl,run_takeDeferred hK,?_⟩⟩;refine⟨_,jzx rfl rfl _ _ (w.heap.size+1) (.bool false) rfl ((World.cell?_of_block (World.putObj_heap_other hne)).trans hcl),?_⟩;rw[HP.out];exact⟨rfl,hB.trans ⟨rfl,rfl,rfl,by simp,fun q hq=>World.putObj_heap_other (by omega)⟩⟩)
theorem jdy(p:Ck->Bool)(zs:List (Ck))(hf:∀ x∈zs,∀ W,InC W x->Calls Tryz.prog 146 #[Ck.v x] W (jqd W (.bool (p x))))(ok:Ck->Prop)(hok:∀ x∈zs,p x=true->ok x)(g:Nat)(lb:Array Value)(eg:Enters Tryz.prog g)(w:World)(hseq:∀ D w2,Below w.heap.size w w2->w.heap.size<=D->D<w2.heap.size->jtu Tryz.prog g lb encC D ok zs w2)(hmem:∀ x∈zs,InC w x):Calls Tryz.prog 147 #[.func (.func g) #[] lb,.func (.func 146) #[] #[]] w (jqd w (.bool (zs.all p))):=by
 have HF:=Lh hf;have HOK:=Lh hok;have HE:=Lh eg;have HS:=Lh hseq;have HM:=Lh hmem;clear hf hok eg hseq hmem;refine (callsIn_wide (n:=6)).1 (callsIn_of_wp_marks Tryz.func147 rfl trivial ?_ rfl);simp only[Tryz.ntmps147,List.size_toArray,List.length_cons,List.length_nil,Nat.reduceAdd,Nat.reduceSub,Array.replicate_succ,Array.replicate_zero,List.push_toArray,List.append_toArray,List.nil_append,List.cons_append];gi_wp2_with fail
 obtain⟨V,hV⟩:=exq ((w.alloc (.cells #[.func (.func 146) #[] #[]] 155)).alloc (.cells #[.bool false] 4));have hB0:Below w.heap.size w V:=by rw[<- hV];exact jzj (jzj (Below.refl _ _))
 have hsz:V.heap.size=w.heap.size+2:=by rw[<- hV];simp
 have bR:Boxed V (w.heap.size+1) 4 (.bool false):=by (
 have:=Boxed.new (w.alloc (.cells #[.func (.func 146) #[] #[]] 155)) 4 (.bool false);rw[World.size_alloc,hV] at this;exact this)
 have cI:V.cell? ⟨w.heap.size,0,none⟩=some (.func (.func 146) #[] #[]):=by (
 rw[<- hV];exact ((jju (Below.refl (w.heap.size+1) (w.alloc (.cells #[.func (.func 146) #[] #[]] 155))) (by simp)).cell (p:=⟨w.heap.size,0,none⟩) (by simp)).trans (jz0 0 _ rfl))
 rw[hV];clear hV;refine jwf rfl HE.out (HS.out (w.heap.size+1) V hB0 (by omega) (by omega)) (fun _=>rfl)
   (fun k X=>(Boxed X (w.heap.size+1) 4 (.bool false)/\Below w.heap.size w X)/\X.cell? ⟨w.heap.size,0,none⟩=some (.func (.func 146) #[] #[])/\(zs.take k).all p=true)
   (fun c _ X=>(Boxed X (w.heap.size+1) 4 (.bool false)/\Below w.heap.size w X)/\c = .ret/\zs.all p=false)
   (fun k X Y ⟨⟨h1,h2⟩,h3,h4⟩ hb=>⟨⟨(hb.block _ (by omega)).trans h1,h2.trans (hb.mono (by omega))⟩,(hb.cell (p:=⟨w.heap.size,0,none⟩) (by simp only;omega)).trans h3,h4⟩)
   (fun c k X Y ⟨⟨h1,h2⟩,h3⟩ hb=>⟨⟨(hb.block _ (by omega)).trans h1,h2.trans (hb.mono (by omega))⟩,h3⟩)
   ⟨⟨bR,hB0⟩,cI,rfl⟩
   (fun y a' _=>a'={ tmps:=#[.func (.func g) #[] lb,.func (.func 146) #[] #[],undef,.pointer (some ⟨w.heap.size,0,none⟩),.pointer (some ⟨w.heap.size+1,0,none⟩),Ck.v y,.func (.func g) #[] lb,Ck.v y,undef,undef,undef,undef],defers:=[] })
   ?ax ?assign ?body ?done ?stop
 case ax=>(
 rintro y a' _ X Y row h1 hg hr;exact h1)
 case assign=>(
 intro l2 k y X K _ _ hK;unfold encC;gi_wp2
 exact hK _ _ (Below.refl _ _) rfl)
 case body=>(
 rintro l2 k y a' X hXs hx ⟨⟨h1,h2⟩,h3,h4⟩ rfl;have HX:=Lh hx;have hb:=h2;have hcl:=h1.cell;have hcf:=h1.frozen;have HR:=Lh (HF.out y (List.mem_of_getElem? hx) X ((HM.out y (List.mem_of_getElem? hx)).later h2));obtain⟨q,hq⟩:=exq (p y);have HQ:=Lh hq;have HP:=Lh h4;rw[hq] at HR;clear hx hq h4;gi_wp2_with fail
 refine⟨trivial,rfl,(CallsIn.inRound l2 (callsIn_wide.2 HR.out)).mono ?_⟩;clear HR;rintro e X5 ⟨rfl,hb5⟩;have g1:Boxed X5 (w.heap.size+1) 4 (.bool false):=(hb5.block _ (by omega)).trans h1;have g3:=(hb5.cell (p:=⟨w.heap.size,0,none⟩) (by simp only;omega)).trans h3;have hB5:Below w.heap.size w X5:=h2.trans (hb5.mono h2.size);cases q with
 | true=>(
 gi_wp2_with fail
 exact⟨KN.of_below hb5,⟨⟨g1,hB5⟩,g3,by rw[jqx HX.out,HP.out,HQ.out];rfl⟩,HOK.out _ (List.mem_of_getElem? HX.out) HQ.out⟩)
 | false=>(
 have hcl5:=g1.cell;have hcf5:=g1.frozen;gi_wp2_with fail
 exact⟨(KF.of_below hb5).trans (KF.set (by omega) _),⟨g1.set _,hB5.setCell (by first | omega | (simp;omega) | simp) _⟩,rfl,jwn HX.out HQ.out⟩))
 case done=>(
 rintro E X hE ⟨⟨hR,hB⟩,-,hp⟩ hK;have hcl:=hR.cell;have hcf:=hR.frozen;rw[List.take_length] at hp;have HP:=Lh hp;clear hp;gi_wp2
 have hne:w.heap.size+1≠E:=by omega
 have hK2:(X.setCell ⟨w.heap.size+1,0,none⟩ (.bool true)).heap[E]?=some (.deferred (some [])):=(Below.heap_setCell _ _ _ _ (Ne.symm hne)).trans hK;refine⟨by simp,.inl ⟨_,_,rfl,run_takeDeferred hK2,?_⟩⟩;refine⟨_,jzx rfl rfl _ _ (w.heap.size+1) (.bool true) rfl ((World.cell?_of_block (World.putObj_heap_other hne)).trans (hR.set (.bool true)).cell),?_⟩;rw[HP.out];exact⟨rfl,(hB.setCell (by first | omega | (simp;omega) | simp) _).trans ⟨rfl,rfl,rfl,by simp,fun q hq=>World.putObj_heap_other (by omega)⟩⟩)
 case stop=>(
 rintro E c k X hE hk ⟨⟨hR,hB⟩,rfl,hp⟩ hK;have hcl:=hR.cell;have HP:=Lh hp;clear hp;gi_wp2
 have hne:w.heap.size+1≠E:=by omega
 refine⟨by simp,.inl ⟨_,_,rfl,run_takeDeferred hK,?_⟩⟩;refine⟨_,jzx rfl rfl _ _ (w.heap.size+1) (.bool false) rfl ((World.cell?_of_block (World.putObj_heap_other hne)).trans hcl),?_⟩;rw[HP.out];exact⟨rfl,hB.trans ⟨rfl,rfl,rfl,by simp,fun q hq=>World.putObj_heap_other (by omega)⟩⟩)
end V4
namespace C3
open Go.RowKit
def jud(w:World)(b:Bool)(e:Ending)(w':World):Prop:=∃ i:Int,e = .returned (.int .i64 i)/\decide (0<=i)=b/\Below w.heap.size w w'
theorem jwx{p:Tk->Bool}{l:List Tk}{k:Nat}{x:Tk}(h0:(l.take k).any p=false)(hx:l[k]?=some x)(h:p x=false):(l.take (k+1)).any p=false:=by
 obtain⟨hi,he⟩:=List.getElem?_eq_some_iff.1 hx;rw[List.take_succ_eq_append_getElem hi,List.any_append,h0,he];simp[h]
theorem jvk{p:Tk->Bool}{l:List Tk}{k:Nat}(h0:(l.take k).any p=false)(h:l.length<=k):l.any p=false:=by rwa [List.take_of_length_le h] at h0
theorem jvj{p:Tk->Bool}{l:List Tk}{k:Nat}{x:Tk}(hx:l[k]?=some x)(h:p x=true):l.any p=true:=List.any_eq_true.2 ⟨x,List.mem_of_getElem? hx,h⟩
theorem jpw(A:Option Addr)(c:Nat)(l:List Tk)(w:World)(h:In w A c l):Calls Tryz.prog 171 #[.slice A l.length c,.func (.func 164) #[] #[]] w (jud w (l.any bad)):=by
 obtain⟨hl,hcap,htop,-⟩:=h;have hlm:l.length<=9223372036854775807:=by unfold maxLen at htop;omega
 clear hcap htop;go_enter Tryz.func171,Tryz.ntmps171;go_wp2_with fail;go_loopw [8] (fun iv wr=>∃ k:Nat,k<=l.length/\iv = .int .i64 k/\Hid ((l.take k).any bad=false)/\Below w.heap.size w wr) (fun iv _=>l.length - (intOf iv).toNat)
 case atStart=>exact⟨0,Nat.zero_le _,rfl,by simp[Hid],Below.refl _ _⟩
 case round=>(
 obtain⟨k,hk,rfl,h0,hbw⟩:=hrel;by_cases hlt:k<l.length
 ·(
 obtain⟨b,off,rfl,hb,hc⟩:=(hl.below hbw).get hlt;obtain⟨x,hx⟩:∃ x,l[k]?=some x:=⟨_,List.getElem?_eq_getElem hlt⟩
 obtain⟨hc0,hc1⟩:=hc k x hx;have HX:=Lh hx;clear hx hc hl;obtain⟨xk,xn⟩:=x;dsimp only at hc0 hc1
 obtain⟨q,hq⟩:=exq (bad ⟨xk,xn⟩);have HQ:=Lh hq;clear hq;go_wp2_with fail;refine (jrs xk xn wr).mono ?_;rintro e w' ⟨rfl,hb2⟩;have hb3:Below w.heap.size w w':=hbw.trans (hb2.mono hbw.size);rw[HQ.out];cases q with
 | true=>(
 go_wp2_with fail;go_ret;exact⟨_,rfl,(by rw[jvj HX.out HQ.out];exact decide_eq_true (by omega)),hb3⟩)
 | false=>(
 go_wp2_with fail;go_roundw
 case rel=>exact⟨k+1,by omega,by go_num,jwx h0.out HX.out HQ.out,hb3⟩
 case measure=>simp[intOf];omega))
 ·(
 go_wp2_with fail;go_ret;exact⟨_,rfl,(by rw[jvk h0.out (by omega)];rfl),hbw⟩))
theorem jyu(A:Option Addr)(c:Nat)(l:List Tk)(w:World)(h:In w A c l):Calls Tryz.prog 163 #[.slice A l.length c,.func (.func 164) #[] #[]] w (jqd w (.bool (l.any bad))):=by
 have HA:=Lh h;clear h;go_enter Tryz.func163,Tryz.ntmps163;go_wp2_with fail;refine (jpw A c l w HA.out).mono ?_;rintro e w' ⟨i,rfl,hi,hb⟩;have HI:=Lh hi;clear hi;go_wp2_with fail;go_ret;exact⟨jzi HI.out,hb⟩
theorem jv9(A:Option Addr)(c:Nat)(l:List Tk)(w:World)(h:In w A c l):Calls Tryz.prog 146 #[.slice A l.length c] w (jqd w (.bool (isC l))):=by
 have HA:=Lh h;have hlm:l.length<=9223372036854775807:=by have:=h.cap;have:=h.top;unfold maxLen at this;omega
 clear h;by_cases c1:l.length<=40
 ·(
 obtain⟨p,hp⟩:=exq (decide (Asc l));obtain⟨q,hq⟩:=exq (l.any bad);have HR:Hid (isC l=(p && !q)):=by show isC l=_;unfold isC;rw[decide_eq_true c1,hp,hq];rfl
 rw[HR.out];have HP:=Lh hp;have HQ:=Lh hq;clear hp hq;go_enter Tryz.func146,Tryz.ntmps146;go_wp2_with fail;refine (jgg A c l w HA.out).mono ?_;rintro e w1 ⟨rfl,hb1⟩;rw[HP.out];cases p with
 | false=>(
 go_wp2_with fail;go_ret;exact⟨rfl,hb1⟩)
 | true=>(
 go_wp2_with fail;refine (jyu A c l w1 (HA.out.later hb1)).mono ?_;rintro e w2 ⟨rfl,hb2⟩;rw[HQ.out];go_wp2_with fail;go_ret;exact⟨by simp,hb1.trans (hb2.mono hb1.size)⟩))
 ·(
 have HR:Hid (isC l=false):=by show isC l=_;unfold isC;rw[decide_eq_false c1];rfl
 rw[HR.out];have d1:decide ((l.length:Int)<=40)=false:=decide_eq_false (by omega);go_enter Tryz.func146,Tryz.ntmps146;go_wp2_with fail;go_ret;exact⟨rfl,Below.refl _ _⟩)
theorem jr0{xs:List Tk}{q:Int}{m:Nat}{y:Tk}(h:Asc xs)(hy:xs[m]?=some y)(hlt:y.k<q):∀ x∈xs.take (m+1),x.k<q:=by
 intro x hx;obtain⟨hm,he⟩:=List.getElem?_eq_some_iff.1 hy;obtain⟨i,hi,rfl⟩:=List.mem_iff_getElem.1 hx;simp only[List.getElem_take];have hi':i<m+1:=by simp at hi;omega
 rcases Nat.lt_or_ge i m with h1 | h1
 ·(
 have:=List.pairwise_iff_getElem.1 h i m (by omega) hm h1;rw[he] at this;exact Int.lt_trans this hlt)
 ·(
 have:i=m:=by omega
 subst this;rw[he];exact hlt)
theorem jcs{xs:List Tk}{q:Int}{m:Nat}{y:Tk}(h:Asc xs)(hy:xs[m]?=some y)(hge:q<=y.k):∀ x∈xs.drop m,q<=x.k:=by
 intro x hx;obtain⟨hm,he⟩:=List.getElem?_eq_some_iff.1 hy;rw[List.drop_eq_getElem_cons hm,he] at hx;rcases List.mem_cons.1 hx with e | e
 ·rw[e];exact hge
 ·(
 have hp:Asc (xs.drop m):=List.Pairwise.drop h;rw[List.drop_eq_getElem_cons hm,he] at hp;have:=(List.pairwise_cons.1 hp).1 x e;omega)
theorem jth{xs:List Tk}{q:Int}{m:Nat}(h:Asc xs)(h1:∀ x∈xs.take m,x.k<q)(h2:∀ y,xs[m]?=some y->q<y.k):∀ x∈xs,x.k≠q:=by
 intro s hs e;rw[<- List.take_append_drop m xs] at hs;rcases List.mem_append.1 hs with k | k
 ·(
 have:=h1 s k;omega)
 ·(
 cases hx:xs[m]? with
 | none=>(
 rw[List.getElem?_eq_none_iff] at hx;rw[List.drop_eq_nil_of_le hx] at k;cases k)
 | some y=>(
 have hlt:=h2 y hx;have:=jcs (q:=y.k) h hx (Int.le_refl _) s k;omega))
def RetPos(l:List Tk)(q:Int)(w:World)(e:Ending)(w':World):Prop :=
  ∃ (m:Nat) (b:Bool),e = .returned (.tuple #[.int .i64 m,.bool b])/\(b=true->∃ x,l[m]?=some x/\x.k=q)/\(b=false->∀ x∈l,x.k≠q)/\Below w.heap.size w w'
theorem jof(A:Option Addr)(c:Nat)(l:List Tk)(q tn:Int)(w:World)(h:In w A c l)(ha:Asc l)(hlen:l.length<=1000):Calls Tryz.prog 173 #[.slice A l.length c,.agg #[.int .i64 q,.int .u64 tn],.func (.func 127) #[] #[]] w (RetPos l q w):=by
 obtain⟨hl,-,-,-⟩:=h;have HS:=Lh ha;clear ha;go_enter Tryz.func173,Tryz.ntmps173;go_wp2_with fail;go_loopw [9,10] (fun i j wr=>∃ lo hi:Nat,lo<=hi/\hi<=l.length/\i = .int .i64 lo/\j = .int .i64 hi/\Hid (∀ x∈l.take lo,x.k<q)/\Hid (∀ x∈l.drop hi,q<=x.k)/\Below w.heap.size w wr /\
   wr.cell? ⟨w.heap.size,0,none⟩=some (.int .i64 q)/\wr.cell? ⟨w.heap.size,1,none⟩=some (.int .u64 tn)/\w.heap.size<wr.heap.size) (fun i j _=>(intOf j).toNat - (intOf i).toNat)
 case atStart=>exact⟨0,l.length,Nat.zero_le _,Nat.le_refl _,rfl,rfl,by simp[Hid],by simp[Hid],jzf _ _,by simp,by simp,by simp⟩
 case round=>(
 obtain⟨lo,hi,hlh,hin,rfl,rfl,h1,h2,hbw,hx0,hx1,hsz⟩:=hrel;by_cases hlt:lo<hi
 ·(
 have hmid:(lo+hi) / 2<l.length:=by omega
 obtain⟨b,off,rfl,hb,hc⟩:=(hl.below hbw).get hmid;obtain⟨y,hy⟩:∃ y,l[(lo+hi) / 2]?=some y:=⟨_,List.getElem?_eq_getElem hmid⟩
 obtain⟨hc0,hc1⟩:=hc _ y hy;have HY:=Lh hy;clear hy hc hl;obtain⟨yk,yn⟩:=y;dsimp only at hc0 hc1
 have hmI:((lo:Int)+(hi:Int)) / 2<(l.length:Int):=by omega
 have hmN:(((lo:Int)+(hi:Int)) / 2).toNat=(lo+hi) / 2:=by omega
 have hm0:0<=((lo:Int)+(hi:Int)) / 2:=by omega
 have hmE:((lo:Int)+(hi:Int)) / 2=(((lo+hi) / 2:Nat):Int):=by omega
 have HME:=Lh hmE;have HBW:=Lh hbw;clear hmE hbw;go_wp2_with fail;go_still_tail 6,(by kernel_rfl)
 change wpList _ _ _ _ _ wr.drew;clear hmI hmN hm0;go_wp2_with fail;refine (jko yk yn q tn _).mono ?_;rintro e w4 ⟨rfl,hb4⟩;have hbw4:Below w.heap.size w w4:=(HBW.out.drew).trans (hb4.mono HBW.out.size);have hy0:w4.cell? ⟨w.heap.size,0,none⟩=some (.int .i64 q):=(hb4.cell (p:=⟨w.heap.size,0,none⟩) hsz).trans hx0;have hy1:w4.cell? ⟨w.heap.size,1,none⟩=some (.int .u64 tn):=(hb4.cell (p:=⟨w.heap.size,1,none⟩) hsz).trans hx1;have hsz4:w.heap.size<w4.heap.size:=ltl hsz hb4.size;clear hb4 hx0 hx1 hsz hc0 hc1;rw[HME.out];by_cases c4:yk<q
 ·(
 have HC:=Lh c4;rw[jxt c4];clear c4;go_wp2_with fail;go_roundw
 case rel=>exact⟨(lo+hi) / 2+1,hi,by omega,hin,by go_num,rfl,jr0 HS.out HY.out HC.out,h2,hbw4,hy0,hy1,hsz4⟩
 case measure=>simp[intOf];omega)
 ·(
 have HC:Hid (q<=yk):=by show q<=yk;omega
 have c5:0<=jx9 yk q:=by unfold jx9;rw[if_neg c4];split <;> omega
 generalize jx9 yk q=z at *;clear c4;go_wp2_with fail;go_roundw
 case rel=>exact⟨lo,(lo+hi) / 2,by omega,by omega,rfl,by go_num,h1,jcs HS.out HY.out HC.out,hbw4,hy0,hy1,hsz4⟩
 case measure=>simp[intOf];omega))
 ·(
 obtain rfl:lo=hi:=by omega
 by_cases hmid:lo<l.length
 ·(
 obtain⟨b,off,rfl,hb,hc⟩:=(hl.below hbw).get hmid;obtain⟨y,hy⟩:∃ y,l[lo]?=some y:=⟨_,List.getElem?_eq_getElem hmid⟩
 obtain⟨hc0,hc1⟩:=hc _ y hy;have HY:=Lh hy;have HM:Hid (q<=y.k):=h2.out y (by rw[jg6 hy];simp);clear hy hc hl;obtain⟨yk,yn⟩:=y;dsimp only at hc0 hc1 HM
 have hli:(lo:Int)<(l.length:Int):=by omega
 have hbb:b<wr.heap.size:=ltl hb hbw.size;have HBW:Hid (Below w.heap.size w wr.drew):=hbw.drew;clear hbw;by_cases c4:yk=q
 ·(
 have HC:=Lh c4;have HZ:Hid (jx9 yk q=0):=by show jx9 yk q=0;rw[c4,jx5]
 clear c4;go_wp2_with fail;go_region_held3 (fun w'=>w'.cell? ⟨b,off+lo*2,none⟩=some (.int .i64 yk)/\w'.cell? ⟨b,off+lo*2+1,none⟩=some (.int .u64 yn)/\w'.cell? ⟨w.heap.size,0,none⟩=some (.int .i64 q)/\w'.cell? ⟨w.heap.size,1,none⟩=some (.int .u64 tn))
   (first
     | exact⟨hc0,hc1,hx0,hx1⟩)
   (first
     | (go_at_call 127;refine (jko yk yn q tn _).mono ?_;rintro e w4 ⟨rfl,hb4⟩;(rw[HZ.out];replace hc0:=(hb4.cell (p:=⟨b,off+lo*2,none⟩) hbb).trans hc0;replace hc1:=(hb4.cell (p:=⟨b,off+lo*2+1,none⟩) hbb).trans hc1;replace hx0:=(hb4.cell (p:=⟨w.heap.size,0,none⟩) hsz).trans hx0;replace hx1:=(hb4.cell (p:=⟨w.heap.size,1,none⟩) hsz).trans hx1;replace HBW:Hid (Below w.heap.size w w4):=HBW.out.trans (hb4.mono HBW.out.size);clear hb4)))
 go_wp2_with fail;go_ret2;exact⟨lo,true,rfl,fun _=>⟨_,HY.out,HC.out⟩,(fun h=>by cases h),HBW.out⟩)
 ·(
 have HC:=Lh c4;have HZ:Hid (jx9 yk q=1):=jx4 (by have:=HM.out;omega);clear c4;go_wp2_with fail;go_region_held3 (fun w'=>w'.cell? ⟨b,off+lo*2,none⟩=some (.int .i64 yk)/\w'.cell? ⟨b,off+lo*2+1,none⟩=some (.int .u64 yn)/\w'.cell? ⟨w.heap.size,0,none⟩=some (.int .i64 q)/\w'.cell? ⟨w.heap.size,1,none⟩=some (.int .u64 tn))
   (first
     | exact⟨hc0,hc1,hx0,hx1⟩)
   (first
     | (go_at_call 127;refine (jko yk yn q tn _).mono ?_;rintro e w4 ⟨rfl,hb4⟩;(rw[HZ.out];replace hc0:=(hb4.cell (p:=⟨b,off+lo*2,none⟩) hbb).trans hc0;replace hc1:=(hb4.cell (p:=⟨b,off+lo*2+1,none⟩) hbb).trans hc1;replace hx0:=(hb4.cell (p:=⟨w.heap.size,0,none⟩) hsz).trans hx0;replace hx1:=(hb4.cell (p:=⟨w.heap.size,1,none⟩) hsz).trans hx1;replace HBW:Hid (Below w.heap.size w w4):=HBW.out.trans (hb4.mono HBW.out.size);clear hb4)))
 go_wp2_with fail;go_ret2;refine⟨lo,false,rfl,(fun h=>by cases h),fun _=>jth HS.out h1.out fun z hz=>?_,HBW.out⟩;have e:=HY.out;rw[hz] at e;cases e
 have:=HM.out;have:=HC.out;show q<yk
 omega))
 ·(
 have d1:decide ((lo:Int)<(l.length:Int))=false:=decide_eq_false (by omega);go_wp2_with fail;go_quiet (fail)
 go_wp2_with fail;go_ret2;exact⟨lo,false,rfl,(fun h=>by cases h),fun _=>jth HS.out h1.out fun z hz=>absurd (List.getElem?_eq_some_iff.1 hz).1 hmid,jzu hbw _⟩)))
@[go_sem] theorem run_field_n(k n:Int)(w:World):(Instr.field 53 (.agg #[.int .i64 k,.int .u64 n]) 1).run Tryz.prog w = .ok (.int .u64 n) w:=by
 have h:=run_underlying (P:=Tryz.prog) (w:=w) Tryz.underlying53;have h2:=run_underlying (P:=Tryz.prog) (w:=w) Tryz.underlying25;simp[Instr.field,h,h2,part,asAgg,isAgg]
def RetFn(w:World)(n:Int)(e:Ending)(w':World):Prop:=∃ k:Int,e = .returned (.agg #[.int .i64 k,.int .u64 n])/\Below w.heap.size w w'
theorem jh8(A:Option Addr)(c:Nat)(l:List Tk)(q:Int)(w:World)(h:In w A c l)(ha:Asc l)(hlen:l.length<=1000):Calls Tryz.prog 172 #[.slice A l.length c,.agg #[.int .i64 q,.int .u64 0],.func (.func 127) #[] #[]] w (RetFn w (ofC l q)):=by
 have HB0:Hid (Below w.heap.size w (((w.alloc (.cells #[.int .i64 q,.int .u64 0] 53)).alloc (.cells #[.int .i64 0,.int .u64 0] 53)).alloc (.cells #[.int .i64 0,.int .u64 0] 53))):=jzj (jzj (jzj (Below.refl _ _)));have HA:=Lh (h.later HB0.out);have HS:=Lh ha;clear h ha;go_enter Tryz.func172,Tryz.ntmps172;go_wp2_with fail;refine (jof A c l q 0 _ HA.out HS.out hlen).mono ?_;rintro e w4 ⟨m,p,rfl,hy,hn,hb2⟩;have HB4:Hid (Below w.heap.size w w4):=HB0.out.trans (hb2.mono HB0.out.size);have hq0:w4.cell? ⟨w.heap.size+1,0,none⟩=some (.int .i64 0):=(hb2.cell (p:=⟨w.heap.size+1,0,none⟩) (by simp)).trans (by go_simp);have hq1:w4.cell? ⟨w.heap.size+1,1,none⟩=some (.int .u64 0):=(hb2.cell (p:=⟨w.heap.size+1,1,none⟩) (by simp)).trans (by go_simp);have hp0:w4.cell? ⟨w.heap.size+1+1,0,none⟩=some (.int .i64 0):=(hb2.cell (p:=⟨w.heap.size+1+1,0,none⟩) (by simp)).trans (by go_simp);have hp1:w4.cell? ⟨w.heap.size+1+1,1,none⟩=some (.int .u64 0):=(hb2.cell (p:=⟨w.heap.size+1+1,1,none⟩) (by simp)).trans (by go_simp);have hf0:w4.frozen? ⟨w.heap.size+1,0,none⟩=false:=(hb2.frozen (p:=⟨w.heap.size+1,0,none⟩) (by simp)).trans (by go_simp);have hf1:w4.frozen? ⟨w.heap.size+1,1,none⟩=false:=(hb2.frozen (p:=⟨w.heap.size+1,1,none⟩) (by simp)).trans (by go_simp);have hs4:w.heap.size+1<w4.heap.size:=ltl (by simp) hb2.size;cases p with
 | true=>(
 obtain⟨x,hx,he⟩:=hy rfl;have HV:Hid (ofC l q=x.n):=by show ofC l q=x.n;rw[<- he];exact jmm HS.out (List.mem_of_getElem? hx)
 have hm:m<l.length:=(List.getElem?_eq_some_iff.1 hx).1;have hin4:=HA.out.later hb2;obtain⟨b,off,rfl,hb,hc⟩:=hin4.lies.get hm;obtain⟨hc0,hc1⟩:=hc m x hx;obtain⟨xk,xn⟩:=x;dsimp only at hc0 hc1 HV
 clear hx he hy hn hc hin4 hb2 HA HB0;go_wp2_with fail;refine bodyPost_ret (jjc rfl _ _ (w.heap.size+1) (.int .i64 xk) (.int .u64 xn) rfl (by go_simp) (by go_simp)) rfl ?_;exact⟨xk,by rw[HV.out],(HB4.out.setCell (by simp) _).setCell (by simp) _⟩)
 | false=>(
 have HV:Hid (ofC l q=0):=jml (hn rfl);clear hy hn hb2 HA HB0;go_wp2_with fail;refine bodyPost_ret (jjc rfl _ _ (w.heap.size+1) (.int .i64 0) (.int .u64 0) rfl (by go_simp) (by go_simp)) rfl ?_;exact⟨0,by rw[HV.out],(HB4.out.setCell (by simp) _).setCell (by simp) _⟩)
theorem Of_any(A:Option Addr)(c:Nat)(l:List Tk)(q:Int)(w:World)(h:In w A c l)(ha:Asc l)(hlen:l.length<=1000):Calls Tryz.prog 170 #[.slice A l.length c,.int .i64 q] w (jqd w (.int .u64 (ofC l q))):=by
 have HA:=Lh h;have HS:=Lh ha;clear h ha;go_enter Tryz.func170,Tryz.ntmps170;go_wp2_with fail;refine (jh8 A c l q w HA.out HS.out hlen).mono ?_;rintro e w' ⟨k,rfl,hb⟩;go_wp2_with fail;go_ret;exact⟨rfl,hb⟩
theorem jnx(B:Nat)(A:Option Addr)(c:Nat)(l:List Tk)(xk xn:Int)(w:World)(hB:B<w.heap.size)(hc:w.cell? ⟨B,0,none⟩=some (.slice A l.length c))(h:In w A c l)(ha:Asc l)(hlen:l.length<=1000):Calls Tryz.prog 169 #[.agg #[.int .i64 xk,.int .u64 xn],.pointer (some ⟨B,0,none⟩)] w (jqd w (.bool (decide (ofC l xk<xn)))):=by
 have HB0:Hid (Below w.heap.size w (w.alloc (.cells #[.int .i64 xk,.int .u64 xn] 53)).drew):=(jzf _ _).drew;have HA:=Lh (h.later HB0.out);have HS:=Lh ha;clear h ha;go_enter Tryz.func169,Tryz.ntmps169;go_wp2_with fail;have e0:(w.alloc (.cells #[.int .i64 xk,.int .u64 xn] 53)).cell? ⟨w.heap.size,0,none⟩=some (.int .i64 xk):=by simp
 have e1:(w.alloc (.cells #[.int .i64 xk,.int .u64 xn] 53)).cell? ⟨w.heap.size,1,none⟩=some (.int .u64 xn):=by simp
 have e2:(w.alloc (.cells #[.int .i64 xk,.int .u64 xn] 53)).cell? ⟨B,0,none⟩=some (.slice A l.length c):=((jzf w _).cell (p:=⟨B,0,none⟩) hB).trans hc;generalize (w.alloc (.cells #[.int .i64 xk,.int .u64 xn] 53))=W0 at *;have hB2:B<W0.heap.size:=World.block_lt_of_cell? W0 _ e2;have hs2:w.heap.size<W0.heap.size:=World.block_lt_of_cell? W0 _ e0;obtain⟨z,hz⟩:=exq (ofC l xk);have HZ:=Lh hz;clear hB hc hz;go_region_held3 (fun w'=>w'.cell? ⟨w.heap.size,0,none⟩=some (.int .i64 xk)/\w'.cell? ⟨w.heap.size,1,none⟩=some (.int .u64 xn)/\w'.cell? ⟨B,0,none⟩=some (.slice A l.length c))
   (first
     | exact⟨e0,e1,e2⟩)
   (first
     | (go_at_call 170;refine (Of_any A c l xk _ HA.out HS.out hlen).mono ?_;rintro e w4 ⟨rfl,hb4⟩;(rw[HZ.out];replace e0:=(hb4.cell (p:=⟨w.heap.size,0,none⟩) hs2).trans e0;replace e1:=(hb4.cell (p:=⟨w.heap.size,1,none⟩) hs2).trans e1;replace e2:=(hb4.cell (p:=⟨B,0,none⟩) hB2).trans e2;replace HB0:Hid (Below w.heap.size w w4):=HB0.out.trans (hb4.mono HB0.out.size);clear hb4)))
 go_wp2_with fail;go_ret;exact⟨(by rw[HZ.out];rfl),HB0.out⟩
def jzz(l':List Tk)(t:Tk):Bool:=decide (ofC l' t.k<t.n)
theorem jpx(B:Nat)(A A':Option Addr)(c c':Nat)(l l':List Tk)(w:World)(h:In w A c l)(h':In w A' c' l')(hB:B<w.heap.size)(hcB:w.cell? ⟨B,0,none⟩=some (.slice A' l'.length c'))(ha:Asc l')(hlen:l'.length<=1000):Calls Tryz.prog 171 #[.slice A l.length c,.func (.func 169) #[] #[.pointer (some ⟨B,0,none⟩)]] w (jud w (l.any (jzz l'))):=by
 obtain⟨hl,hcap,htop,-⟩:=h;have hlm:l.length<=9223372036854775807:=by unfold maxLen at htop;omega
 have HA:=Lh h';have HS:=Lh ha;have HCB:=Lh hcB;have HB:=Lh hB;clear hcap htop h' ha hcB hB;go_enter Tryz.func171,Tryz.ntmps171;go_wp2_with fail;go_loopw [8] (fun iv wr=>∃ k:Nat,k<=l.length/\iv = .int .i64 k/\Hid ((l.take k).any (jzz l')=false)/\Below w.heap.size w wr) (fun iv _=>l.length - (intOf iv).toNat)
 case atStart=>exact⟨0,Nat.zero_le _,rfl,by simp[Hid],Below.refl _ _⟩
 case round=>(
 obtain⟨k,hk,rfl,h0,hbw⟩:=hrel;by_cases hlt:k<l.length
 ·(
 obtain⟨b,off,rfl,hb,hc⟩:=(hl.below hbw).get hlt;obtain⟨x,hx⟩:∃ x,l[k]?=some x:=⟨_,List.getElem?_eq_getElem hlt⟩
 obtain⟨hc0,hc1⟩:=hc k x hx;have HX:=Lh hx;clear hx hc hl;obtain⟨xk,xn⟩:=x;dsimp only at hc0 hc1
 obtain⟨q,hq⟩:=exq (jzz l' ⟨xk,xn⟩);have HQ:=Lh hq;have HQ2:Hid (decide (ofC l' xk<xn)=q):=hq;clear hq;go_wp2_with fail;refine (jnx B A' c' l' xk xn wr (ltl HB.out hbw.size) ((hbw.cell (p:=⟨B,0,none⟩) HB.out).trans HCB.out) (HA.out.later hbw) HS.out hlen).mono ?_;rintro e w' ⟨rfl,hb2⟩;have hb3:Below w.heap.size w w':=hbw.trans (hb2.mono hbw.size);rw[HQ2.out];cases q with
 | true=>(
 go_wp2_with fail;go_ret;exact⟨_,rfl,(by rw[jvj HX.out HQ.out];exact decide_eq_true (by omega)),hb3⟩)
 | false=>(
 go_wp2_with fail;go_roundw
 case rel=>exact⟨k+1,by omega,by go_num,jwx h0.out HX.out HQ.out,hb3⟩
 case measure=>simp[intOf];omega))
 ·(
 go_wp2_with fail;go_ret;exact⟨_,rfl,(by rw[jvk h0.out (by omega)];rfl),hbw⟩))
theorem jyv(B:Nat)(A A':Option Addr)(c c':Nat)(l l':List Tk)(w:World)(h:In w A c l)(h':In w A' c' l')(hB:B<w.heap.size)(hcB:w.cell? ⟨B,0,none⟩=some (.slice A' l'.length c'))(ha:Asc l')(hlen:l'.length<=1000):Calls Tryz.prog 163 #[.slice A l.length c,.func (.func 169) #[] #[.pointer (some ⟨B,0,none⟩)]] w (jqd w (.bool (l.any (jzz l')))):=by
 have HI0:=Lh (jpx B A A' c c' l l' w h h' hB hcB ha hlen);clear h h' hB hcB ha;go_enter Tryz.func163,Tryz.ntmps163;go_wp2_with fail;refine HI0.out.mono ?_;rintro e w' ⟨i,rfl,hi,hb⟩;have HI:=Lh hi;clear hi;go_wp2_with fail;go_ret;exact⟨jzi HI.out,hb⟩
theorem jru(l l':List Tk):(!l.any (jzz l'))=jqj l l':=by
 unfold jqj;induction l with
 | nil=>rfl
 | cons x l ih=>(
 rw[List.any_cons,List.all_cons,Bool.not_or,ih];congr 1
 unfold jzz;by_cases h:ofC l' x.k<x.n
 ·rw[decide_eq_true h,decide_eq_false (by omega)];rfl
 ·rw[decide_eq_false h,decide_eq_true (by omega)];rfl)
theorem jp2(A A':Option Addr)(c c':Nat)(l l':List Tk)(w:World)(h:In w A c l)(h':In w A' c' l')(ha:Asc l')(hlen:l'.length<=1000):Calls Tryz.prog 157 #[.slice A l.length c,.slice A' l'.length c'] w (jqd w (.bool (jqj l l'))):=by
 have HB0:Hid (Below w.heap.size w (w.alloc (.cells #[.slice A' l'.length c'] 54))):=jzf _ _;have HC0:=Lh (jyv w.heap.size A A' c c' l l' _ (h.later HB0.out) (h'.later HB0.out) (by simp) (by simp) ha hlen);clear h h' ha;go_enter Tryz.func157,Tryz.ntmps157;go_wp2_with fail;refine HC0.out.mono ?_;rintro e w' ⟨rfl,hb⟩;go_wp2_with fail;go_ret;exact⟨jzi (jru l l'),HB0.out.trans (hb.mono HB0.out.size)⟩
theorem jn5(A A':Option Addr)(c c':Nat)(l l':List Tk)(w:World)(h:In w A c l)(h':In w A' c' l')(ha:Asc l)(ha':Asc l')(hlen:l.length<=1000)(hlen':l'.length<=1000):Calls Tryz.prog 136 #[.slice A l.length c,.slice A' l'.length c'] w (jqd w (.int .i64 (jxo l l'))):=by
 have HA:=Lh h;have HB:=Lh h';have HS:=Lh ha;have HS':=Lh ha';clear h h' ha ha';obtain⟨p,hp⟩:=exq (jqj l l');obtain⟨q,hq⟩:=exq (jqj l' l);have HC:Hid (jxo l l'=cmpB p q):=by show jxo l l'=_;unfold jxo;rw[hp,hq]
 have HP:=Lh hp;have HQ:=Lh hq;clear hp hq;rw[HC.out];go_enter Tryz.func136,Tryz.ntmps136;go_wp2_with fail;refine (jp2 A A' c c' l l' w HA.out HB.out HS'.out hlen').mono ?_;rintro e w1 ⟨rfl,hb1⟩;rw[HP.out];go_wp2_with fail;refine (jp2 A' A c' c l' l w1 (HB.out.later hb1) (HA.out.later hb1) HS.out hlen).mono ?_;rintro e w2 ⟨rfl,hb2⟩;rw[HQ.out];have hb3:Below w.heap.size w w2:=hb1.trans (hb2.mono hb1.size);cases p <;> cases q
 all_goals
   go_wp2_with fail
   go_ret
   exact⟨rfl,hb3⟩
end C3
namespace V4
open Go.RowKit
open C3 (jud)
def jvy(s:Str):Bool:=decide (16<s.length)
theorem jwx{α:Type}{p:α->Bool}{l:List α}{k:Nat}{x:α}(h0:(l.take k).any p=false)(hx:l[k]?=some x)(h:p x=false):(l.take (k+1)).any p=false:=by
 obtain⟨hi,he⟩:=List.getElem?_eq_some_iff.1 hx;rw[List.take_succ_eq_append_getElem hi,List.any_append,h0,he];simp[h]
theorem jvk{α:Type}{p:α->Bool}{l:List α}{k:Nat}(h0:(l.take k).any p=false)(h:l.length<=k):l.any p=false:=by rwa [List.take_of_length_le h] at h0
theorem jvj{α:Type}{p:α->Bool}{l:List α}{k:Nat}{x:α}(hx:l[k]?=some x)(h:p x=true):l.any p=true:=List.any_eq_true.2 ⟨x,List.mem_of_getElem? hx,h⟩
theorem jl8(s:Str)(w:World)(hs:s.length<=maxLen):Calls Tryz.prog 143 #[.string (S s)] w (jqd w (.bool (jvy s))):=by
 have hsz:=S_size s;have hlm:s.length<=9223372036854775807:=by unfold maxLen at hs;omega
 clear hs;go_enter Tryz.func143,Tryz.ntmps143;go_wp2_with fail;go_ret;refine⟨jzi ?_,Below.refl _ _⟩;unfold jvy;rw[decide_eq_decide];omega
theorem jm2(A:Option Addr)(c:Nat)(ss:List Str)(w:World)(hl:jqs w A ss)(hn:ss.length<=maxLen)(ht:∀ s∈ss,s.length<=maxLen):Calls Tryz.prog 160 #[.slice A ss.length c,.func (.func 143) #[] #[]] w (jud w (ss.any jvy)):=by
 have hlm:ss.length<=9223372036854775807:=by unfold maxLen at hn;omega
 clear hn;have HT:=Lh ht;clear ht;go_enter Tryz.func160,Tryz.ntmps160;go_wp2_with fail;go_loopw [8] (fun iv wr=>∃ k:Nat,k<=ss.length/\iv = .int .i64 k/\Hid ((ss.take k).any jvy=false)/\Below w.heap.size w wr) (fun iv _=>ss.length - (intOf iv).toNat)
 case atStart=>exact⟨0,Nat.zero_le _,rfl,by simp[Hid],Below.refl _ _⟩
 case round=>(
 obtain⟨k,hk,rfl,h0,hbw⟩:=hrel;by_cases hlt:k<ss.length
 ·(
 obtain⟨b,off,rfl,hb,hc⟩:=(hl.below hbw).get hlt;obtain⟨x,hx⟩:∃ x,ss[k]?=some x:=⟨_,List.getElem?_eq_getElem hlt⟩
 have hc0:=hc k x hx;have HX:=Lh hx;clear hx hc hl;obtain⟨q,hq⟩:=exq (jvy x);have HQ:=Lh hq;clear hq;go_wp2_with fail;refine (jl8 x wr (HT.out x (List.mem_of_getElem? HX.out))).mono ?_;rintro e w' ⟨rfl,hb2⟩;have hb3:Below w.heap.size w w':=hbw.trans (hb2.mono hbw.size);rw[HQ.out];cases q with
 | true=>(
 go_wp2_with fail;go_ret;exact⟨_,rfl,(by rw[jvj HX.out HQ.out];exact decide_eq_true (by omega)),hb3⟩)
 | false=>(
 go_wp2_with fail;go_roundw
 case rel=>exact⟨k+1,by omega,by go_num,jwx h0.out HX.out HQ.out,hb3⟩
 case measure=>simp[intOf];omega))
 ·(
 go_wp2_with fail;go_ret;exact⟨_,rfl,(by rw[jvk h0.out (by omega)];rfl),hbw⟩))
theorem jbp(A:Option Addr)(c:Nat)(ss:List Str)(w:World)(hl:jqs w A ss)(hn:ss.length<=maxLen)(ht:∀ s∈ss,s.length<=maxLen):Calls Tryz.prog 142 #[.slice A ss.length c,.func (.func 143) #[] #[]] w (jqd w (.bool (ss.any jvy))):=by
 have HA:=Lh (jm2 A c ss w hl hn ht);clear hl hn ht;go_enter Tryz.func142,Tryz.ntmps142;go_wp2_with fail;refine HA.out.mono ?_;rintro e w' ⟨i,rfl,hi,hb⟩;have HI:=Lh hi;clear hi;go_wp2_with fail;go_ret;exact⟨jzi HI.out,hb⟩
def jw1(ss:List Str):Bool:=decide (ss.length<=40) && (decide (R1.Srt ss) && !ss.any jvy)
theorem jum(A:Option Addr)(c:Nat)(ss:List Str)(w:World)(hl:jqs w A ss)(hn:ss.length<=maxLen)(ht:∀ s∈ss,s.length<=maxLen):Calls Tryz.prog 111 #[.slice A ss.length c] w (jqd w (.bool (jw1 ss))):=by
 have HL:=Lh hl;have HN:=Lh hn;have HT:=Lh ht;have hlm:ss.length<=9223372036854775807:=by unfold maxLen at hn;omega
 clear hl hn ht;by_cases h40:ss.length<=40
 ·(
 obtain⟨q,hq⟩:=exq (decide (R1.Srt ss));have HQ:=Lh hq;have hr:jw1 ss=(q && !ss.any jvy):=by unfold jw1;rw[decide_eq_true h40,hq];rfl
 rw[hr];clear hq hr;have h41:(ss.length:Int)<=40:=by omega
 go_enter Tryz.func111,Tryz.ntmps111;go_wp2_with fail;refine (R1.jhz A c ss w HL.out HN.out).mono ?_;rintro e w' ⟨rfl,n,rfl⟩;rw[HQ.out];cases q with
 | true=>(
 go_wp2_with fail;refine (jbp A c ss _ (HL.out.drewN n) HN.out HT.out).mono ?_;rintro e w' ⟨rfl,hb⟩;go_wp2_with fail;go_ret;exact⟨rfl,(jzu (Below.refl _ _) n).trans hb⟩)
 | false=>(
 go_wp2_with fail;go_ret;exact⟨rfl,jzu (Below.refl _ _) n⟩))
 ·(
 have hr:jw1 ss=false:=by unfold jw1;rw[decide_eq_false h40];rfl
 rw[hr];have h41:¬ (ss.length:Int)<=40:=by omega
 clear h40 hr;go_enter Tryz.func111,Tryz.ntmps111;go_wp2_with fail;go_ret;exact⟨rfl,Below.refl _ _⟩)
end V4
end Go.Proofs.YtobggoephhjofaaGreatDoor
