/- A part. No condition. -/
import Derived.Test.YtobggoephhjofaaGreatDoorMk10
set_option maxRecDepth 100000
set_option maxHeartbeats 16000000
namespace Go.Proofs.YtobggoephhjofaaGreatDoor
namespace V4
open Go.RowKit Go.Shelf
open S2 (Sc jx0 jzf jzr)
open C3 (jzk)
attribute [local go_sem] Oper.semAt_some
theorem goInto_K(l D B:Nat)(zs:List (Vl×Vl))(J Jx:Nat->World->Prop)(hJ:Ab B J)(eJ:Ab B Jx)(hDB:D<B)(hY:∀ k x W1,zs[k]?=some x->J k W1->B<=W1.heap.size->YieldAt Fence.wide 0 Tryz.prog l (jrx x) W1 fun e W'=>(e = .returned (.bool true)/\J (k+1) W'/\KN D B W1 W'/\jw8 x)\/(e = .returned (.bool false)/\Jx k W'/\KF B W1 W')):∀ (T:Nd (Vl×Vl)) (k0:Nat) (W:World),jdb (jde D W) jw8 jvk T->B<=W.heap.size->J k0 W->At zs k0 T.pre->Calls Tryz.prog 106 #[jpo T.lab,.func (.func 66) #[] #[],.func (.yield l) #[] #[]] W fun e W'=>(e = .returned (.bool true)/\J (k0+T.pre.length) W'/\KN D B W W')\/(e = .returned (.bool false)/\(∃ k,k<k0+T.pre.length/\Jx k W')/\KF B W W'):=by
 intro T;induction T using Nd.ind with
 | h x l0 ih=>(
 intro k0 W hg hB h0 eR;obtain⟨dn,jB,bu⟩:jde D W x/\(jw8 x->l0.map Nd.lab=jvk x)/\∀ t∈l0,jdb (jde D W) jw8 jvk t:=by (
 cases hg with
 | mk _ _ h1 h2 h3=>exact⟨h1,h2,h3⟩)
 rw[Nd.pre] at eR;rw[Nd.pre];have IH:=Lh ih;have HM:=Lh (And.intro dn (And.intro jB bu));have HJ:=Lh hJ;have lF:=Lh eJ;have HY:=Lh hY;have nM:=Lh eR;clear ih hg dn jB bu hJ eJ hY eR;obtain⟨x0,cU⟩:∃ x0,x0=x:=⟨_,rfl⟩
 obtain⟨⟨xan,xam,xasA,xasc,xass,xacA,xacc,xacs,xavA,xavc,xavs⟩,xn,xm,xK,xL,xN,xO,xP,xQ,xR,xS,xU⟩:=x;have ai:Below W.heap.size W ((((W.alloc (.cells #[.int .u64 xan,.int .u64 xam,.slice xasA xass.length xasc,.slice xacA xacs.length xacc,.slice xavA xavs.length xavc,.int .u64 xn,.int .u64 xm,.slice xK xN.length xL,.slice xO xQ.length xP,.slice xR xU.length xS] 105)).alloc (.cells #[.func (.func 66) #[] #[]] 109)).alloc (.cells #[.func (.yield l) #[] #[]] 110)).alloc (.cells #[.bool false] 4)):=jzk (jzk (jzk (jzk (Below.refl _ _))));have ku:=HJ.out k0 W _ h0 (ai.mono hB);obtain⟨fn,tmps,assign,body,hy,hR⟩:=jqh (m':=5) (HY.out k0 (Vl.mk xan xam xasA xasc xass xacA xacc xacs xavA xavc xavs,Vl.mk xn xm xK xL xN xO xP xQ xR xS xU) _ (by have:=nM.out 0 _ rfl;simpa using this) ku (leT hB ai.size));unfold jrx at hy;simp only[jpo,jqy,Vl.n,Vl.m,Vl.s1,Vl.c1,Vl.v1] at hy;have fN:=hR.mono fun e W' h=>jwf h
 clear hR h0 ku;simp only[Nd.lab,jpo,jqy,Vl.n,Vl.m,Vl.s1,Vl.c1,Vl.v1];refine (callsIn_wide (n:=6)).1 (callsIn_of_wp_marks Tryz.func106 rfl trivial ?_ rfl);simp only[Tryz.ntmps106,List.size_toArray,List.length_cons,List.length_nil,Nat.reduceAdd,Nat.reduceSub,Array.replicate_succ,Array.replicate_zero,List.push_toArray,List.append_toArray,List.nil_append,List.cons_append];gi_wp2_with fail
 refine fN.mono ?_;clear hy fN;rintro e W3 ⟨r,rfl,hr⟩;have bR:Boxed ((((W.alloc (.cells #[.int .u64 xan,.int .u64 xam,.slice xasA xass.length xasc,.slice xacA xacs.length xacc,.slice xavA xavs.length xavc,.int .u64 xn,.int .u64 xm,.slice xK xN.length xL,.slice xO xQ.length xP,.slice xR xU.length xS] 105)).alloc (.cells #[.func (.func 66) #[] #[]] 109)).alloc (.cells #[.func (.yield l) #[] #[]] 110)).alloc (.cells #[.bool false] 4)) (W.heap.size+1+1+1) 4 (.bool false):=by (have:=Boxed.new (((W.alloc (.cells #[.int .u64 xan,.int .u64 xam,.slice xasA xass.length xasc,.slice xacA xacs.length xacc,.slice xavA xavs.length xavc,.int .u64 xn,.int .u64 xm,.slice xK xN.length xL,.slice xO xQ.length xP,.slice xR xU.length xS] 105)).alloc (.cells #[.func (.func 66) #[] #[]] 109)).alloc (.cells #[.func (.yield l) #[] #[]] 110)) 4 (.bool false);rw[World.size_alloc,World.size_alloc,World.size_alloc] at this;exact this)
 have af:∀ i v,(#[.int .u64 xan,.int .u64 xam,.slice xasA xass.length xasc,.slice xacA xacs.length xacc,.slice xavA xavs.length xavc,.int .u64 xn,.int .u64 xm,.slice xK xN.length xL,.slice xO xQ.length xP,.slice xR xU.length xS]:Array Value)[i]?=some v->((((W.alloc (.cells #[.int .u64 xan,.int .u64 xam,.slice xasA xass.length xasc,.slice xacA xacs.length xacc,.slice xavA xavs.length xavc,.int .u64 xn,.int .u64 xm,.slice xK xN.length xL,.slice xO xQ.length xP,.slice xR xU.length xS] 105)).alloc (.cells #[.func (.func 66) #[] #[]] 109)).alloc (.cells #[.func (.yield l) #[] #[]] 110)).alloc (.cells #[.bool false] 4)).cell? ⟨W.heap.size,i,none⟩=some v:=fun i v h =>
   ((show Below (W.heap.size+1) (W.alloc (.cells #[.int .u64 xan,.int .u64 xam,.slice xasA xass.length xasc,.slice xacA xacs.length xacc,.slice xavA xavs.length xavc,.int .u64 xn,.int .u64 xm,.slice xK xN.length xL,.slice xO xQ.length xP,.slice xR xU.length xS] 105)) ((((W.alloc (.cells #[.int .u64 xan,.int .u64 xam,.slice xasA xass.length xasc,.slice xacA xacs.length xacc,.slice xavA xavs.length xavc,.int .u64 xn,.int .u64 xm,.slice xK xN.length xL,.slice xO xQ.length xP,.slice xR xU.length xS] 105)).alloc (.cells #[.func (.func 66) #[] #[]] 109)).alloc (.cells #[.func (.yield l) #[] #[]] 110)).alloc (.cells #[.bool false] 4)) from jq3 (jq3 (jq3 (Below.refl _ _) (by simp)) (by simp)) (by simp)).cell (p:=⟨W.heap.size,i,none⟩) (by simp)).trans (jzs i v h)
 have ab:((((W.alloc (.cells #[.int .u64 xan,.int .u64 xam,.slice xasA xass.length xasc,.slice xacA xacs.length xacc,.slice xavA xavs.length xavc,.int .u64 xn,.int .u64 xm,.slice xK xN.length xL,.slice xO xQ.length xP,.slice xR xU.length xS] 105)).alloc (.cells #[.func (.func 66) #[] #[]] 109)).alloc (.cells #[.func (.yield l) #[] #[]] 110)).alloc (.cells #[.bool false] 4)).cell? ⟨W.heap.size+1,0,none⟩=some (.func (.func 66) #[] #[]) :=
   ((show Below (W.heap.size+2) ((W.alloc (.cells #[.int .u64 xan,.int .u64 xam,.slice xasA xass.length xasc,.slice xacA xacs.length xacc,.slice xavA xavs.length xavc,.int .u64 xn,.int .u64 xm,.slice xK xN.length xL,.slice xO xQ.length xP,.slice xR xU.length xS] 105)).alloc (.cells #[.func (.func 66) #[] #[]] 109)) ((((W.alloc (.cells #[.int .u64 xan,.int .u64 xam,.slice xasA xass.length xasc,.slice xacA xacs.length xacc,.slice xavA xavs.length xavc,.int .u64 xn,.int .u64 xm,.slice xK xN.length xL,.slice xO xQ.length xP,.slice xR xU.length xS] 105)).alloc (.cells #[.func (.func 66) #[] #[]] 109)).alloc (.cells #[.func (.yield l) #[] #[]] 110)).alloc (.cells #[.bool false] 4)) from jq3 (jq3 (Below.refl _ _) (by simp)) (by simp)).cell (p:=⟨W.heap.size+1,0,none⟩) (by simp)).trans (by
     have:=jzs (w:=(W.alloc (.cells #[.int .u64 xan,.int .u64 xam,.slice xasA xass.length xasc,.slice xacA xacs.length xacc,.slice xavA xavs.length xavc,.int .u64 xn,.int .u64 xm,.slice xK xN.length xL,.slice xO xQ.length xP,.slice xR xU.length xS] 105))) (cs:=#[.func (.func 66) #[] #[]]) (t:=109) 0 _ rfl
     rw[World.size_alloc] at this;exact this)
 have bj:((((W.alloc (.cells #[.int .u64 xan,.int .u64 xam,.slice xasA xass.length xasc,.slice xacA xacs.length xacc,.slice xavA xavs.length xavc,.int .u64 xn,.int .u64 xm,.slice xK xN.length xL,.slice xO xQ.length xP,.slice xR xU.length xS] 105)).alloc (.cells #[.func (.func 66) #[] #[]] 109)).alloc (.cells #[.func (.yield l) #[] #[]] 110)).alloc (.cells #[.bool false] 4)).cell? ⟨W.heap.size+1+1,0,none⟩=some (.func (.yield l) #[] #[]) :=
   ((show Below (W.heap.size+3) (((W.alloc (.cells #[.int .u64 xan,.int .u64 xam,.slice xasA xass.length xasc,.slice xacA xacs.length xacc,.slice xavA xavs.length xavc,.int .u64 xn,.int .u64 xm,.slice xK xN.length xL,.slice xO xQ.length xP,.slice xR xU.length xS] 105)).alloc (.cells #[.func (.func 66) #[] #[]] 109)).alloc (.cells #[.func (.yield l) #[] #[]] 110)) ((((W.alloc (.cells #[.int .u64 xan,.int .u64 xam,.slice xasA xass.length xasc,.slice xacA xacs.length xacc,.slice xavA xavs.length xavc,.int .u64 xn,.int .u64 xm,.slice xK xN.length xL,.slice xO xQ.length xP,.slice xR xU.length xS] 105)).alloc (.cells #[.func (.func 66) #[] #[]] 109)).alloc (.cells #[.func (.yield l) #[] #[]] 110)).alloc (.cells #[.bool false] 4)) from jq3 (Below.refl _ _) (by simp)).cell (p:=⟨W.heap.size+1+1,0,none⟩) (by simp)).trans (by
     have:=jzs (w:=((W.alloc (.cells #[.int .u64 xan,.int .u64 xam,.slice xasA xass.length xasc,.slice xacA xacs.length xacc,.slice xavA xavs.length xavc,.int .u64 xn,.int .u64 xm,.slice xK xN.length xL,.slice xO xQ.length xP,.slice xR xU.length xS] 105)).alloc (.cells #[.func (.func 66) #[] #[]] 109))) (cs:=#[.func (.yield l) #[] #[]]) (t:=110) 0 _ rfl
     rw[World.size_alloc,World.size_alloc] at this;exact this)
 cases r with
 | false=>(
 obtain⟨fg,cG⟩:=hr;have bR3:=cG.boxed (by omega) bR;have b8:=bR3.cell;have fW:=bR3.frozen;gi_wp2_with fail
 refine⟨_,jzr rfl rfl _ _ (W.heap.size+1+1+1) (.bool false) rfl (bR3.set (.bool false)).cell,?_⟩;refine .inr ⟨rfl,⟨k0,by first | omega | (simp;omega) | simp,lF.out _ _ _ fg ((Below.refl _ _).setCell (by first | omega | (simp;omega) | simp) _)⟩,?_⟩;exact ((KF.of_below ai).trans cG).later ((Below.refl _ _).setCell (by first | omega | (simp;omega) | simp) _))
 | true=>(
 obtain⟨jp,cG,eV⟩:=hr;have bR3:=cG.boxed (by omega) bR;have c0:W3.cell? ⟨W.heap.size,0,none⟩=some (.int .u64 xan):=cG.cell (by omega) (af 0 _ rfl);have c1:W3.cell? ⟨W.heap.size,1,none⟩=some (.int .u64 xam):=cG.cell (by omega) (af 1 _ rfl);have c2:W3.cell? ⟨W.heap.size,2,none⟩=some (.slice xasA xass.length xasc):=cG.cell (by omega) (af 2 _ rfl);have c3:W3.cell? ⟨W.heap.size,3,none⟩=some (.slice xacA xacs.length xacc):=cG.cell (by omega) (af 3 _ rfl);have c4:W3.cell? ⟨W.heap.size,4,none⟩=some (.slice xavA xavs.length xavc):=cG.cell (by omega) (af 4 _ rfl);have c5:W3.cell? ⟨W.heap.size,5,none⟩=some (.int .u64 xn):=cG.cell (by omega) (af 5 _ rfl);have c6:W3.cell? ⟨W.heap.size,6,none⟩=some (.int .u64 xm):=cG.cell (by omega) (af 6 _ rfl);have c7:W3.cell? ⟨W.heap.size,7,none⟩=some (.slice xK xN.length xL):=cG.cell (by omega) (af 7 _ rfl);have c8:W3.cell? ⟨W.heap.size,8,none⟩=some (.slice xO xQ.length xP):=cG.cell (by omega) (af 8 _ rfl);have c9:W3.cell? ⟨W.heap.size,9,none⟩=some (.slice xR xU.length xS):=cG.cell (by omega) (af 9 _ rfl);have ce:W3.cell? ⟨W.heap.size+1,0,none⟩=some (.func (.func 66) #[] #[]):=cG.cell (by omega) ab;have cy:W3.cell? ⟨W.heap.size+1+1,0,none⟩=some (.func (.yield l) #[] #[]):=cG.cell (by omega) bj;have mj:KN D B W W3:=(KN.of_below ai).trans cG;have vf:=cG.size;simp only[World.size_alloc] at vf;clear cG bR af ab bj;have HG:=Lh (juc (Vl.mk xan xam xasA xasc xass xacA xacc xacs xavA xavc xavs,Vl.mk xn xm xK xL xN xO xP xQ xR xS xU) D _ (jde.kn mj _ HM.out.1) eV (by omega));gi_wp2_with fail
 refine⟨trivial,(callsIn_wide.2 HG.out).mono ?_⟩;rintro e W4 ⟨bt,rfl,ca,bw⟩;have ce4:=(ca.cell (p:=⟨W.heap.size+1,0,none⟩) (by simp only;omega)).trans ce;have cy4:=(ca.cell (p:=⟨W.heap.size+1+1,0,none⟩) (by simp only;omega)).trans cy;have bR4:Boxed W4 (W.heap.size+1+1+1) 4 (.bool false):=(ca.block _ (by omega)).trans bR3;have mQ:KN D B W W4:=mj.trans (KN.of_below ca);have ud:=HJ.out _ _ _ jp (ca.mono (leT hB mj.size));clear c0 c1 c2 c3 c4 c5 c6 c7 c8 c9 ce cy bR3 mj jp;have o4:=mQ.size;have hs34:=ca.size;have nw:B<=W4.heap.size:=leT hB o4;have i8:=Lh bw;have mu:Hid (l0.map Nd.lab=jvk (Vl.mk xan xam xasA xasc xass xacA xacc xacs xavA xavc xavs,Vl.mk xn xm xK xL xN xO xP xQ xR xS xU)):=HM.out.2.1 eV;clear bw eV ca;gi_wp2_with fail
 refine jjf rfl (enters_of Tryz.func107 (by kernel_rfl) rfl) i8.out (fun _=>rfl)
   (fun k X=>(J (k0+1+(Nd.preL (l0.take k)).length) X/\KN D B W X)/\X.cell? ⟨W.heap.size+1,0,none⟩=some (.func (.func 66) #[] #[])/\X.cell? ⟨W.heap.size+1+1,0,none⟩=some (.func (.yield l) #[] #[])/\Boxed X (W.heap.size+1+1+1) 4 (.bool false))
   (fun c _ X=>c = .ret/\Boxed X (W.heap.size+1+1+1) 4 (.bool false)/\(∃ k,k<k0+(Nd.preL l0).length+1/\Jx k X)/\KF B W X)
   (fun k X Y ⟨⟨h1,h2⟩,h3,h4,h5⟩ hb=>⟨⟨HJ.out _ _ _ h1 (hb.mono nw),h2.later (hb.mono o4)⟩,(hb.cell (p:=⟨W.heap.size+1,0,none⟩) (by simp only;omega)).trans h3,(hb.cell (p:=⟨W.heap.size+1+1,0,none⟩) (by simp only;omega)).trans h4,(hb.block _ (by omega)).trans h5⟩)
   (fun c k X Y ⟨h1,h2,⟨k',h3,h4⟩,h5⟩ hb=>⟨h1,(hb.block _ (by omega)).trans h2,⟨k',h3,lF.out _ _ _ h4 (hb.mono nw)⟩,h5.later (hb.mono o4)⟩)
   ⟨⟨by simpa[Nd.preL] using ud,mQ⟩,ce4,cy4,bR4⟩
   (fun y a' X=>∃ bp,a'={ tmps:=#[.agg #[.int .u64 xan,.int .u64 xam,.slice xasA xass.length xasc,.slice xacA xacs.length xacc,.slice xavA xavs.length xavc,.int .u64 xn,.int .u64 xm,.slice xK xN.length xL,.slice xO xQ.length xP,.slice xR xU.length xS],.func (.func 66) #[] #[],.func (.yield l) #[] #[],.pointer (some ⟨W.heap.size,0,none⟩),.pointer (some ⟨W.heap.size+1,0,none⟩),.pointer (some ⟨W.heap.size+1+1,0,none⟩),.pointer (some ⟨W.heap.size+1+1+1,0,none⟩),.pointer (some ⟨bp,0,none⟩),.func (.yield l) #[] #[],.agg #[.int .u64 xan,.int .u64 xam,.slice xasA xass.length xasc,.slice xacA xacs.length xacc,.slice xavA xavs.length xavc,.int .u64 xn,.int .u64 xm,.slice xK xN.length xL,.slice xO xQ.length xP,.slice xR xU.length xS],.bool true,.bool false,.func (.func 66) #[] #[],.agg #[.int .u64 xan,.int .u64 xam,.slice xasA xass.length xasc,.slice xacA xacs.length xacc,.slice xavA xavs.length xavc,.int .u64 xn,.int .u64 xm,.slice xK xN.length xL,.slice xO xQ.length xP,.slice xR xU.length xS],
       .func (.func 107) #[] #[.pointer (some ⟨bt,0,none⟩)],jpo y,undef,undef,undef,undef,undef],defers:=[] } /\
     ∀ i v,(jqy y)[i]?=some v->X.cell? ⟨bp,i,none⟩=some v)
   ?ax ?assign ?body ?done ?stop
 case ax=>(rintro y a' _ X Y row ⟨bp,h1,h2⟩ hg hr;exact⟨bp,h1,fun i v h=>cell_kept (h2 i v h) hg (fun r e=>(hr r e).2)⟩)
 case assign=>(
 intro l2 k y X K _ _ hK;obtain⟨⟨yan,yam,yasA,yasc,yass,yacA,yacc,yacs,yavA,yavc,yavs⟩,yn,ym,yK,yL,yN,yO,yP,yQ,yR,yS,yT⟩:=y;unfold jrx;simp only[jpo,jqy,Vl.n,Vl.m,Vl.s1,Vl.c1,Vl.v1];gi_wp2
 exact hK _ _ (jzf _ _) ⟨X.heap.size,rfl,fun i v h=>jzs i v h⟩)
 case body=>(
 rintro l2 k y a' X nr nN ⟨⟨ep,cX⟩,h3,h4,h5⟩ ⟨bp,rfl,hc⟩;obtain⟨t,mz,iC⟩:∃ t,l0[k]?=some t/\t.lab=y:=by (rw[<- mu.out,List.getElem?_map] at nN;exact Option.map_eq_some_iff.1 nN)
 have HT:=Lh (And.intro mz iC);have cz:At zs (k0+1+(Nd.preL (l0.take k)).length) t.pre:=by (
 have h1:At zs (k0+1) (Nd.preL l0):=by (have h0:At zs k0 ([(Vl.mk xan xam xasA xasc xass xacA xacc xacs xavA xavc xavs,Vl.mk xn xm xK xL xN xO xP xQ xR xS xU)]++Nd.preL l0):=nM.out;exact h0.right)
 rw[jx9 mz] at h1;exact h1.right.left)
 have HR:=Lh (IH.out t (List.mem_of_getElem? mz) _ X ((HM.out.2.2 t (List.mem_of_getElem? mz)).mono (jde.kn cX)) (leT nw nr) ep cz);clear mz iC cz nN;obtain⟨⟨yan,yam,yasA,yasc,yass,yacA,yacc,yacs,yavA,yavc,yavs⟩,yn,ym,yK,yL,yN,yO,yP,yQ,yR,yS,yT⟩:=y;have iC:=HT.out.2;simp only[iC] at HR;simp only[jpo,jqy,Vl.n,Vl.m,Vl.s1,Vl.c1,Vl.v1] at HR;have e0:=hc 0 _ rfl;have e1:=hc 1 _ rfl;have e2:=hc 2 _ rfl;have e3:=hc 3 _ rfl;have e4:=hc 4 _ rfl;have e5:=hc 5 _ rfl;have e6:=hc 6 _ rfl;have e7:=hc 7 _ rfl;have e8:=hc 8 _ rfl;have e9:=hc 9 _ rfl;simp only[jpo,jqy,Vl.n,Vl.m,Vl.s1,Vl.c1,Vl.v1] at e0 e1 e2 e3 e4 e5 e6 e7 e8 e9 ⊢;clear hc iC;gi_wp2_with fail
 refine⟨trivial,rfl,(CallsIn.inRound l2 (callsIn_wide.2 HR.out)).mono ?_⟩;clear HR e0 e1 e2 e3 e4 e5 e6 e7 e8 e9;rintro e X5 (⟨rfl,fJ,dD⟩ | ⟨rfl,⟨k',eN,ff⟩,j9⟩)
 ·(
 have t8:J (k0+1+(Nd.preL (l0.take (k+1))).length) X5:=by (rw[jv2 HT.out.1,List.length_append,<- Nat.add_assoc];exact fJ)
 have g3:=dD.cell (by omega) h3;have g4:=dD.cell (by omega) h4;have g5:=dD.boxed (by omega) h5;gi_wp2_with fail
 exact⟨dD.mono nw,⟨⟨t8,cX.trans dD⟩,g3,g4,g5⟩,trivial⟩)
 ·(
 have g5:=j9.boxed (by omega) h5;have b8:=g5.cell;have fW:=g5.frozen;have hk9:k'<k0+(Nd.preL l0).length+1:=by (have:=congrArg List.length (jx9 HT.out.1);simp only[List.length_append] at this;omega)
 gi_wp2_with fail
 refine⟨(j9.mono nw).trans (KF.set (by omega) _),rfl,g5.set _,⟨k',hk9,lF.out _ _ _ ff ((Below.refl _ _).setCell (by first | omega | (simp;omega) | simp) _)⟩,?_⟩;exact (cX.kf.trans j9).later ((Below.refl _ _).setCell (by first | omega | (simp;omega) | simp) _)))
 case done=>(
 rintro E X hE ⟨⟨ep,cX⟩,-,-,h5⟩ eK;have aq:(jvk (Vl.mk xan xam xasA xasc xass xacA xacc xacs xavA xavc xavs,Vl.mk xn xm xK xL xN xO xP xQ xR xS xU)).length=l0.length:=by rw[<- mu.out,List.length_map]
 rw[aq,List.take_length] at ep;have b8:=h5.cell;have fW:=h5.frozen;clear aq;gi_wp2
 have hne:W.heap.size+1+1+1≠E:=by omega
 have fX:(X.setCell ⟨W.heap.size+1+1+1,0,none⟩ (.bool true)).heap[E]?=some (.deferred (some [])):=(Below.heap_setCell _ _ _ _ (Ne.symm hne)).trans eK;refine⟨by simp,.inl ⟨_,_,rfl,run_takeDeferred fX,?_⟩⟩;refine⟨_,jzr rfl rfl _ _ (W.heap.size+1+1+1) (.bool true) rfl ((World.cell?_of_block (World.putObj_heap_other hne)).trans (h5.set (.bool true)).cell),?_⟩;have jG:Below W.heap.size X ((X.setCell ⟨W.heap.size+1+1+1,0,none⟩ (.bool true)).putObj E (.deferred none)):=((Below.refl _ _).setCell (by first | omega | (simp;omega) | simp) _).trans ⟨rfl,rfl,rfl,by simp,fun q hq=>World.putObj_heap_other (by omega)⟩;refine .inl ⟨rfl,?_,cX.later jG⟩;have:=HJ.out _ _ _ ep (jG.mono hB);simpa[Nat.add_assoc,Nat.add_comm,Nat.add_left_comm] using this)
 case stop=>(
 rintro E c k X hE hk ⟨rfl,h5,⟨k',eN,eJ⟩,tA⟩ eK;have b8:=h5.cell;gi_wp2
 have hne:W.heap.size+1+1+1≠E:=by omega
 refine⟨by simp,.inl ⟨_,_,rfl,run_takeDeferred eK,?_⟩⟩;refine⟨_,jzr rfl rfl _ _ (W.heap.size+1+1+1) (.bool false) rfl ((World.cell?_of_block (World.putObj_heap_other hne)).trans b8),?_⟩;have jG:Below W.heap.size X (X.putObj E (.deferred none)):=⟨rfl,rfl,rfl,by simp,fun q hq=>World.putObj_heap_other (by omega)⟩;exact .inr ⟨rfl,⟨k',by first | omega | (simp;omega) | simp,lF.out _ _ _ eJ (jG.mono hB)⟩,tA.later jG⟩)))
theorem jci(T:Nd (Vl×Vl))(D Bt Bi:Nat)(w:World)(hg:jdb (jde D w) jw8 jvk T)(hD:D<w.heap.size)(fi:∀ i v,(jqy T.lab)[i]?=some v->w.cell? ⟨Bt,i,none⟩=some v)(jq:w.cell? ⟨Bi,0,none⟩=some (.func (.func 66) #[] #[])):jf8 Tryz.prog 105 #[.pointer (some ⟨Bt,0,none⟩),.pointer (some ⟨Bi,0,none⟩)] jrx D jw8 T.pre w:=by
 intro l J Jx W hW hJ eJ hY h0;have HR:=Lh (goInto_K l D W.heap.size T.pre J Jx hJ eJ (ltl hD hW.size) hY T 0 W (hg.mono (jde.kn (B:=0) (KN.of_below hW))) (Nat.le_refl _) h0 (At.all _));have hi:=(hW.cell (p:=⟨Bi,0,none⟩) (World.block_lt_of_cell? w _ jq)).trans jq;have hc:∀ i v,(jqy T.lab)[i]?=some v->W.cell? ⟨Bt,i,none⟩=some v:=fun i v h=>(hW.cell (p:=⟨Bt,i,none⟩) (World.block_lt_of_cell? w _ (fi i v h))).trans (fi i v h)
 clear hY hJ eJ fi jq hg;obtain⟨x,l0⟩:=T;rw[Nd.lab] at hc;simp only[Nd.lab] at HR;obtain⟨⟨yan,yam,yasA,yasc,yass,yacA,yacc,yacs,yavA,yavc,yavs⟩,yn,ym,yK,yL,yN,yO,yP,yQ,yR,yS,yT⟩:=x;have e0:=hc 0 _ rfl;have e1:=hc 1 _ rfl;have e2:=hc 2 _ rfl;have e3:=hc 3 _ rfl;have e4:=hc 4 _ rfl;have e5:=hc 5 _ rfl;have e6:=hc 6 _ rfl;have e7:=hc 7 _ rfl;have e8:=hc 8 _ rfl;have e9:=hc 9 _ rfl;simp only[jpo,jqy,Vl.n,Vl.m,Vl.s1,Vl.c1,Vl.v1] at e0 e1 e2 e3 e4 e5 e6 e7 e8 e9 HR;clear hc;refine (callsIn_wide (n:=6)).1 (callsIn_of_wp Tryz.func105 rfl trivial ?_ rfl);simp only[Tryz.ntmps105,List.size_toArray,List.length_cons,List.length_nil,Nat.reduceAdd,Nat.reduceSub,Array.replicate_succ,Array.replicate_zero,List.push_toArray,List.append_toArray,List.nil_append,List.cons_append];gi_wp2_with fail
 refine⟨trivial,(callsIn_wide.2 HR.out).mono ?_⟩;rintro e W5 (⟨rfl,fJ,dD⟩ | ⟨rfl,⟨k,hk,ff⟩,-⟩)
 ·(
 gi_wp2_with fail
 go_end0
 rw[Nat.zero_add] at fJ;exact⟨⟨_,rfl⟩,.inl fJ⟩)
 ·(
 gi_wp2_with fail
 go_end0
 exact⟨⟨_,rfl⟩,.inr ⟨k,by omega,ff⟩⟩)
def NestsK(T:Nd (Vl×Vl))(w:World)(e:Ending)(w':World):Prop :=
  ∃ b1 b2,e = .returned (.func (.func 105) #[] #[.pointer (some ⟨b1,0,none⟩),.pointer (some ⟨b2,0,none⟩)])/\Below w.heap.size w w' /\
    ∀ D w2,Below w'.heap.size w' w2->w.heap.size<=D->D<w2.heap.size->jf8 Tryz.prog 105 #[.pointer (some ⟨b1,0,none⟩),.pointer (some ⟨b2,0,none⟩)] jrx D jw8 T.pre w2
theorem nested_K(T:Nd (Vl×Vl))(w:World)(hg:∀ D,w.heap.size<=D->jdb (jde D w) jw8 jvk T):Calls Tryz.prog 65 #[jpo T.lab,.func (.func 66) #[] #[]] w (NestsK T w):=by
 have ai:Below w.heap.size w ((w.alloc (.cells (jqy T.lab) 105)).alloc (.cells #[.func (.func 66) #[] #[]] 109)):=jzk (jzk (Below.refl _ _));have HS:Hid (∀ D w2,Below ((w.alloc (.cells (jqy T.lab) 105)).alloc (.cells #[.func (.func 66) #[] #[]] 109)).heap.size ((w.alloc (.cells (jqy T.lab) 105)).alloc (.cells #[.func (.func 66) #[] #[]] 109)) w2->w.heap.size<=D->D<w2.heap.size->jf8 Tryz.prog 105 #[.pointer (some ⟨w.heap.size,0,none⟩),.pointer (some ⟨w.heap.size+1,0,none⟩)] jrx D jw8 T.pre w2):=by (
 intro D w2 ab hD eK;refine jci T D _ _ _ ((hg D hD).mono (jde.kn (B:=0) (KN.of_below (ai.trans (ab.mono ai.size))))) eK (fun i v h=>?_) ?_
 ·exact (ab.cell (p:=⟨w.heap.size,i,none⟩) (by simp;omega)).trans (((jq3 (Below.refl (w.heap.size+1) (w.alloc (.cells (jqy T.lab) 105))) (by simp)).cell (p:=⟨w.heap.size,i,none⟩) (by simp)).trans (jzs i v h))
 ·(have:=jzs (w:=w.alloc (.cells (jqy T.lab) 105)) (cs:=#[.func (.func 66) #[] #[]]) (t:=109) 0 _ rfl;rw[World.size_alloc] at this;exact (ab.cell (p:=⟨w.heap.size+1,0,none⟩) (by simp)).trans this))
 have HB:=Lh ai;clear hg ai;obtain⟨x,l0⟩:=T;simp only[Nd.lab] at HS HB ⊢;obtain⟨⟨yan,yam,yasA,yasc,yass,yacA,yacc,yacs,yavA,yavc,yavs⟩,yn,ym,yK,yL,yN,yO,yP,yQ,yR,yS,yT⟩:=x;simp only[jpo,jqy,Vl.n,Vl.m,Vl.s1,Vl.c1,Vl.v1] at HS HB ⊢;go_enter Tryz.func65,Tryz.ntmps65;go_wp2_with fail;go_ret;exact⟨_,_,rfl,HB.out,HS.out⟩
end V4
namespace V4
open Go.RowKit Go.Shelf
open S2 (Sc jx0 jzf jzr)
open C3 (jzk)
attribute [local go_sem] Oper.semAt_some
end V4
namespace V4
open Go.RowKit Go.Shelf
open S2 (Sc jx0 jzf jzr)
open C3 (jzk)
attribute [local go_sem] Oper.semAt_some
def InT(w:World)(x:Sc×Vl):Prop:=x.1.In w.heap.size w/\x.2.In w
def InK(w:World)(x:Vl×Vl):Prop:=x.1.In w/\x.2.In w
def InC(w:World)(x:Ck):Prop:=x.Inp (fun b=>b<w.heap.size) w
theorem InT.later{w w':World}{x:Sc×Vl}(h:InT w x)(hb:Below w.heap.size w w'):InT w' x:=⟨h.1.later hb,h.2.later hb⟩
theorem InK.later{w w':World}{x:Vl×Vl}(h:InK w x)(hb:Below w.heap.size w w'):InK w' x:=⟨h.1.later hb,h.2.later hb⟩
theorem InC.later{w w':World}{x:Ck}(h:InC w x)(hb:Below w.heap.size w w'):InC w' x:=(Ck.Inp.keep h fun b hlt=>hb.block b hlt).mono fun _ hlt=>ltl hlt hb.size
theorem jqq{α:Type}{p:α->Bool}{zs:List α}{k:Nat}{x:α}(hx:zs[k]?=some x):(zs.take (k+1)).all p=((zs.take k).all p && p x):=by
 obtain⟨hk,he⟩:=List.getElem?_eq_some_iff.1 hx;rw[List.take_succ_eq_append_getElem hk,he,List.all_append];simp
theorem jj3{α:Type}{p:α->Bool}{zs:List α}{k:Nat}{x:α}(hx:zs[k]?=some x)(hp:p x=false):zs.all p=false:=by
 refine Bool.eq_false_iff.2 fun h=>?_
 have:=List.all_eq_true.1 h x (List.mem_of_getElem? hx);rw[hp] at this;cases this
theorem jd6(p:Sc×Vl->Bool)(zs:List (Sc×Vl))(hf:∀ x∈zs,∀ W,InT W x->Calls Tryz.prog 39 #[jkb x] W (jz6 W (.bool (p x))))(ok:Sc×Vl->Prop)(eH:∀ x∈zs,p x=true->ok x)(g:Nat)(lb:Array Value)(eg:Enters Tryz.prog g)(w:World)(bw:∀ D w2,Below w.heap.size w w2->w.heap.size<=D->D<w2.heap.size->jf8 Tryz.prog g lb jjk D ok zs w2)(dn:∀ x∈zs,InT w x):Calls Tryz.prog 36 #[.func (.func g) #[] lb,.func (.func 39) #[] #[]] w (jz6 w (.bool (zs.all p))):=by
 have HF:=Lh hf;have tb:=Lh eH;have HE:=Lh eg;have HS:=Lh bw;have HM:=Lh dn;clear hf eH eg bw dn;refine (callsIn_wide (n:=6)).1 (callsIn_of_wp_marks Tryz.func36 rfl trivial ?_ rfl);simp only[Tryz.ntmps36,List.size_toArray,List.length_cons,List.length_nil,Nat.reduceAdd,Nat.reduceSub,Array.replicate_succ,Array.replicate_zero,List.push_toArray,List.append_toArray,List.nil_append,List.cons_append];gi_wp2_with fail
 obtain⟨V,hV⟩:=exq ((w.alloc (.cells #[.func (.func 39) #[] #[]] 81)).alloc (.cells #[.bool false] 4));have cm:Below w.heap.size w V:=by rw[<- hV];exact jzk (jzk (Below.refl _ _))
 have ae:V.heap.size=w.heap.size+2:=by rw[<- hV];simp
 have bR:Boxed V (w.heap.size+1) 4 (.bool false):=by (have:=Boxed.new (w.alloc (.cells #[.func (.func 39) #[] #[]] 81)) 4 (.bool false);rw[World.size_alloc,hV] at this;exact this)
 have cI:V.cell? ⟨w.heap.size,0,none⟩=some (.func (.func 39) #[] #[]):=by (rw[<- hV];exact ((jq3 (Below.refl (w.heap.size+1) (w.alloc (.cells #[.func (.func 39) #[] #[]] 81))) (by simp)).cell (p:=⟨w.heap.size,0,none⟩) (by simp)).trans (jzs 0 _ rfl))
 rw[hV];clear hV;refine jjf rfl HE.out (HS.out (w.heap.size+1) V cm (by omega) (by omega)) (fun _=>rfl)
   (fun k X=>(Boxed X (w.heap.size+1) 4 (.bool false)/\Below w.heap.size w X)/\X.cell? ⟨w.heap.size,0,none⟩=some (.func (.func 39) #[] #[])/\(zs.take k).all p=true)
   (fun c _ X=>(Boxed X (w.heap.size+1) 4 (.bool false)/\Below w.heap.size w X)/\c = .ret/\zs.all p=false)
   (fun k X Y ⟨⟨h1,h2⟩,h3,h4⟩ hb=>⟨⟨(hb.block _ (by omega)).trans h1,h2.trans (hb.mono (by omega))⟩,(hb.cell (p:=⟨w.heap.size,0,none⟩) (by simp only;omega)).trans h3,h4⟩)
   (fun c k X Y ⟨⟨h1,h2⟩,h3⟩ hb=>⟨⟨(hb.block _ (by omega)).trans h1,h2.trans (hb.mono (by omega))⟩,h3⟩)
   ⟨⟨bR,cm⟩,cI,rfl⟩
   (fun y a' X=>∃ bp,a'={ tmps:=#[.func (.func g) #[] lb,.func (.func 39) #[] #[],undef,.pointer (some ⟨w.heap.size,0,none⟩),.pointer (some ⟨w.heap.size+1,0,none⟩),.pointer (some ⟨bp,0,none⟩),.func (.func g) #[] lb,jkb y,undef,undef,undef,undef],defers:=[] }/\∀ i v,(jzx y)[i]?=some v->X.cell? ⟨bp,i,none⟩=some v)
   ?ax ?assign ?body ?done ?stop
 case ax=>(rintro y a' _ X Y row ⟨bp,h1,h2⟩ hg hr;exact⟨bp,h1,fun i v h=>cell_kept (h2 i v h) hg (fun r e=>(hr r e).2)⟩)
 case assign=>(
 intro l2 k y X K _ _ hK;obtain⟨⟨yk,yA,yc,yl⟩,yn,ym,yK,yL,yN,yO,yP,yQ,yR,yS,yT⟩:=y;unfold jjk;simp only[jkb,jzx,Sc.k,Sc.v1,Vl.n,Vl.m,Vl.s1,Vl.c1,Vl.v1];gi_wp2
 exact hK _ _ (jzf _ _) ⟨X.heap.size,rfl,fun i v h=>jzs i v h⟩)
 case body=>(
 rintro l2 k y a' X nr hx ⟨⟨h1,h2⟩,h3,h4⟩ ⟨bp,rfl,hc⟩;have HX:=Lh hx;have hb:=h2;have b8:=h1.cell;have fW:=h1.frozen;have HR:=Lh (HF.out y (List.mem_of_getElem? hx) X ((HM.out y (List.mem_of_getElem? hx)).later h2));obtain⟨q,hq⟩:=exq (p y);have HQ:=Lh hq;have HP:=Lh h4;rw[hq] at HR;clear hx hq h4;obtain⟨⟨yk,yA,yc,yl⟩,yn,ym,yK,yL,yN,yO,yP,yQ,yR,yS,yT⟩:=y;have e0:=hc 0 _ rfl;have e1:=hc 1 _ rfl;have e2:=hc 2 _ rfl;have e3:=hc 3 _ rfl;have e4:=hc 4 _ rfl;have e5:=hc 5 _ rfl;have e6:=hc 6 _ rfl;simp only[jkb,jzx,Sc.k,Sc.v1,Vl.n,Vl.m,Vl.s1,Vl.c1,Vl.v1] at e0 e1 e2 e3 e4 e5 e6 HR ⊢;clear hc;gi_wp2_with fail
 refine⟨trivial,rfl,(CallsIn.inRound l2 (callsIn_wide.2 HR.out)).mono ?_⟩;clear HR e0 e1 e2 e3 e4 e5 e6;rintro e X5 ⟨rfl,bh⟩;have g1:Boxed X5 (w.heap.size+1) 4 (.bool false):=(bh.block _ (by omega)).trans h1;have g3:=(bh.cell (p:=⟨w.heap.size,0,none⟩) (by simp only;omega)).trans h3;have jU:Below w.heap.size w X5:=h2.trans (bh.mono h2.size);cases q with
 | true=>(
 gi_wp2_with fail
 exact⟨KN.of_below bh,⟨⟨g1,jU⟩,g3,by rw[jqq HX.out,HP.out,HQ.out];rfl⟩,tb.out _ (List.mem_of_getElem? HX.out) HQ.out⟩)
 | false=>(
 have pc:=g1.cell;have pd:=g1.frozen;gi_wp2_with fail
 exact⟨(KF.of_below bh).trans (KF.set (by omega) _),⟨g1.set _,jU.setCell (by first | omega | (simp;omega) | simp) _⟩,rfl,jj3 HX.out HQ.out⟩))
 case done=>(
 rintro E X hE ⟨⟨hR,hB⟩,-,hp⟩ hK;have b8:=hR.cell;have fW:=hR.frozen;rw[List.take_length] at hp;have HP:=Lh hp;clear hp;gi_wp2
 have hne:w.heap.size+1≠E:=by omega
 have fX:(X.setCell ⟨w.heap.size+1,0,none⟩ (.bool true)).heap[E]?=some (.deferred (some [])):=(Below.heap_setCell _ _ _ _ (Ne.symm hne)).trans hK;refine⟨by simp,.inl ⟨_,_,rfl,run_takeDeferred fX,?_⟩⟩;refine⟨_,jzr rfl rfl _ _ (w.heap.size+1) (.bool true) rfl ((World.cell?_of_block (World.putObj_heap_other hne)).trans (hR.set (.bool true)).cell),?_⟩;rw[HP.out];exact⟨rfl,(hB.setCell (by first | omega | (simp;omega) | simp) _).trans ⟨rfl,rfl,rfl,by simp,fun q hq=>World.putObj_heap_other (by omega)⟩⟩)
 case stop=>(
 rintro E c k X hE hk ⟨⟨hR,hB⟩,rfl,hp⟩ hK;have b8:=hR.cell;have HP:=Lh hp;clear hp;gi_wp2
 have hne:w.heap.size+1≠E:=by omega
 refine⟨by simp,.inl ⟨_,_,rfl,run_takeDeferred hK,?_⟩⟩;refine⟨_,jzr rfl rfl _ _ (w.heap.size+1) (.bool false) rfl ((World.cell?_of_block (World.putObj_heap_other hne)).trans b8),?_⟩;rw[HP.out];exact⟨rfl,hB.trans ⟨rfl,rfl,rfl,by simp,fun q hq=>World.putObj_heap_other (by omega)⟩⟩)
theorem jcv(p:Sc×Vl->Bool)(zs:List (Sc×Vl))(hf:∀ x∈zs,∀ W,InT W x->Calls Tryz.prog 161 #[jkb x] W (jz6 W (.bool (p x))))(ok:Sc×Vl->Prop)(eH:∀ x∈zs,p x=true->ok x)(g:Nat)(lb:Array Value)(eg:Enters Tryz.prog g)(w:World)(bw:∀ D w2,Below w.heap.size w w2->w.heap.size<=D->D<w2.heap.size->jf8 Tryz.prog g lb jjk D ok zs w2)(dn:∀ x∈zs,InT w x):Calls Tryz.prog 36 #[.func (.func g) #[] lb,.func (.func 161) #[] #[]] w (jz6 w (.bool (zs.all p))):=by
 have HF:=Lh hf;have tb:=Lh eH;have HE:=Lh eg;have HS:=Lh bw;have HM:=Lh dn;clear hf eH eg bw dn;refine (callsIn_wide (n:=6)).1 (callsIn_of_wp_marks Tryz.func36 rfl trivial ?_ rfl);simp only[Tryz.ntmps36,List.size_toArray,List.length_cons,List.length_nil,Nat.reduceAdd,Nat.reduceSub,Array.replicate_succ,Array.replicate_zero,List.push_toArray,List.append_toArray,List.nil_append,List.cons_append];gi_wp2_with fail
 obtain⟨V,hV⟩:=exq ((w.alloc (.cells #[.func (.func 161) #[] #[]] 81)).alloc (.cells #[.bool false] 4));have cm:Below w.heap.size w V:=by rw[<- hV];exact jzk (jzk (Below.refl _ _))
 have ae:V.heap.size=w.heap.size+2:=by rw[<- hV];simp
 have bR:Boxed V (w.heap.size+1) 4 (.bool false):=by (have:=Boxed.new (w.alloc (.cells #[.func (.func 161) #[] #[]] 81)) 4 (.bool false);rw[World.size_alloc,hV] at this;exact this)
 have cI:V.cell? ⟨w.heap.size,0,none⟩=some (.func (.func 161) #[] #[]):=by (rw[<- hV];exact ((jq3 (Below.refl (w.heap.size+1) (w.alloc (.cells #[.func (.func 161) #[] #[]] 81))) (by simp)).cell (p:=⟨w.heap.size,0,none⟩) (by simp)).trans (jzs 0 _ rfl))
 rw[hV];clear hV;refine jjf rfl HE.out (HS.out (w.heap.size+1) V cm (by omega) (by omega)) (fun _=>rfl)
   (fun k X=>(Boxed X (w.heap.size+1) 4 (.bool false)/\Below w.heap.size w X)/\X.cell? ⟨w.heap.size,0,none⟩=some (.func (.func 161) #[] #[])/\(zs.take k).all p=true)
   (fun c _ X=>(Boxed X (w.heap.size+1) 4 (.bool false)/\Below w.heap.size w X)/\c = .ret/\zs.all p=false)
   (fun k X Y ⟨⟨h1,h2⟩,h3,h4⟩ hb=>⟨⟨(hb.block _ (by omega)).trans h1,h2.trans (hb.mono (by omega))⟩,(hb.cell (p:=⟨w.heap.size,0,none⟩) (by simp only;omega)).trans h3,h4⟩)
   (fun c k X Y ⟨⟨h1,h2⟩,h3⟩ hb=>⟨⟨(hb.block _ (by omega)).trans h1,h2.trans (hb.mono (by omega))⟩,h3⟩)
   ⟨⟨bR,cm⟩,cI,rfl⟩
   (fun y a' X=>∃ bp,a'={ tmps:=#[.func (.func g) #[] lb,.func (.func 161) #[] #[],undef,.pointer (some ⟨w.heap.size,0,none⟩),.pointer (some ⟨w.heap.size+1,0,none⟩),.pointer (some ⟨bp,0,none⟩),.func (.func g) #[] lb,jkb y,undef,undef,undef,undef],defers:=[] }/\∀ i v,(jzx y)[i]?=some v->X.cell? ⟨bp,i,none⟩=some v)
   ?ax ?assign ?body ?done ?stop
 case ax=>(rintro y a' _ X Y row ⟨bp,h1,h2⟩ hg hr;exact⟨bp,h1,fun i v h=>cell_kept (h2 i v h) hg (fun r e=>(hr r e).2)⟩)
 case assign=>(
 intro l2 k y X K _ _ hK;obtain⟨⟨yk,yA,yc,yl⟩,yn,ym,yK,yL,yN,yO,yP,yQ,yR,yS,yT⟩:=y;unfold jjk;simp only[jkb,jzx,Sc.k,Sc.v1,Vl.n,Vl.m,Vl.s1,Vl.c1,Vl.v1];gi_wp2
 exact hK _ _ (jzf _ _) ⟨X.heap.size,rfl,fun i v h=>jzs i v h⟩)
 case body=>(
 rintro l2 k y a' X nr hx ⟨⟨h1,h2⟩,h3,h4⟩ ⟨bp,rfl,hc⟩;have HX:=Lh hx;have hb:=h2;have b8:=h1.cell;have fW:=h1.frozen;have HR:=Lh (HF.out y (List.mem_of_getElem? hx) X ((HM.out y (List.mem_of_getElem? hx)).later h2));obtain⟨q,hq⟩:=exq (p y);have HQ:=Lh hq;have HP:=Lh h4;rw[hq] at HR;clear hx hq h4;obtain⟨⟨yk,yA,yc,yl⟩,yn,ym,yK,yL,yN,yO,yP,yQ,yR,yS,yT⟩:=y;have e0:=hc 0 _ rfl;have e1:=hc 1 _ rfl;have e2:=hc 2 _ rfl;have e3:=hc 3 _ rfl;have e4:=hc 4 _ rfl;have e5:=hc 5 _ rfl;have e6:=hc 6 _ rfl;simp only[jkb,jzx,Sc.k,Sc.v1,Vl.n,Vl.m,Vl.s1,Vl.c1,Vl.v1] at e0 e1 e2 e3 e4 e5 e6 HR ⊢;clear hc;gi_wp2_with fail
 refine⟨trivial,rfl,(CallsIn.inRound l2 (callsIn_wide.2 HR.out)).mono ?_⟩;clear HR e0 e1 e2 e3 e4 e5 e6;rintro e X5 ⟨rfl,bh⟩;have g1:Boxed X5 (w.heap.size+1) 4 (.bool false):=(bh.block _ (by omega)).trans h1;have g3:=(bh.cell (p:=⟨w.heap.size,0,none⟩) (by simp only;omega)).trans h3;have jU:Below w.heap.size w X5:=h2.trans (bh.mono h2.size);cases q with
 | true=>(
 gi_wp2_with fail
 exact⟨KN.of_below bh,⟨⟨g1,jU⟩,g3,by rw[jqq HX.out,HP.out,HQ.out];rfl⟩,tb.out _ (List.mem_of_getElem? HX.out) HQ.out⟩)
 | false=>(
 have pc:=g1.cell;have pd:=g1.frozen;gi_wp2_with fail
 exact⟨(KF.of_below bh).trans (KF.set (by omega) _),⟨g1.set _,jU.setCell (by first | omega | (simp;omega) | simp) _⟩,rfl,jj3 HX.out HQ.out⟩))
 case done=>(
 rintro E X hE ⟨⟨hR,hB⟩,-,hp⟩ hK;have b8:=hR.cell;have fW:=hR.frozen;rw[List.take_length] at hp;have HP:=Lh hp;clear hp;gi_wp2
 have hne:w.heap.size+1≠E:=by omega
 have fX:(X.setCell ⟨w.heap.size+1,0,none⟩ (.bool true)).heap[E]?=some (.deferred (some [])):=(Below.heap_setCell _ _ _ _ (Ne.symm hne)).trans hK;refine⟨by simp,.inl ⟨_,_,rfl,run_takeDeferred fX,?_⟩⟩;refine⟨_,jzr rfl rfl _ _ (w.heap.size+1) (.bool true) rfl ((World.cell?_of_block (World.putObj_heap_other hne)).trans (hR.set (.bool true)).cell),?_⟩;rw[HP.out];exact⟨rfl,(hB.setCell (by first | omega | (simp;omega) | simp) _).trans ⟨rfl,rfl,rfl,by simp,fun q hq=>World.putObj_heap_other (by omega)⟩⟩)
 case stop=>(
 rintro E c k X hE hk ⟨⟨hR,hB⟩,rfl,hp⟩ hK;have b8:=hR.cell;have HP:=Lh hp;clear hp;gi_wp2
 have hne:w.heap.size+1≠E:=by omega
 refine⟨by simp,.inl ⟨_,_,rfl,run_takeDeferred hK,?_⟩⟩;refine⟨_,jzr rfl rfl _ _ (w.heap.size+1) (.bool false) rfl ((World.cell?_of_block (World.putObj_heap_other hne)).trans b8),?_⟩;rw[HP.out];exact⟨rfl,hB.trans ⟨rfl,rfl,rfl,by simp,fun q hq=>World.putObj_heap_other (by omega)⟩⟩)
theorem jd8(p:Vl×Vl->Bool)(zs:List (Vl×Vl))(hf:∀ x∈zs,∀ W,InK W x->Calls Tryz.prog 67 #[jpo x] W (jz6 W (.bool (p x))))(ok:Vl×Vl->Prop)(eH:∀ x∈zs,p x=true->ok x)(g:Nat)(lb:Array Value)(eg:Enters Tryz.prog g)(w:World)(bw:∀ D w2,Below w.heap.size w w2->w.heap.size<=D->D<w2.heap.size->jf8 Tryz.prog g lb jrx D ok zs w2)(dn:∀ x∈zs,InK w x):Calls Tryz.prog 64 #[.func (.func g) #[] lb,.func (.func 67) #[] #[]] w (jz6 w (.bool (zs.all p))):=by
 have HF:=Lh hf;have tb:=Lh eH;have HE:=Lh eg;have HS:=Lh bw;have HM:=Lh dn;clear hf eH eg bw dn;refine (callsIn_wide (n:=6)).1 (callsIn_of_wp_marks Tryz.func64 rfl trivial ?_ rfl);simp only[Tryz.ntmps64,List.size_toArray,List.length_cons,List.length_nil,Nat.reduceAdd,Nat.reduceSub,Array.replicate_succ,Array.replicate_zero,List.push_toArray,List.append_toArray,List.nil_append,List.cons_append];gi_wp2_with fail
 obtain⟨V,hV⟩:=exq ((w.alloc (.cells #[.func (.func 67) #[] #[]] 110)).alloc (.cells #[.bool false] 4));have cm:Below w.heap.size w V:=by rw[<- hV];exact jzk (jzk (Below.refl _ _))
 have ae:V.heap.size=w.heap.size+2:=by rw[<- hV];simp
 have bR:Boxed V (w.heap.size+1) 4 (.bool false):=by (have:=Boxed.new (w.alloc (.cells #[.func (.func 67) #[] #[]] 110)) 4 (.bool false);rw[World.size_alloc,hV] at this;exact this)
 have cI:V.cell? ⟨w.heap.size,0,none⟩=some (.func (.func 67) #[] #[]):=by (rw[<- hV];exact ((jq3 (Below.refl (w.heap.size+1) (w.alloc (.cells #[.func (.func 67) #[] #[]] 110))) (by simp)).cell (p:=⟨w.heap.size,0,none⟩) (by simp)).trans (jzs 0 _ rfl))
 rw[hV];clear hV;refine jjf rfl HE.out (HS.out (w.heap.size+1) V cm (by omega) (by omega)) (fun _=>rfl)
   (fun k X=>(Boxed X (w.heap.size+1) 4 (.bool false)/\Below w.heap.size w X)/\X.cell? ⟨w.heap.size,0,none⟩=some (.func (.func 67) #[] #[])/\(zs.take k).all p=true)
   (fun c _ X=>(Boxed X (w.heap.size+1) 4 (.bool false)/\Below w.heap.size w X)/\c = .ret/\zs.all p=false)
   (fun k X Y ⟨⟨h1,h2⟩,h3,h4⟩ hb=>⟨⟨(hb.block _ (by omega)).trans h1,h2.trans (hb.mono (by omega))⟩,(hb.cell (p:=⟨w.heap.size,0,none⟩) (by simp only;omega)).trans h3,h4⟩)
   (fun c k X Y ⟨⟨h1,h2⟩,h3⟩ hb=>⟨⟨(hb.block _ (by omega)).trans h1,h2.trans (hb.mono (by omega))⟩,h3⟩)
   ⟨⟨bR,cm⟩,cI,rfl⟩
   (fun y a' X=>∃ bp,a'={ tmps:=#[.func (.func g) #[] lb,.func (.func 67) #[] #[],undef,.pointer (some ⟨w.heap.size,0,none⟩),.pointer (some ⟨w.heap.size+1,0,none⟩),.pointer (some ⟨bp,0,none⟩),.func (.func g) #[] lb,jpo y,undef,undef,undef,undef],defers:=[] }/\∀ i v,(jqy y)[i]?=some v->X.cell? ⟨bp,i,none⟩=some v)
   ?ax ?assign ?body ?done ?stop
 case ax=>(rintro y a' _ X Y row ⟨bp,h1,h2⟩ hg hr;exact⟨bp,h1,fun i v h=>cell_kept (h2 i v h) hg (fun r e=>(hr r e).2)⟩)
 case assign=>(
 intro l2 k y X K _ _ hK;obtain⟨⟨yan,yam,yasA,yasc,yass,yacA,yacc,yacs,yavA,yavc,yavs⟩,yn,ym,yK,yL,yN,yO,yP,yQ,yR,yS,yT⟩:=y;unfold jrx;simp only[jpo,jqy,Vl.n,Vl.m,Vl.s1,Vl.c1,Vl.v1];gi_wp2
 exact hK _ _ (jzf _ _) ⟨X.heap.size,rfl,fun i v h=>jzs i v h⟩)
 case body=>(
 rintro l2 k y a' X nr hx ⟨⟨h1,h2⟩,h3,h4⟩ ⟨bp,rfl,hc⟩;have HX:=Lh hx;have hb:=h2;have b8:=h1.cell;have fW:=h1.frozen;have HR:=Lh (HF.out y (List.mem_of_getElem? hx) X ((HM.out y (List.mem_of_getElem? hx)).later h2));obtain⟨q,hq⟩:=exq (p y);have HQ:=Lh hq;have HP:=Lh h4;rw[hq] at HR;clear hx hq h4;obtain⟨⟨yan,yam,yasA,yasc,yass,yacA,yacc,yacs,yavA,yavc,yavs⟩,yn,ym,yK,yL,yN,yO,yP,yQ,yR,yS,yT⟩:=y;have e0:=hc 0 _ rfl;have e1:=hc 1 _ rfl;have e2:=hc 2 _ rfl;have e3:=hc 3 _ rfl;have e4:=hc 4 _ rfl;have e5:=hc 5 _ rfl;have e6:=hc 6 _ rfl;have e7:=hc 7 _ rfl;have e8:=hc 8 _ rfl;have e9:=hc 9 _ rfl;simp only[jpo,jqy,Vl.n,Vl.m,Vl.s1,Vl.c1,Vl.v1] at e0 e1 e2 e3 e4 e5 e6 e7 e8 e9 HR ⊢;clear hc;gi_wp2_with fail
 refine⟨trivial,rfl,(CallsIn.inRound l2 (callsIn_wide.2 HR.out)).mono ?_⟩;clear HR e0 e1 e2 e3 e4 e5 e6 e7 e8 e9;rintro e X5 ⟨rfl,bh⟩;have g1:Boxed X5 (w.heap.size+1) 4 (.bool false):=(bh.block _ (by omega)).trans h1;have g3:=(bh.cell (p:=⟨w.heap.size,0,none⟩) (by simp only;omega)).trans h3;have jU:Below w.heap.size w X5:=h2.trans (bh.mono h2.size);cases q with
 | true=>(
 gi_wp2_with fail
 exact⟨KN.of_below bh,⟨⟨g1,jU⟩,g3,by rw[jqq HX.out,HP.out,HQ.out];rfl⟩,tb.out _ (List.mem_of_getElem? HX.out) HQ.out⟩)
 | false=>(
 have pc:=g1.cell;have pd:=g1.frozen;gi_wp2_with fail
 exact⟨(KF.of_below bh).trans (KF.set (by omega) _),⟨g1.set _,jU.setCell (by first | omega | (simp;omega) | simp) _⟩,rfl,jj3 HX.out HQ.out⟩))
 case done=>(
 rintro E X hE ⟨⟨hR,hB⟩,-,hp⟩ hK;have b8:=hR.cell;have fW:=hR.frozen;rw[List.take_length] at hp;have HP:=Lh hp;clear hp;gi_wp2
 have hne:w.heap.size+1≠E:=by omega
 have fX:(X.setCell ⟨w.heap.size+1,0,none⟩ (.bool true)).heap[E]?=some (.deferred (some [])):=(Below.heap_setCell _ _ _ _ (Ne.symm hne)).trans hK;refine⟨by simp,.inl ⟨_,_,rfl,run_takeDeferred fX,?_⟩⟩;refine⟨_,jzr rfl rfl _ _ (w.heap.size+1) (.bool true) rfl ((World.cell?_of_block (World.putObj_heap_other hne)).trans (hR.set (.bool true)).cell),?_⟩;rw[HP.out];exact⟨rfl,(hB.setCell (by first | omega | (simp;omega) | simp) _).trans ⟨rfl,rfl,rfl,by simp,fun q hq=>World.putObj_heap_other (by omega)⟩⟩)
 case stop=>(
 rintro E c k X hE hk ⟨⟨hR,hB⟩,rfl,hp⟩ hK;have b8:=hR.cell;have HP:=Lh hp;clear hp;gi_wp2
 have hne:w.heap.size+1≠E:=by omega
 refine⟨by simp,.inl ⟨_,_,rfl,run_takeDeferred hK,?_⟩⟩;refine⟨_,jzr rfl rfl _ _ (w.heap.size+1) (.bool false) rfl ((World.cell?_of_block (World.putObj_heap_other hne)).trans b8),?_⟩;rw[HP.out];exact⟨rfl,hB.trans ⟨rfl,rfl,rfl,by simp,fun q hq=>World.putObj_heap_other (by omega)⟩⟩)
theorem jd7(p:Ck->Bool)(zs:List (Ck))(hf:∀ x∈zs,∀ W,InC W x->Calls Tryz.prog 146 #[Ck.v x] W (jz6 W (.bool (p x))))(ok:Ck->Prop)(eH:∀ x∈zs,p x=true->ok x)(g:Nat)(lb:Array Value)(eg:Enters Tryz.prog g)(w:World)(bw:∀ D w2,Below w.heap.size w w2->w.heap.size<=D->D<w2.heap.size->jf8 Tryz.prog g lb encC D ok zs w2)(dn:∀ x∈zs,InC w x):Calls Tryz.prog 147 #[.func (.func g) #[] lb,.func (.func 146) #[] #[]] w (jz6 w (.bool (zs.all p))):=by
 have HF:=Lh hf;have tb:=Lh eH;have HE:=Lh eg;have HS:=Lh bw;have HM:=Lh dn;clear hf eH eg bw dn;refine (callsIn_wide (n:=6)).1 (callsIn_of_wp_marks Tryz.func147 rfl trivial ?_ rfl);simp only[Tryz.ntmps147,List.size_toArray,List.length_cons,List.length_nil,Nat.reduceAdd,Nat.reduceSub,Array.replicate_succ,Array.replicate_zero,List.push_toArray,List.append_toArray,List.nil_append,List.cons_append];gi_wp2_with fail
 obtain⟨V,hV⟩:=exq ((w.alloc (.cells #[.func (.func 146) #[] #[]] 155)).alloc (.cells #[.bool false] 4));have cm:Below w.heap.size w V:=by rw[<- hV];exact jzk (jzk (Below.refl _ _))
 have ae:V.heap.size=w.heap.size+2:=by rw[<- hV];simp
 have bR:Boxed V (w.heap.size+1) 4 (.bool false):=by (have:=Boxed.new (w.alloc (.cells #[.func (.func 146) #[] #[]] 155)) 4 (.bool false);rw[World.size_alloc,hV] at this;exact this)
 have cI:V.cell? ⟨w.heap.size,0,none⟩=some (.func (.func 146) #[] #[]):=by (rw[<- hV];exact ((jq3 (Below.refl (w.heap.size+1) (w.alloc (.cells #[.func (.func 146) #[] #[]] 155))) (by simp)).cell (p:=⟨w.heap.size,0,none⟩) (by simp)).trans (jzs 0 _ rfl))
 rw[hV];clear hV;refine jjf rfl HE.out (HS.out (w.heap.size+1) V cm (by omega) (by omega)) (fun _=>rfl)
   (fun k X=>(Boxed X (w.heap.size+1) 4 (.bool false)/\Below w.heap.size w X)/\X.cell? ⟨w.heap.size,0,none⟩=some (.func (.func 146) #[] #[])/\(zs.take k).all p=true)
   (fun c _ X=>(Boxed X (w.heap.size+1) 4 (.bool false)/\Below w.heap.size w X)/\c = .ret/\zs.all p=false)
   (fun k X Y ⟨⟨h1,h2⟩,h3,h4⟩ hb=>⟨⟨(hb.block _ (by omega)).trans h1,h2.trans (hb.mono (by omega))⟩,(hb.cell (p:=⟨w.heap.size,0,none⟩) (by simp only;omega)).trans h3,h4⟩)
   (fun c k X Y ⟨⟨h1,h2⟩,h3⟩ hb=>⟨⟨(hb.block _ (by omega)).trans h1,h2.trans (hb.mono (by omega))⟩,h3⟩)
   ⟨⟨bR,cm⟩,cI,rfl⟩
   (fun y a' _=>a'={ tmps:=#[.func (.func g) #[] lb,.func (.func 146) #[] #[],undef,.pointer (some ⟨w.heap.size,0,none⟩),.pointer (some ⟨w.heap.size+1,0,none⟩),Ck.v y,.func (.func g) #[] lb,Ck.v y,undef,undef,undef,undef],defers:=[] })
   ?ax ?assign ?body ?done ?stop
 case ax=>(rintro y a' _ X Y row h1 hg hr;exact h1)
 case assign=>(
 intro l2 k y X K _ _ hK;unfold encC;gi_wp2
 exact hK _ _ (Below.refl _ _) rfl)
 case body=>(
 rintro l2 k y a' X nr hx ⟨⟨h1,h2⟩,h3,h4⟩ rfl;have HX:=Lh hx;have hb:=h2;have b8:=h1.cell;have fW:=h1.frozen;have HR:=Lh (HF.out y (List.mem_of_getElem? hx) X ((HM.out y (List.mem_of_getElem? hx)).later h2));obtain⟨q,hq⟩:=exq (p y);have HQ:=Lh hq;have HP:=Lh h4;rw[hq] at HR;clear hx hq h4;gi_wp2_with fail
 refine⟨trivial,rfl,(CallsIn.inRound l2 (callsIn_wide.2 HR.out)).mono ?_⟩;clear HR;rintro e X5 ⟨rfl,bh⟩;have g1:Boxed X5 (w.heap.size+1) 4 (.bool false):=(bh.block _ (by omega)).trans h1;have g3:=(bh.cell (p:=⟨w.heap.size,0,none⟩) (by simp only;omega)).trans h3;have jU:Below w.heap.size w X5:=h2.trans (bh.mono h2.size);cases q with
 | true=>(
 gi_wp2_with fail
 exact⟨KN.of_below bh,⟨⟨g1,jU⟩,g3,by rw[jqq HX.out,HP.out,HQ.out];rfl⟩,tb.out _ (List.mem_of_getElem? HX.out) HQ.out⟩)
 | false=>(
 have pc:=g1.cell;have pd:=g1.frozen;gi_wp2_with fail
 exact⟨(KF.of_below bh).trans (KF.set (by omega) _),⟨g1.set _,jU.setCell (by first | omega | (simp;omega) | simp) _⟩,rfl,jj3 HX.out HQ.out⟩))
 case done=>(
 rintro E X hE ⟨⟨hR,hB⟩,-,hp⟩ hK;have b8:=hR.cell;have fW:=hR.frozen;rw[List.take_length] at hp;have HP:=Lh hp;clear hp;gi_wp2
 have hne:w.heap.size+1≠E:=by omega
 have fX:(X.setCell ⟨w.heap.size+1,0,none⟩ (.bool true)).heap[E]?=some (.deferred (some [])):=(Below.heap_setCell _ _ _ _ (Ne.symm hne)).trans hK;refine⟨by simp,.inl ⟨_,_,rfl,run_takeDeferred fX,?_⟩⟩;refine⟨_,jzr rfl rfl _ _ (w.heap.size+1) (.bool true) rfl ((World.cell?_of_block (World.putObj_heap_other hne)).trans (hR.set (.bool true)).cell),?_⟩;rw[HP.out];exact⟨rfl,(hB.setCell (by first | omega | (simp;omega) | simp) _).trans ⟨rfl,rfl,rfl,by simp,fun q hq=>World.putObj_heap_other (by omega)⟩⟩)
 case stop=>(
 rintro E c k X hE hk ⟨⟨hR,hB⟩,rfl,hp⟩ hK;have b8:=hR.cell;have HP:=Lh hp;clear hp;gi_wp2
 have hne:w.heap.size+1≠E:=by omega
 refine⟨by simp,.inl ⟨_,_,rfl,run_takeDeferred hK,?_⟩⟩;refine⟨_,jzr rfl rfl _ _ (w.heap.size+1) (.bool false) rfl ((World.cell?_of_block (World.putObj_heap_other hne)).trans b8),?_⟩;rw[HP.out];exact⟨rfl,hB.trans ⟨rfl,rfl,rfl,by simp,fun q hq=>World.putObj_heap_other (by omega)⟩⟩)
end V4
end Go.Proofs.YtobggoephhjofaaGreatDoor
