/- A part. No condition. -/
import Derived.Test.YtobggoephhjofaaGreatDoorMk09
set_option maxRecDepth 100000
set_option maxHeartbeats 16000000
namespace Go.Proofs.YtobggoephhjofaaGreatDoor
namespace S2
open Go.RowKit Go.Shelf
attribute [local go_sem] Oper.semAt_some
mutual
def jpp:Sc->Int->List (Int×Sc)
  | .mk k A c l,d=>(d,.mk k A c l) :: preL l (wrap64 (d+1))
def preL:List Sc->Int->List (Int×Sc)
  | [],_=>[]
  | x :: l,d=>jpp x d++preL l d
end
theorem jjx(a b:List Sc)(d:Int):preL (a++b) d=preL a d++preL b d:=by
 induction a with
 | nil=>rfl
 | cons x a ih=>rw[List.cons_append,preL,ih,preL,List.append_assoc]
theorem jv2{l:List Sc}{k:Nat}{x:Sc}(d:Int)(hx:l[k]?=some x):preL (l.take (k+1)) d=preL (l.take k) d++jpp x d:=by
 obtain⟨hk,he⟩:=List.getElem?_eq_some_iff.1 hx;rw[List.take_succ_eq_append_getElem hk,he,jjx,preL,preL,List.append_nil]
theorem jx9{l:List Sc}{k:Nat}{x:Sc}(d:Int)(hx:l[k]?=some x):preL l d=preL (l.take k) d++(jpp x d++preL (l.drop (k+1)) d):=by
 obtain⟨hk,he⟩:=List.getElem?_eq_some_iff.1 hx;conv=>lhs;rw[<- List.take_append_drop k l]
 rw[jjx,List.drop_eq_getElem_cons hk,he,preL]
def encD(x:Int×Sc):Array Value:=#[.int .i64 x.1,x.2.val]
structure KC (D:Nat) (W W':World):Prop where
  size:W.heap.size<=W'.heap.size
  same:∀ (b:Nat) (o:Obj),W.heap[b]?=some o->o.isCells=true->b≠D->W'.heap[b]?=some o
theorem KC.trans{D:Nat}{X Y Z:World}(h:KC D X Y)(k:KC D Y Z):KC D X Z:=⟨leT h.size k.size,fun b o h1 h2 h3=>k.same b o (h.same b o h1 h2 h3) h2 h3⟩
theorem KC.of_below{D:Nat}{W W':World}(h:Below W.heap.size W W'):KC D W W':=⟨h.size,fun b _ h1 _ _=>(h.block b (Array.getElem?_eq_some_iff.1 h1).1).trans h1⟩
theorem KC.book{D:Nat}{w:World}(W:World)(l:Nat)(o o':Obj)(_:w.heap.size<=l)(h:W.heap[l]?=some o)(ho:o.isCells=false)(_:o.isWalk=false):KC D W (W.putObj l o') :=
  ⟨by simp,fun b o2 h1 h2 _=>by
    have hne:b≠l:=fun e=>by subst e;rw[h] at h1;cases h1;rw[ho] at h2;cases h2
    rw[World.putObj_heap_other hne];exact h1⟩
theorem KC.cell{D:Nat}{W W':World}(h:KC D W W'){b o:Nat}{v:Value}(hb:b≠D)(hc:W.cell? ⟨b,o,none⟩=some v):W'.cell? ⟨b,o,none⟩=some v:=by
 obtain⟨ob,h1,h2⟩:=cells_of_cell hc;exact (World.cell?_of_block (a:=⟨b,o,none⟩) ((h.same b ob h1 h2 hb).trans h1.symm)).trans hc
theorem jx0.kc{D:Nat}{W W':World}{A:Option Addr}{l:List Sc}(h:jx0 (fun b=>b≠D) W A l)(hk:KC D W W'):jx0 (fun b=>b≠D) W' A l:=by
 rcases h with h | ⟨b,off,hA,hP,h⟩
 ·exact .inl h
 ·exact .inr ⟨b,off,hA,hP,fun i x hx=>⟨hk.cell hP (h i x hx).1,hk.cell hP (h i x hx).2⟩⟩
theorem Sc.Inp.kc{D:Nat}{W W':World}{s:Sc}(h:s.Inp (fun b=>b≠D) W)(hk:KC D W W'):s.Inp (fun b=>b≠D) W':=by
 induction h with
 | mk k A c l hl h1 h2 h3 _ ih=>exact .mk k A c l (hl.kc hk) h1 h2 h3 ih
theorem jqh{m m':Nat}{P:Program}{l:Nat}{args:Array Value}{W:World}{R:Ending->World->Prop}(h:YieldAt Fence.wide m P l args W R):YieldAt Fence.wide m' P l args W R:=by
 obtain⟨fn,tmps,assign,body,h1,h2⟩:=h;exact⟨fn,tmps,assign,body,h1,h2.1,fun c cs _=>h2.2 c cs (room_wide _)⟩
def Went(D:Nat)(J Jx:List (Int×Sc)->World->Prop)(pre:List (Int×Sc))(zs:List (Int×Sc))(W:World)(e:Ending)(W':World):Prop :=
  (e = .returned (.bool true)/\J (pre++zs) W'/\KC D W W')\/(e = .returned (.bool false)/\∃ p,p <+: zs/\Jx (pre++p) W')
theorem jrk(l D N:Nat)(J Jx:List (Int×Sc)->World->Prop)(hJ:∀ pre W W',J pre W->Below W.heap.size W W'->J pre W')(hY:∀ pre x W1,J pre W1->pre.length<N->YieldAt Fence.wide 0 Tryz.prog l (encD x) W1 fun e W'=>(e = .returned (.bool true)/\J (pre++[x]) W'/\KC D W1 W')\/(e = .returned (.bool false)/\Jx (pre++[x]) W')):∀ (s:Sc) (n:Nat) (d:Int) (pre:List (Int×Sc)) (W:World),s.Inp (fun b=>b≠D) W->D<W.heap.size->J pre W->pre.length+(jpp s d).length<=N->CallsIn Fence.wide n Tryz.prog 101 #[s.val,.int .i64 d,.func (.func 55) #[] #[],.func (.yield l) #[] #[]] W (Went D J Jx pre (jpp s d) W):=by
 intro s;induction s using Sc.ind with
 | h k0 A c l0 ih=>(
 intro n d pre W bx hD h0 hN;have IH:=Lh ih;have jd:=Lh bx;have HJ:=Lh hJ;have HY:=Lh hY;clear ih bx hJ hY;simp only[jzh];refine callsIn_of_wp Tryz.func101 rfl trivial ?_ rfl;simp only[Tryz.ntmps101,List.size_toArray,List.length_cons,List.length_nil,Nat.reduceAdd,Nat.reduceSub,Array.replicate_succ,Array.replicate_zero,List.push_toArray,List.append_toArray,List.nil_append,List.cons_append];have ku:=HJ.out pre W (W.alloc (.cells #[.int .i64 k0,.slice A l0.length c] 24)) h0 (jzf _ _);obtain⟨fn,tmps,assign,body,hy,hR⟩:=jqh (m':=n - 1) (HY.out pre (d,.mk k0 A c l0) _ ku (by rw[jpp] at hN;simp at hN;omega));unfold encD at hy;simp only[jzh] at hy;gi_wp2_with fail
 refine⟨fun h=>absurd h (by simp[Fence.wide]),hR.mono ?_⟩;rintro e W3 (⟨rfl,jp,cG⟩ | ⟨rfl,fg⟩)
 ·(
 have wD:W.heap.size≠D:=by omega
 have im:=cG.cell (o:=0) wD (by simp:_=some (.int .i64 k0));have af:=cG.cell (o:=1) wD (by simp:_=some (.slice A l0.length c));have mj:KC D W W3:=(KC.of_below (jzf _ _)).trans cG;clear hy hR cG ku h0;gi_wp2_with fail
 refine⟨trivial,fun h=>absurd h (by simp[Fence.wide]),(callsIn_wide.2 (jy1 (.mk k0 A c l0) W3)).mono ?_⟩;rintro e W4 ⟨rfl,ca⟩;simp only[Sc.v1];have ud:=HJ.out _ _ _ jp ca;have nT:KC D W W4:=mj.trans (KC.of_below ca);have hl32:l0.length*32<=140737488351232:=by (
 cases jd.out with
 | mk _ _ _ _ _ _ _ h3 _=>exact h3)
 clear jp mj im af ca;gi_wp2_with fail
 gi_loopw [20] (fun iv wr=>∃ (k:Nat),k<=l0.length/\iv = .int .i64 k/\J (pre++(d,Sc.mk k0 A c l0) :: preL (l0.take k) (wrap64 (d+1))) wr/\KC D W wr) (fun iv _=>l0.length - (intOf iv).toNat)
 case atStart=>exact⟨0,Nat.zero_le _,rfl,ud,nT⟩
 case round=>(
 obtain⟨k,hk,rfl,ep,cX⟩:=hrel;clear ud nT;by_cases hlt:k<l0.length
 ·(
 obtain⟨hl,bu⟩:jx0 (fun b=>b≠D) wr A l0/\∀ x∈l0,x.Inp (fun b=>b≠D) wr:=by (
 cases jd.out with
 | mk _ _ _ _ h1 _ _ _ h4=>exact⟨h1.kc cX,fun x hx=>(h4 x hx).kc cX⟩)
 rcases hl with hl | ⟨b,off,rfl,hb,hc⟩
 ·subst hl;simp at hlt
 obtain⟨x,hx⟩:∃ x,l0[k]?=some x:=⟨_,List.getElem?_eq_getElem hlt⟩
 obtain⟨cq,cB⟩:=hc k x hx;have rk:=bu x (List.mem_of_getElem? hx);have hM:=Lh (List.mem_of_getElem? hx);have HX:=Lh hx;have hNx:(pre++(d,Sc.mk k0 (some ⟨b,off,none⟩) c l0) :: preL (l0.take k) (wrap64 (d+1))).length+(jpp x (wrap64 (d+1))).length<=N:=by (
 rw[jpp,jx9 (wrap64 (d+1)) hx] at hN;simp at hN ⊢
 omega)
 clear hx hc bu;have cD:=World.block_lt_of_cell? wr _ cq;simp only at cD;obtain⟨xk,xA,xc,xl⟩:=x;simp only[Sc.v1,Sc.k] at cq cB;have HNX:=Lh hNx;clear hNx hN;gi_wp2_with fail
 have fD:Below wr.heap.size wr (wr.alloc (.cells #[.int .i64 xk,.slice xA xl.length xc] 24)):=jzf _ _;refine⟨trivial,fun h=>absurd h (by simp[Fence.wide]),(IH.out _ hM.out (n - 1) _ _ _ (rk.kc (KC.of_below fD)) (ltl (ltl hD cX.size) fD.size) (HJ.out _ _ _ ep fD) HNX.out).mono ?_⟩;rintro e W5 (⟨rfl,fJ,dD⟩ | ⟨rfl,p,hp,ff⟩)
 ·(
 have o8:KC D W W5:=cX.trans ((KC.of_below fD).trans dD);rw[List.append_assoc,List.cons_append,<- jv2 (wrap64 (d+1)) HX.out] at fJ;clear dD fD ep cX cq cB;gi_wp2_with fail
 go_roundw
 case rel=>exact⟨k+1,by omega,by go_num,fJ,o8⟩
 case measure=>simp[intOf];omega)
 ·(
 gi_wp2_with fail
 refine bodyPost_ret (results_tmp rfl _ _ _) rfl ?_;refine .inr ⟨rfl,(d,Sc.mk k0 (some ⟨b,off,none⟩) c l0) :: preL (l0.take k) (wrap64 (d+1))++p,?_,by rw[<- List.append_assoc];exact ff⟩;rw[jpp,jx9 (wrap64 (d+1)) HX.out];obtain⟨r,hr⟩:=hp;exact⟨r++preL (l0.drop (k+1)) (wrap64 (d+1)),by simp[<- hr]⟩))
 ·(
 gi_wp2_with fail
 refine bodyPost_ret (results_tmp rfl _ _ _) rfl ?_;refine .inl ⟨rfl,?_,cX⟩;rw[List.take_of_length_le (by omega)] at ep;rw[jpp];exact ep)))
 ·(
 gi_wp2_with fail
 refine bodyPost_ret (results_tmp rfl _ _ _) rfl ?_;refine .inr ⟨rfl,[(d,.mk k0 A c l0)],?_,fg⟩;rw[jpp];exact⟨preL l0 (wrap64 (d+1)),rfl⟩))
end S2
namespace S2
open Go.RowKit Go.Shelf
attribute [local go_sem] Oper.semAt_some
theorem jow(s:Sc)(w:World):Calls Tryz.prog 54 #[s.val,.func (.func 55) #[] #[]] w fun e w'=>e = .returned (.func (.func 100) #[] #[.pointer (some ⟨w.heap.size,0,none⟩),.pointer (some ⟨w.heap.size+1,0,none⟩)])/\(w.alloc (.cells #[.int .i64 s.k,s.v1] 24)).alloc (.cells #[.func (.func 55) #[] #[]] 91)=w':=by
 obtain⟨k0,A,c,l⟩:=s;simp only[jzh];go_enter Tryz.func54,Tryz.ntmps54;go_wp2_with fail;go_ret;exact⟨rfl,rfl⟩
theorem jcg(n Bt Bi D:Nat)(s:Sc)(w:World)(bx:s.Inp (fun b=>b≠D) w)(hD:D<w.heap.size)(fi:w.cell? ⟨Bt,0,none⟩=some (.int .i64 s.k))(sT:w.cell? ⟨Bt,1,none⟩=some s.v1)(jq:w.cell? ⟨Bi,0,none⟩=some (.func (.func 55) #[] #[])):SeqStopsK Fence.wide n Tryz.prog 100 #[.pointer (some ⟨Bt,0,none⟩),.pointer (some ⟨Bi,0,none⟩)] encD (KC D) (fun zs=>zs=jpp s 1) (fun pre=>pre <+: jpp s 1) (jpp s 1).length w:=by
 intro l J Jx W hW hJ eJ hY h0;have h1:=(hW.cell (p:=⟨Bt,0,none⟩) (World.block_lt_of_cell? w _ fi)).trans fi;have h2:=(hW.cell (p:=⟨Bt,1,none⟩) (World.block_lt_of_cell? w _ sT)).trans sT;have h3:=(hW.cell (p:=⟨Bi,0,none⟩) (World.block_lt_of_cell? w _ jq)).trans jq;have wh:s.Inp (fun b=>b≠D) W:=bx.kc (KC.of_below hW);have HD:=Lh (jrk l D (jpp s 1).length J Jx (fun pre W1 W2 hj hb=>hJ pre W1 W2 none hj ⟨hb.os,hb.tape,hb.output,hb.size,fun k hk _=>hb.block k hk⟩ (fun _ e=>by cases e))
   (fun pre x W1 hj hl=>jqh (hY pre x W1 hj hl)) s (n - 1) 1 [] W wh (ltl hD hW.size) h0 (by simp))
 clear hY hJ eJ fi sT jq bx wh;obtain⟨k0,A,c,l0⟩:=s;simp only[Sc.k,Sc.v1] at h1 h2;refine callsIn_of_wp Tryz.func100 rfl trivial ?_ rfl;simp only[Tryz.ntmps100,List.size_toArray,List.length_cons,List.length_nil,Nat.reduceAdd,Nat.reduceSub,Array.replicate_succ,Array.replicate_zero,List.push_toArray,List.append_toArray,List.nil_append,List.cons_append];gi_wp2_with fail
 refine⟨trivial,fun h=>absurd h (by simp[Fence.wide]),HD.out.mono ?_⟩;rintro e W5 (⟨rfl,fJ,dD⟩ | ⟨rfl,p,hp,ff⟩)
 ·(
 gi_wp2_with fail
 go_end0
 exact⟨⟨_,rfl⟩,.inl ⟨_,rfl,fJ⟩⟩)
 ·(
 gi_wp2_with fail
 go_end0
 exact⟨⟨_,rfl⟩,.inr ⟨_,hp,ff⟩⟩)
end S2
namespace S2
open Go.RowKit Go.Shelf
attribute [local go_sem] Oper.semAt_some
def jg5(x:Int×Sc):Bool:=decide (x.1<=16) && jml x.2
theorem jzr{fn:Func}{p:Tmp}{t:TypeId}(h:fn.results=#[.cell p t])(ht:t=4)(tmps:Array Value)(w:World)(g:Nat)(v:Value)(hp:tmps.getD p undef = .pointer (some ⟨g,0,none⟩))(h0:w.cell? ⟨g,0,none⟩=some v):(results fn tmps).run Tryz.prog w = .ok v w:=by
 have iD:tmps[p]?.getD undef = .pointer (some ⟨g,0,none⟩):=by simpa using hp
 subst ht;simp[results,h,iD,asAddr]
 go_simp
theorem Is_pre(s:Sc)(w:World)(bx:s.In w.heap.size w):Calls Tryz.prog 24 #[s.val] w (jz6 w (.bool ((jpp s 1).all jg5))):=by
 refine (callsIn_wide (n:=6)).1 ?_;have jd:=Lh bx;clear bx;obtain⟨k0,A,c,l⟩:=s;simp only[jzh];refine callsIn_of_wp_marks Tryz.func24 rfl trivial ?_ rfl;simp only[Tryz.ntmps24,List.size_toArray,List.length_cons,List.length_nil,Nat.reduceAdd,Nat.reduceSub,Array.replicate_succ,Array.replicate_zero,List.push_toArray,List.append_toArray,List.nil_append,List.cons_append];gi_wp2_with fail
 refine⟨trivial,(callsIn_wide.2 (jow (.mk k0 A c l) _)).mono ?_⟩;rintro e w' ⟨rfl,rfl⟩;gi_wp2_with fail
 have cm:Below w.heap.size w ((((w.alloc (.cells #[.int .i64 k0,.slice A l.length c] 24)).alloc (.cells #[.bool false] 4)).alloc (.cells #[.int .i64 (Sc.mk k0 A c l).k,(Sc.mk k0 A c l).v1] 24)).alloc (.cells #[.func (.func 55) #[] #[]] 91)):=jzk (jzk (jzk (jzk (Below.refl _ _))));have ae:((((w.alloc (.cells #[.int .i64 k0,.slice A l.length c] 24)).alloc (.cells #[.bool false] 4)).alloc (.cells #[.int .i64 (Sc.mk k0 A c l).k,(Sc.mk k0 A c l).v1] 24)).alloc (.cells #[.func (.func 55) #[] #[]] 91)).heap.size=w.heap.size+4:=by simp
 have bR:Boxed ((((w.alloc (.cells #[.int .i64 k0,.slice A l.length c] 24)).alloc (.cells #[.bool false] 4)).alloc (.cells #[.int .i64 (Sc.mk k0 A c l).k,(Sc.mk k0 A c l).v1] 24)).alloc (.cells #[.func (.func 55) #[] #[]] 91)) (w.heap.size+1) 4 (.bool false):=by (have:=Boxed.new (w.alloc (.cells #[.int .i64 k0,.slice A l.length c] 24)) 4 (.bool false);rw[World.size_alloc] at this;exact (this.alloc _).alloc _)
 have cT0:((((w.alloc (.cells #[.int .i64 k0,.slice A l.length c] 24)).alloc (.cells #[.bool false] 4)).alloc (.cells #[.int .i64 (Sc.mk k0 A c l).k,(Sc.mk k0 A c l).v1] 24)).alloc (.cells #[.func (.func 55) #[] #[]] 91)).cell? ⟨w.heap.size+1+1,0,none⟩=some (.int .i64 (Sc.mk k0 A c l).k):=(World.cell?_alloc_past _ _ _ (by simp)).trans (jvq (by simp) rfl);have cT1:((((w.alloc (.cells #[.int .i64 k0,.slice A l.length c] 24)).alloc (.cells #[.bool false] 4)).alloc (.cells #[.int .i64 (Sc.mk k0 A c l).k,(Sc.mk k0 A c l).v1] 24)).alloc (.cells #[.func (.func 55) #[] #[]] 91)).cell? ⟨w.heap.size+1+1,1,none⟩=some (Sc.mk k0 A c l).v1:=(World.cell?_alloc_past _ _ _ (by simp)).trans (jvq (by simp) rfl);have cI:((((w.alloc (.cells #[.int .i64 k0,.slice A l.length c] 24)).alloc (.cells #[.bool false] 4)).alloc (.cells #[.int .i64 (Sc.mk k0 A c l).k,(Sc.mk k0 A c l).v1] 24)).alloc (.cells #[.func (.func 55) #[] #[]] 91)).cell? ⟨w.heap.size+1+1+1,0,none⟩=some (.func (.func 55) #[] #[]):=jvq (by simp) rfl;generalize ((((w.alloc (.cells #[.int .i64 k0,.slice A l.length c] 24)).alloc (.cells #[.bool false] 4)).alloc (.cells #[.int .i64 (Sc.mk k0 A c l).k,(Sc.mk k0 A c l).v1] 24)).alloc (.cells #[.func (.func 55) #[] #[]] 91))=W0 at *;have hin0:(Sc.mk k0 A c l).Inp (fun b=>b≠w.heap.size+1) W0:=(Sc.In.keep jd.out cm).mono fun b hb=>by omega
 refine wpIn_rangeFunc_ownH rfl (by omega) (gf:=100) (lb:=#[.pointer (some ⟨w.heap.size+1+1,0,none⟩),.pointer (some ⟨w.heap.size+1+1+1,0,none⟩)]) rfl trivial (enters_of Tryz.func100 (by kernel_rfl) rfl)
   (jcg 5 (w.heap.size+1+1) (w.heap.size+1+1+1) (w.heap.size+1) (.mk k0 A c l) W0 hin0 (by omega) cT0 cT1 cI) KC.trans (KC.book (w:=W0)) (Below.refl _ _) (fun _=>rfl)
   (fun (pre:List (Int×Sc)) W=>(Boxed W (w.heap.size+1) 4 (.bool false)/\Below w.heap.size w W)/\pre.all jg5=true)
   (fun cd (pre:List (Int×Sc)) W=>(Boxed W (w.heap.size+1) 4 (.bool false)/\Below w.heap.size w W)/\cd = .ret/\pre.all jg5=false)
   (OwnFrom.and (OwnFrom.and (Own.from (boxed_own _ _ fun _=>_) _) (ownFrom_below (Nat.le_refl _) (by omega))) (ownFrom_pure _ _))
   (fun cd=>OwnFrom.and (OwnFrom.and (Own.from (boxed_own _ _ fun _=>_) _) (ownFrom_below (Nat.le_refl _) (by omega))) (ownFrom_pure _ _))
   ⟨⟨bR,cm⟩,rfl⟩
   (fun x a' W=>∃ bp,a'={ tmps:=#[.agg #[.int .i64 k0,.slice A l.length c],.pointer (some ⟨w.heap.size,0,none⟩),.pointer (some ⟨w.heap.size+1,0,none⟩),.int .i64 x.1,.pointer (some ⟨bp,0,none⟩),.agg #[.int .i64 k0,.slice A l.length c],
       .func (.func 100) #[] #[.pointer (some ⟨w.heap.size+1+1,0,none⟩),.pointer (some ⟨w.heap.size+1+1+1,0,none⟩)],.int .i64 x.1,x.2.val,undef,undef,undef,undef,undef,undef,undef],defers:=[] } /\
     W.cell? ⟨bp,0,none⟩=some (.int .i64 x.2.k)/\W.cell? ⟨bp,1,none⟩=some x.2.v1)
   ?ax ?assign ?body ?done ?stop
 case ax=>(rintro x a' _ W W' row ⟨bp,h1,h2,h3⟩ hg hr;exact⟨bp,h1,cell_kept h2 hg (fun r e=>(hr r e).2),cell_kept h3 hg (fun r e=>(hr r e).2)⟩)
 case assign=>(
 rintro l0 pre ⟨d,⟨xk,xA,xc,xl⟩⟩ W K ⟨⟨hR,hB⟩,hp⟩ hK;unfold encD;simp only[jzh];gi_wp2
 exact hK _ _ ((KeepsOthers.alloc W _).from _) (KC.of_below (jzf _ _)) ⟨⟨hR.alloc _,jzk hB⟩,hp⟩ ⟨W.heap.size,rfl,by simp[Sc.k],by simp[Sc.v1]⟩)
 case body=>(
 rintro l0 pre ⟨d,⟨xk,xA,xc,xl⟩⟩ a' W gl - ⟨⟨hR,hB⟩,hp⟩ ⟨bp,rfl,cq,cB⟩ hlt;simp only[Sc.k,Sc.v1,jzh] at cq cB ⊢;have b8:=hR.cell;have fW:=hR.frozen;have HP:=Lh hp;clear hp;have hlw:w.heap.size+1<W0.heap.size:=by omega
 by_cases qB:d<=16
 ·(
 obtain⟨q,hq⟩:=exq (jml (.mk xk xA xc xl));have HG:Hid ((pre++[(d,Sc.mk xk xA xc xl)]).all jg5=q):=by (
 show List.all _ _=q
 rw[List.all_append,HP.out];simp[jg5,qB,hq])
 have HQ:=Lh hq;have hn16:¬ 16<d:=by omega
 clear hq;gi_wp2_with fail
 refine⟨trivial,(CallsIn.inRound l0 (callsIn_wide.2 (joi (.mk xk xA xc xl) W))).mono ?_⟩;rintro e W2 ⟨rfl,ab⟩;rw[HQ.out];have fN:Boxed W2 (w.heap.size+1) 4 (.bool false):=(ab.block _ hR.lt).trans hR;have iw:=hB.trans (ab.mono hB.size);have hcl2:=fN.cell;have hcf2:=fN.frozen;have tA:KeepsFrom W0.heap.size W W2:=⟨ab.size,fun k o _ h _=>(ab.block k (Array.getElem?_eq_some_iff.1 h).1).trans h⟩;have hkc:KC (w.heap.size+1) W W2:=KC.of_below ab;clear ab b8 fW cq cB;cases q with
 | true=>(
 gi_wp2_with fail
 exact⟨tA,hkc,⟨fN,iw⟩,HG.out⟩)
 | false=>(
 gi_wp2_with fail
 exact⟨tA.trans (KeepsFrom.of_grownBy (grownBy_setCell' _ _ _) (fun j e=>by cases e;exact hlw)),⟨fN.set _,iw.setCell (by simp) _⟩,rfl,HG.out⟩))
 ·(
 have HG:Hid ((pre++[(d,Sc.mk xk xA xc xl)]).all jg5=false):=by (
 show List.all _ _=false
 rw[List.all_append];simp[jg5,qB])
 have h17:16<d:=by omega
 gi_wp2_with fail
 refine⟨trivial,?_⟩;gi_wp2_with fail
 exact⟨KeepsFrom.of_grownBy (grownBy_setCell' _ _ _) (fun j e=>by cases e;exact hlw),⟨hR.set _,hB.setCell (by simp) _⟩,rfl,HG.out⟩))
 case done=>(
 rintro D zs W hD rfl ⟨⟨hR,hB⟩,hp⟩ hK;have b8:=hR.cell;have fW:=hR.frozen;have HP:=Lh hp;clear hp;gi_wp2
 have hne:w.heap.size+1≠D:=by omega
 have fX:(W.setCell ⟨w.heap.size+1,0,none⟩ (.bool true)).heap[D]?=some (.deferred (some [])):=(Below.heap_setCell _ _ _ _ (Ne.symm hne)).trans hK;refine⟨by simp,.inl ⟨_,_,rfl,run_takeDeferred fX,?_⟩⟩;refine⟨_,jzr rfl rfl _ _ (w.heap.size+1) (.bool true) rfl ((World.cell?_of_block (World.putObj_heap_other hne)).trans (hR.set (.bool true)).cell),?_⟩;rw[HP.out];exact⟨rfl,(hB.setCell (by simp) _).trans (belowK_b (w:=w) (Nat.le_refl _) _ D _ _ (by omega) fX rfl rfl)⟩)
 case stop=>(
 rintro D cd pre W hD hpre ⟨⟨hR,hB⟩,rfl,hp⟩ hK;have b8:=hR.cell;have HA:Hid ((jpp (Sc.mk k0 A c l) 1).all jg5=false):=by (
 obtain⟨r,hr⟩:=hpre;show List.all _ _=false
 rw[<- hr,List.all_append,hp];rfl)
 gi_wp2
 have hne:w.heap.size+1≠D:=by omega
 refine⟨by simp,.inl ⟨_,_,rfl,run_takeDeferred hK,?_⟩⟩;refine⟨_,jzr rfl rfl _ _ (w.heap.size+1) (.bool false) rfl ((World.cell?_of_block (World.putObj_heap_other hne)).trans b8),?_⟩;rw[HA.out];exact⟨rfl,hB.trans (belowK_b (w:=w) (Nat.le_refl _) W D _ _ (by omega) hK rfl rfl)⟩)
end S2
namespace V4
open Go.RowKit Go.Shelf
open S2 (Sc jx0 jzf)
inductive jdb {β:Type} (M S:β->Prop) (kids:β->List β):Nd β->Prop
  | mk (x:β) (l:List (Nd β)):M x->(S x->l.map Nd.lab=kids x)->(∀ t∈l,jdb M S kids t)->jdb M S kids (.mk x l)
theorem jdb.mono{β:Type}{M M' S:β->Prop}{kids:β->List β}(hm:∀ x,M x->M' x){t:Nd β}(h:jdb M S kids t):jdb M' S kids t:=by
 induction h with
 | mk x l h1 h2 _ ih=>exact .mk x l (hm x h1) h2 ih
theorem jmx{β:Type}{y:β}:∀ {l:List (Nd β)},y∈Nd.preL l->∃ t∈l,y∈t.pre
  | [],h=>by simp[Nd.preL] at h
  | t :: l,h=>by
    rw[Nd.preL] at h
    rcases List.mem_append.1 h with h | h
    · exact⟨t,by simp,h⟩
    · obtain⟨t',h1,h2⟩:=jmx h
      exact⟨t',List.mem_cons_of_mem _ h1,h2⟩
theorem jdb.all{β:Type}{M S:β->Prop}{kids:β->List β}{t:Nd β}(h:jdb M S kids t):∀ x∈t.pre,M x:=by
 induction h with
 | mk x l h1 h2 _ ih=>(
 intro y hy;rw[Nd.pre] at hy;rcases List.mem_cons.1 hy with rfl | hy
 ·exact h1
 ·(obtain⟨t,ht,hy⟩:=jmx hy;exact ih t ht y hy))
def jde(D:Nat)(W:World)(x:Vl×Vl):Prop:=x.1.Inp (Bar D) W/\x.2.Inp (Bar D) W
def jda(D:Nat)(W:World)(x:Sc×Vl):Prop:=x.1.Inp (Bar D) W/\x.2.Inp (Bar D) W
theorem jde.kn{D B:Nat}{W W':World}(hk:KN D B W W')(x:Vl×Vl)(h:jde D W x):jde D W' x:=⟨h.1.kn hk,h.2.kn hk⟩
theorem jda.kn{D B:Nat}{W W':World}(hk:KN D B W W')(x:Sc×Vl)(h:jda D W x):jda D W' x:=⟨sc_kn h.1 hk,h.2.kn hk⟩
theorem Vl.Inp.kid{P:Nat->Prop}{W:World}{x y:Vl}(h:x.Inp P W)(hy:y∈x.vs):y.Inp P W:=by
 cases h with
 | mk _ _ _ _ _ _ _ _ _ _ _ _ _ _ _ _ _ _ _ _ _ h11=>exact h11 y hy
theorem sc_at{P:Nat->Prop}{W:World}{s:Sc}(h:s.Inp P W)(i:Nat):(scAt s.ins i).Inp P W:=by
 cases h with
 | mk k A c l h1 h2 h3 h4 h5=>(
 unfold scAt;simp only[S2.Sc.ins];cases hx:l[min i (l.length - 1)]? with
 | none=>exact .mk _ _ _ _ (.inl rfl) (by simp) (by simp) (by simp) (by simp)
 | some y=>exact h5 y (List.mem_of_getElem? hx))
theorem goodT{D:Nat}{W:World}:∀ (x:Vl) (s:Sc),x.Inp (Bar D) W->s.Inp (Bar D) W->jdb (jda D W) jwx jxl (jjv x s):=by
 intro x;induction x using Vl.ind with
 | h n m sA sc ss cA cc cs vA vc vs ih=>(intro s h hs;rw[jbw];refine .mk _ _ ⟨hs,h⟩ (fun _=>jcn (s,Vl.mk n m sA sc ss cA cc cs vA vc vs)) ?_;intro t ht;obtain⟨i,hi⟩:=List.getElem?_of_mem ht;rw[jkm] at hi;obtain⟨y,hy,rfl⟩:=Option.map_eq_some_iff.1 hi;have hm:=List.mem_of_getElem? hy;exact ih y hm _ (h.kid hm) (by rw[Nat.zero_add];exact sc_at hs i))
theorem goodK{D:Nat}{W:World}:∀ (x y:Vl),x.Inp (Bar D) W->y.Inp (Bar D) W->jdb (jde D W) jw8 jvk (jwe x y):=by
 intro x;induction x using Vl.ind with
 | h n m sA sc ss cA cc cs vA vc vs ih=>(
 intro y h hy;rw[jme];refine .mk _ _ ⟨h,hy⟩ (fun _=>jh8 (Vl.mk n m sA sc ss cA cc cs vA vc vs,y)) ?_;intro t ht;obtain⟨i,hi⟩:=List.getElem?_of_mem ht;rw[List.getElem?_zipWith] at hi;split at hi
 ·(
 rename_i a b ha hb
 cases hi
 have hm:=List.mem_of_getElem? ha;exact ih a hm _ (h.kid hm) (hy.kid (List.mem_of_getElem? hb)))
 ·cases hi)
def Gives{β:Type}(g:Nat)(encs:β->Array Value)(D:Nat)(zs:List β)(w:World)(e:Ending)(w':World):Prop :=
  ∃ bt,e = .returned (.func (.func g) #[] #[.pointer (some ⟨bt,0,none⟩)])/\Below w.heap.size w w'/\jf8 Tryz.prog g #[.pointer (some ⟨bt,0,none⟩)] encs D (fun _=>True) zs w'
theorem jzs{w:World}{cs:Array Value}{t:TypeId}(i:Nat)(v:Value)(h:cs[i]?=some v):(w.alloc (.cells cs t)).cell? ⟨w.heap.size,i,none⟩=some v:=by
 have:=World.alloc_heap_new w (.cells cs t);unfold World.cell?;rw[this];simpa using h
theorem jq3{B:Nat}{a w:World}{o:Obj}(h:Below B a w)(hB:B<=w.heap.size):Below B a (w.alloc o):=h.alloc hB o
theorem jbj(x:Sc×Vl)(D:Nat)(w:World)(hm:jda D w x)(hs:jwx x):Calls Tryz.prog 38 #[jkb x] w (Gives 70 jjk D (jxl x) w):=by
 refine (jy1 x w).mono ?_;rintro e w' ⟨rfl,rfl⟩;have hb:=jzf w (.cells (jzx x) 76);exact⟨_,rfl,hb,jrd _ D x _ (jda.kn (B:=0) (KN.of_below hb) x hm).1 (jda.kn (B:=0) (KN.of_below hb) x hm).2 hs (fun i v h=>jzs i v h)⟩
theorem juc(x:Vl×Vl)(D:Nat)(w:World)(hm:jde D w x)(hs:jw8 x)(hD:D<w.heap.size):Calls Tryz.prog 66 #[jpo x] w (Gives 107 jrx D (jvk x) w):=by
 refine (jlb x w).mono ?_;rintro e w' ⟨rfl,rfl⟩;have hb:=jzf w (.cells (jqy x) 105);exact⟨_,rfl,hb,jla _ D x _ (jde.kn (B:=0) (KN.of_below hb) x hm).1 (jde.kn (B:=0) (KN.of_below hb) x hm).2 hs (by omega) (fun i v h=>jzs i v h)⟩
end V4
namespace V4
open Go.RowKit Go.Shelf
open S2 (Sc jx0 jzf jzr)
open C3 (jzk)
attribute [local go_sem] Oper.semAt_some
theorem goInto_T(l D B:Nat)(zs:List (Sc×Vl))(J Jx:Nat->World->Prop)(hJ:Ab B J)(eJ:Ab B Jx)(hDB:D<B)(hY:∀ k x W1,zs[k]?=some x->J k W1->B<=W1.heap.size->YieldAt Fence.wide 0 Tryz.prog l (jjk x) W1 fun e W'=>(e = .returned (.bool true)/\J (k+1) W'/\KN D B W1 W'/\jwx x)\/(e = .returned (.bool false)/\Jx k W'/\KF B W1 W')):∀ (T:Nd (Sc×Vl)) (k0:Nat) (W:World),jdb (jda D W) jwx jxl T->B<=W.heap.size->J k0 W->At zs k0 T.pre->Calls Tryz.prog 69 #[jkb T.lab,.func (.func 38) #[] #[],.func (.yield l) #[] #[]] W fun e W'=>(e = .returned (.bool true)/\J (k0+T.pre.length) W'/\KN D B W W')\/(e = .returned (.bool false)/\(∃ k,k<k0+T.pre.length/\Jx k W')/\KF B W W'):=by
 intro T;induction T using Nd.ind with
 | h x l0 ih=>(
 intro k0 W hg hB h0 eR;obtain⟨dn,jB,bu⟩:jda D W x/\(jwx x->l0.map Nd.lab=jxl x)/\∀ t∈l0,jdb (jda D W) jwx jxl t:=by (
 cases hg with
 | mk _ _ h1 h2 h3=>exact⟨h1,h2,h3⟩)
 rw[Nd.pre] at eR;rw[Nd.pre];have IH:=Lh ih;have HM:=Lh (And.intro dn (And.intro jB bu));have HJ:=Lh hJ;have lF:=Lh eJ;have HY:=Lh hY;have nM:=Lh eR;clear ih hg dn jB bu hJ eJ hY eR;obtain⟨x0,cU⟩:∃ x0,x0=x:=⟨_,rfl⟩
 obtain⟨⟨xk,xA,xc,xl⟩,xn,xm,xK,xL,xN,xO,xP,xQ,xR,xS,xU⟩:=x;have ai:Below W.heap.size W ((((W.alloc (.cells #[.int .i64 xk,.slice xA xl.length xc,.int .u64 xn,.int .u64 xm,.slice xK xN.length xL,.slice xO xQ.length xP,.slice xR xU.length xS] 76)).alloc (.cells #[.func (.func 38) #[] #[]] 80)).alloc (.cells #[.func (.yield l) #[] #[]] 81)).alloc (.cells #[.bool false] 4)):=jzk (jzk (jzk (jzk (Below.refl _ _))));have ku:=HJ.out k0 W _ h0 (ai.mono hB);obtain⟨fn,tmps,assign,body,hy,hR⟩:=jqh (m':=5) (HY.out k0 (Sc.mk xk xA xc xl,Vl.mk xn xm xK xL xN xO xP xQ xR xS xU) _ (by have:=nM.out 0 _ rfl;simpa using this) ku (leT hB ai.size));unfold jjk at hy;simp only[jkb,jzx,Sc.k,Sc.v1,Vl.n,Vl.m,Vl.s1,Vl.c1,Vl.v1] at hy;have fN:=hR.mono fun e W' h=>jwf h
 clear hR h0 ku;simp only[Nd.lab,jkb,jzx,Sc.k,Sc.v1,Vl.n,Vl.m,Vl.s1,Vl.c1,Vl.v1];refine (callsIn_wide (n:=6)).1 (callsIn_of_wp_marks Tryz.func69 rfl trivial ?_ rfl);simp only[Tryz.ntmps69,List.size_toArray,List.length_cons,List.length_nil,Nat.reduceAdd,Nat.reduceSub,Array.replicate_succ,Array.replicate_zero,List.push_toArray,List.append_toArray,List.nil_append,List.cons_append];gi_wp2_with fail
 refine fN.mono ?_;clear hy fN;rintro e W3 ⟨r,rfl,hr⟩;have bR:Boxed ((((W.alloc (.cells #[.int .i64 xk,.slice xA xl.length xc,.int .u64 xn,.int .u64 xm,.slice xK xN.length xL,.slice xO xQ.length xP,.slice xR xU.length xS] 76)).alloc (.cells #[.func (.func 38) #[] #[]] 80)).alloc (.cells #[.func (.yield l) #[] #[]] 81)).alloc (.cells #[.bool false] 4)) (W.heap.size+1+1+1) 4 (.bool false):=by (have:=Boxed.new (((W.alloc (.cells #[.int .i64 xk,.slice xA xl.length xc,.int .u64 xn,.int .u64 xm,.slice xK xN.length xL,.slice xO xQ.length xP,.slice xR xU.length xS] 76)).alloc (.cells #[.func (.func 38) #[] #[]] 80)).alloc (.cells #[.func (.yield l) #[] #[]] 81)) 4 (.bool false);rw[World.size_alloc,World.size_alloc,World.size_alloc] at this;exact this)
 have af:∀ i v,(#[.int .i64 xk,.slice xA xl.length xc,.int .u64 xn,.int .u64 xm,.slice xK xN.length xL,.slice xO xQ.length xP,.slice xR xU.length xS]:Array Value)[i]?=some v->((((W.alloc (.cells #[.int .i64 xk,.slice xA xl.length xc,.int .u64 xn,.int .u64 xm,.slice xK xN.length xL,.slice xO xQ.length xP,.slice xR xU.length xS] 76)).alloc (.cells #[.func (.func 38) #[] #[]] 80)).alloc (.cells #[.func (.yield l) #[] #[]] 81)).alloc (.cells #[.bool false] 4)).cell? ⟨W.heap.size,i,none⟩=some v:=fun i v h =>
   ((show Below (W.heap.size+1) (W.alloc (.cells #[.int .i64 xk,.slice xA xl.length xc,.int .u64 xn,.int .u64 xm,.slice xK xN.length xL,.slice xO xQ.length xP,.slice xR xU.length xS] 76)) ((((W.alloc (.cells #[.int .i64 xk,.slice xA xl.length xc,.int .u64 xn,.int .u64 xm,.slice xK xN.length xL,.slice xO xQ.length xP,.slice xR xU.length xS] 76)).alloc (.cells #[.func (.func 38) #[] #[]] 80)).alloc (.cells #[.func (.yield l) #[] #[]] 81)).alloc (.cells #[.bool false] 4)) from jq3 (jq3 (jq3 (Below.refl _ _) (by simp)) (by simp)) (by simp)).cell (p:=⟨W.heap.size,i,none⟩) (by simp)).trans (jzs i v h)
 have ab:((((W.alloc (.cells #[.int .i64 xk,.slice xA xl.length xc,.int .u64 xn,.int .u64 xm,.slice xK xN.length xL,.slice xO xQ.length xP,.slice xR xU.length xS] 76)).alloc (.cells #[.func (.func 38) #[] #[]] 80)).alloc (.cells #[.func (.yield l) #[] #[]] 81)).alloc (.cells #[.bool false] 4)).cell? ⟨W.heap.size+1,0,none⟩=some (.func (.func 38) #[] #[]) :=
   ((show Below (W.heap.size+2) ((W.alloc (.cells #[.int .i64 xk,.slice xA xl.length xc,.int .u64 xn,.int .u64 xm,.slice xK xN.length xL,.slice xO xQ.length xP,.slice xR xU.length xS] 76)).alloc (.cells #[.func (.func 38) #[] #[]] 80)) ((((W.alloc (.cells #[.int .i64 xk,.slice xA xl.length xc,.int .u64 xn,.int .u64 xm,.slice xK xN.length xL,.slice xO xQ.length xP,.slice xR xU.length xS] 76)).alloc (.cells #[.func (.func 38) #[] #[]] 80)).alloc (.cells #[.func (.yield l) #[] #[]] 81)).alloc (.cells #[.bool false] 4)) from jq3 (jq3 (Below.refl _ _) (by simp)) (by simp)).cell (p:=⟨W.heap.size+1,0,none⟩) (by simp)).trans (by
     have:=jzs (w:=(W.alloc (.cells #[.int .i64 xk,.slice xA xl.length xc,.int .u64 xn,.int .u64 xm,.slice xK xN.length xL,.slice xO xQ.length xP,.slice xR xU.length xS] 76))) (cs:=#[.func (.func 38) #[] #[]]) (t:=80) 0 _ rfl
     rw[World.size_alloc] at this;exact this)
 have bj:((((W.alloc (.cells #[.int .i64 xk,.slice xA xl.length xc,.int .u64 xn,.int .u64 xm,.slice xK xN.length xL,.slice xO xQ.length xP,.slice xR xU.length xS] 76)).alloc (.cells #[.func (.func 38) #[] #[]] 80)).alloc (.cells #[.func (.yield l) #[] #[]] 81)).alloc (.cells #[.bool false] 4)).cell? ⟨W.heap.size+1+1,0,none⟩=some (.func (.yield l) #[] #[]) :=
   ((show Below (W.heap.size+3) (((W.alloc (.cells #[.int .i64 xk,.slice xA xl.length xc,.int .u64 xn,.int .u64 xm,.slice xK xN.length xL,.slice xO xQ.length xP,.slice xR xU.length xS] 76)).alloc (.cells #[.func (.func 38) #[] #[]] 80)).alloc (.cells #[.func (.yield l) #[] #[]] 81)) ((((W.alloc (.cells #[.int .i64 xk,.slice xA xl.length xc,.int .u64 xn,.int .u64 xm,.slice xK xN.length xL,.slice xO xQ.length xP,.slice xR xU.length xS] 76)).alloc (.cells #[.func (.func 38) #[] #[]] 80)).alloc (.cells #[.func (.yield l) #[] #[]] 81)).alloc (.cells #[.bool false] 4)) from jq3 (Below.refl _ _) (by simp)).cell (p:=⟨W.heap.size+1+1,0,none⟩) (by simp)).trans (by
     have:=jzs (w:=((W.alloc (.cells #[.int .i64 xk,.slice xA xl.length xc,.int .u64 xn,.int .u64 xm,.slice xK xN.length xL,.slice xO xQ.length xP,.slice xR xU.length xS] 76)).alloc (.cells #[.func (.func 38) #[] #[]] 80))) (cs:=#[.func (.yield l) #[] #[]]) (t:=81) 0 _ rfl
     rw[World.size_alloc,World.size_alloc] at this;exact this)
 cases r with
 | false=>(
 obtain⟨fg,cG⟩:=hr;have bR3:=cG.boxed (by omega) bR;have b8:=bR3.cell;have fW:=bR3.frozen;gi_wp2_with fail
 refine⟨_,jzr rfl rfl _ _ (W.heap.size+1+1+1) (.bool false) rfl (bR3.set (.bool false)).cell,?_⟩;refine .inr ⟨rfl,⟨k0,by first | omega | (simp;omega) | simp,lF.out _ _ _ fg ((Below.refl _ _).setCell (by first | omega | (simp;omega) | simp) _)⟩,?_⟩;exact ((KF.of_below ai).trans cG).later ((Below.refl _ _).setCell (by first | omega | (simp;omega) | simp) _))
 | true=>(
 obtain⟨jp,cG,eV⟩:=hr;have bR3:=cG.boxed (by omega) bR;have c0:W3.cell? ⟨W.heap.size,0,none⟩=some (.int .i64 xk):=cG.cell (by omega) (af 0 _ rfl);have c1:W3.cell? ⟨W.heap.size,1,none⟩=some (.slice xA xl.length xc):=cG.cell (by omega) (af 1 _ rfl);have c2:W3.cell? ⟨W.heap.size,2,none⟩=some (.int .u64 xn):=cG.cell (by omega) (af 2 _ rfl);have c3:W3.cell? ⟨W.heap.size,3,none⟩=some (.int .u64 xm):=cG.cell (by omega) (af 3 _ rfl);have c4:W3.cell? ⟨W.heap.size,4,none⟩=some (.slice xK xN.length xL):=cG.cell (by omega) (af 4 _ rfl);have c5:W3.cell? ⟨W.heap.size,5,none⟩=some (.slice xO xQ.length xP):=cG.cell (by omega) (af 5 _ rfl);have c6:W3.cell? ⟨W.heap.size,6,none⟩=some (.slice xR xU.length xS):=cG.cell (by omega) (af 6 _ rfl);have ce:W3.cell? ⟨W.heap.size+1,0,none⟩=some (.func (.func 38) #[] #[]):=cG.cell (by omega) ab;have cy:W3.cell? ⟨W.heap.size+1+1,0,none⟩=some (.func (.yield l) #[] #[]):=cG.cell (by omega) bj;have mj:KN D B W W3:=(KN.of_below ai).trans cG;have vf:=cG.size;simp only[World.size_alloc] at vf;clear cG bR af ab bj;have HG:=Lh (jbj (Sc.mk xk xA xc xl,Vl.mk xn xm xK xL xN xO xP xQ xR xS xU) D _ (jda.kn mj _ HM.out.1) eV);gi_wp2_with fail
 refine⟨trivial,(callsIn_wide.2 HG.out).mono ?_⟩;rintro e W4 ⟨bt,rfl,ca,bw⟩;have ce4:=(ca.cell (p:=⟨W.heap.size+1,0,none⟩) (by simp only;omega)).trans ce;have cy4:=(ca.cell (p:=⟨W.heap.size+1+1,0,none⟩) (by simp only;omega)).trans cy;have bR4:Boxed W4 (W.heap.size+1+1+1) 4 (.bool false):=(ca.block _ (by omega)).trans bR3;have mQ:KN D B W W4:=mj.trans (KN.of_below ca);have ud:=HJ.out _ _ _ jp (ca.mono (leT hB mj.size));clear c0 c1 c2 c3 c4 c5 c6 ce cy bR3 mj jp;have o4:=mQ.size;have hs34:=ca.size;have nw:B<=W4.heap.size:=leT hB o4;have i8:=Lh bw;have mu:Hid (l0.map Nd.lab=jxl (Sc.mk xk xA xc xl,Vl.mk xn xm xK xL xN xO xP xQ xR xS xU)):=HM.out.2.1 eV;clear bw eV ca;gi_wp2_with fail
 refine jjf rfl (enters_of Tryz.func70 (by kernel_rfl) rfl) i8.out (fun _=>rfl)
   (fun k X=>(J (k0+1+(Nd.preL (l0.take k)).length) X/\KN D B W X)/\X.cell? ⟨W.heap.size+1,0,none⟩=some (.func (.func 38) #[] #[])/\X.cell? ⟨W.heap.size+1+1,0,none⟩=some (.func (.yield l) #[] #[])/\Boxed X (W.heap.size+1+1+1) 4 (.bool false))
   (fun c _ X=>c = .ret/\Boxed X (W.heap.size+1+1+1) 4 (.bool false)/\(∃ k,k<k0+(Nd.preL l0).length+1/\Jx k X)/\KF B W X)
   (fun k X Y ⟨⟨h1,h2⟩,h3,h4,h5⟩ hb=>⟨⟨HJ.out _ _ _ h1 (hb.mono nw),h2.later (hb.mono o4)⟩,(hb.cell (p:=⟨W.heap.size+1,0,none⟩) (by simp only;omega)).trans h3,(hb.cell (p:=⟨W.heap.size+1+1,0,none⟩) (by simp only;omega)).trans h4,(hb.block _ (by omega)).trans h5⟩)
   (fun c k X Y ⟨h1,h2,⟨k',h3,h4⟩,h5⟩ hb=>⟨h1,(hb.block _ (by omega)).trans h2,⟨k',h3,lF.out _ _ _ h4 (hb.mono nw)⟩,h5.later (hb.mono o4)⟩)
   ⟨⟨by simpa[Nd.preL] using ud,mQ⟩,ce4,cy4,bR4⟩
   (fun y a' X=>∃ bp,a'={ tmps:=#[.agg #[.int .i64 xk,.slice xA xl.length xc,.int .u64 xn,.int .u64 xm,.slice xK xN.length xL,.slice xO xQ.length xP,.slice xR xU.length xS],.func (.func 38) #[] #[],.func (.yield l) #[] #[],.pointer (some ⟨W.heap.size,0,none⟩),.pointer (some ⟨W.heap.size+1,0,none⟩),.pointer (some ⟨W.heap.size+1+1,0,none⟩),.pointer (some ⟨W.heap.size+1+1+1,0,none⟩),.pointer (some ⟨bp,0,none⟩),.func (.yield l) #[] #[],.agg #[.int .i64 xk,.slice xA xl.length xc,.int .u64 xn,.int .u64 xm,.slice xK xN.length xL,.slice xO xQ.length xP,.slice xR xU.length xS],.bool true,.bool false,.func (.func 38) #[] #[],.agg #[.int .i64 xk,.slice xA xl.length xc,.int .u64 xn,.int .u64 xm,.slice xK xN.length xL,.slice xO xQ.length xP,.slice xR xU.length xS],
       .func (.func 70) #[] #[.pointer (some ⟨bt,0,none⟩)],jkb y,undef,undef,undef,undef,undef],defers:=[] } /\
     ∀ i v,(jzx y)[i]?=some v->X.cell? ⟨bp,i,none⟩=some v)
   ?ax ?assign ?body ?done ?stop
 case ax=>(rintro y a' _ X Y row ⟨bp,h1,h2⟩ hg hr;exact⟨bp,h1,fun i v h=>cell_kept (h2 i v h) hg (fun r e=>(hr r e).2)⟩)
 case assign=>(
 intro l2 k y X K _ _ hK;obtain⟨⟨yk,yA,yc,yl⟩,yn,ym,yK,yL,yN,yO,yP,yQ,yR,yS,yT⟩:=y;unfold jjk;simp only[jkb,jzx,Sc.k,Sc.v1,Vl.n,Vl.m,Vl.s1,Vl.c1,Vl.v1];gi_wp2
 exact hK _ _ (jzf _ _) ⟨X.heap.size,rfl,fun i v h=>jzs i v h⟩)
 case body=>(
 rintro l2 k y a' X nr nN ⟨⟨ep,cX⟩,h3,h4,h5⟩ ⟨bp,rfl,hc⟩;obtain⟨t,mz,iC⟩:∃ t,l0[k]?=some t/\t.lab=y:=by (rw[<- mu.out,List.getElem?_map] at nN;exact Option.map_eq_some_iff.1 nN)
 have HT:=Lh (And.intro mz iC);have cz:At zs (k0+1+(Nd.preL (l0.take k)).length) t.pre:=by (
 have h1:At zs (k0+1) (Nd.preL l0):=by (have h0:At zs k0 ([(Sc.mk xk xA xc xl,Vl.mk xn xm xK xL xN xO xP xQ xR xS xU)]++Nd.preL l0):=nM.out;exact h0.right)
 rw[jx9 mz] at h1;exact h1.right.left)
 have HR:=Lh (IH.out t (List.mem_of_getElem? mz) _ X ((HM.out.2.2 t (List.mem_of_getElem? mz)).mono (jda.kn cX)) (leT nw nr) ep cz);clear mz iC cz nN;obtain⟨⟨yk,yA,yc,yl⟩,yn,ym,yK,yL,yN,yO,yP,yQ,yR,yS,yT⟩:=y;have iC:=HT.out.2;simp only[iC] at HR;simp only[jkb,jzx,Sc.k,Sc.v1,Vl.n,Vl.m,Vl.s1,Vl.c1,Vl.v1] at HR;have e0:=hc 0 _ rfl;have e1:=hc 1 _ rfl;have e2:=hc 2 _ rfl;have e3:=hc 3 _ rfl;have e4:=hc 4 _ rfl;have e5:=hc 5 _ rfl;have e6:=hc 6 _ rfl;simp only[jkb,jzx,Sc.k,Sc.v1,Vl.n,Vl.m,Vl.s1,Vl.c1,Vl.v1] at e0 e1 e2 e3 e4 e5 e6 ⊢;clear hc iC;gi_wp2_with fail
 refine⟨trivial,rfl,(CallsIn.inRound l2 (callsIn_wide.2 HR.out)).mono ?_⟩;clear HR e0 e1 e2 e3 e4 e5 e6;rintro e X5 (⟨rfl,fJ,dD⟩ | ⟨rfl,⟨k',eN,ff⟩,j9⟩)
 ·(
 have t8:J (k0+1+(Nd.preL (l0.take (k+1))).length) X5:=by (rw[jv2 HT.out.1,List.length_append,<- Nat.add_assoc];exact fJ)
 have g3:=dD.cell (by omega) h3;have g4:=dD.cell (by omega) h4;have g5:=dD.boxed (by omega) h5;gi_wp2_with fail
 exact⟨dD.mono nw,⟨⟨t8,cX.trans dD⟩,g3,g4,g5⟩,trivial⟩)
 ·(
 have g5:=j9.boxed (by omega) h5;have b8:=g5.cell;have fW:=g5.frozen;have hk9:k'<k0+(Nd.preL l0).length+1:=by (have:=congrArg List.length (jx9 HT.out.1);simp only[List.length_append] at this;omega)
 gi_wp2_with fail
 refine⟨(j9.mono nw).trans (KF.set (by omega) _),rfl,g5.set _,⟨k',hk9,lF.out _ _ _ ff ((Below.refl _ _).setCell (by first | omega | (simp;omega) | simp) _)⟩,?_⟩;exact (cX.kf.trans j9).later ((Below.refl _ _).setCell (by first | omega | (simp;omega) | simp) _)))
 case done=>(
 rintro E X hE ⟨⟨ep,cX⟩,-,-,h5⟩ eK;have aq:(jxl (Sc.mk xk xA xc xl,Vl.mk xn xm xK xL xN xO xP xQ xR xS xU)).length=l0.length:=by rw[<- mu.out,List.length_map]
 rw[aq,List.take_length] at ep;have b8:=h5.cell;have fW:=h5.frozen;clear aq;gi_wp2
 have hne:W.heap.size+1+1+1≠E:=by omega
 have fX:(X.setCell ⟨W.heap.size+1+1+1,0,none⟩ (.bool true)).heap[E]?=some (.deferred (some [])):=(Below.heap_setCell _ _ _ _ (Ne.symm hne)).trans eK;refine⟨by simp,.inl ⟨_,_,rfl,run_takeDeferred fX,?_⟩⟩;refine⟨_,jzr rfl rfl _ _ (W.heap.size+1+1+1) (.bool true) rfl ((World.cell?_of_block (World.putObj_heap_other hne)).trans (h5.set (.bool true)).cell),?_⟩;have jG:Below W.heap.size X ((X.setCell ⟨W.heap.size+1+1+1,0,none⟩ (.bool true)).putObj E (.deferred none)):=((Below.refl _ _).setCell (by first | omega | (simp;omega) | simp) _).trans ⟨rfl,rfl,rfl,by simp,fun q hq=>World.putObj_heap_other (by omega)⟩;refine .inl ⟨rfl,?_,cX.later jG⟩;have:=HJ.out _ _ _ ep (jG.mono hB);simpa[Nat.add_assoc,Nat.add_comm,Nat.add_left_comm] using this)
 case stop=>(
 rintro E c k X hE hk ⟨rfl,h5,⟨k',eN,eJ⟩,tA⟩ eK;have b8:=h5.cell;gi_wp2
 have hne:W.heap.size+1+1+1≠E:=by omega
 refine⟨by simp,.inl ⟨_,_,rfl,run_takeDeferred eK,?_⟩⟩;refine⟨_,jzr rfl rfl _ _ (W.heap.size+1+1+1) (.bool false) rfl ((World.cell?_of_block (World.putObj_heap_other hne)).trans b8),?_⟩;have jG:Below W.heap.size X (X.putObj E (.deferred none)):=⟨rfl,rfl,rfl,by simp,fun q hq=>World.putObj_heap_other (by omega)⟩;exact .inr ⟨rfl,⟨k',by first | omega | (simp;omega) | simp,lF.out _ _ _ eJ (jG.mono hB)⟩,tA.later jG⟩)))
theorem jch(T:Nd (Sc×Vl))(D Bt Bi:Nat)(w:World)(hg:jdb (jda D w) jwx jxl T)(hD:D<w.heap.size)(fi:∀ i v,(jzx T.lab)[i]?=some v->w.cell? ⟨Bt,i,none⟩=some v)(jq:w.cell? ⟨Bi,0,none⟩=some (.func (.func 38) #[] #[])):jf8 Tryz.prog 68 #[.pointer (some ⟨Bt,0,none⟩),.pointer (some ⟨Bi,0,none⟩)] jjk D jwx T.pre w:=by
 intro l J Jx W hW hJ eJ hY h0;have HR:=Lh (goInto_T l D W.heap.size T.pre J Jx hJ eJ (ltl hD hW.size) hY T 0 W (hg.mono (jda.kn (B:=0) (KN.of_below hW))) (Nat.le_refl _) h0 (At.all _));have hi:=(hW.cell (p:=⟨Bi,0,none⟩) (World.block_lt_of_cell? w _ jq)).trans jq;have hc:∀ i v,(jzx T.lab)[i]?=some v->W.cell? ⟨Bt,i,none⟩=some v:=fun i v h=>(hW.cell (p:=⟨Bt,i,none⟩) (World.block_lt_of_cell? w _ (fi i v h))).trans (fi i v h)
 clear hY hJ eJ fi jq hg;obtain⟨x,l0⟩:=T;rw[Nd.lab] at hc;simp only[Nd.lab] at HR;obtain⟨⟨yk,yA,yc,yl⟩,yn,ym,yK,yL,yN,yO,yP,yQ,yR,yS,yT⟩:=x;have e0:=hc 0 _ rfl;have e1:=hc 1 _ rfl;have e2:=hc 2 _ rfl;have e3:=hc 3 _ rfl;have e4:=hc 4 _ rfl;have e5:=hc 5 _ rfl;have e6:=hc 6 _ rfl;simp only[jkb,jzx,Sc.k,Sc.v1,Vl.n,Vl.m,Vl.s1,Vl.c1,Vl.v1] at e0 e1 e2 e3 e4 e5 e6 HR;clear hc;refine (callsIn_wide (n:=6)).1 (callsIn_of_wp Tryz.func68 rfl trivial ?_ rfl);simp only[Tryz.ntmps68,List.size_toArray,List.length_cons,List.length_nil,Nat.reduceAdd,Nat.reduceSub,Array.replicate_succ,Array.replicate_zero,List.push_toArray,List.append_toArray,List.nil_append,List.cons_append];gi_wp2_with fail
 refine⟨trivial,(callsIn_wide.2 HR.out).mono ?_⟩;rintro e W5 (⟨rfl,fJ,dD⟩ | ⟨rfl,⟨k,hk,ff⟩,-⟩)
 ·(
 gi_wp2_with fail
 go_end0
 rw[Nat.zero_add] at fJ;exact⟨⟨_,rfl⟩,.inl fJ⟩)
 ·(
 gi_wp2_with fail
 go_end0
 exact⟨⟨_,rfl⟩,.inr ⟨k,by omega,ff⟩⟩)
def jih(T:Nd (Sc×Vl))(w:World)(e:Ending)(w':World):Prop :=
  ∃ b1 b2,e = .returned (.func (.func 68) #[] #[.pointer (some ⟨b1,0,none⟩),.pointer (some ⟨b2,0,none⟩)])/\Below w.heap.size w w' /\
    ∀ D w2,Below w'.heap.size w' w2->w.heap.size<=D->D<w2.heap.size->jf8 Tryz.prog 68 #[.pointer (some ⟨b1,0,none⟩),.pointer (some ⟨b2,0,none⟩)] jjk D jwx T.pre w2
theorem jl9(T:Nd (Sc×Vl))(w:World)(hg:∀ D,w.heap.size<=D->jdb (jda D w) jwx jxl T):Calls Tryz.prog 37 #[jkb T.lab,.func (.func 38) #[] #[]] w (jih T w):=by
 have ai:Below w.heap.size w ((w.alloc (.cells (jzx T.lab) 76)).alloc (.cells #[.func (.func 38) #[] #[]] 80)):=jzk (jzk (Below.refl _ _));have HS:Hid (∀ D w2,Below ((w.alloc (.cells (jzx T.lab) 76)).alloc (.cells #[.func (.func 38) #[] #[]] 80)).heap.size ((w.alloc (.cells (jzx T.lab) 76)).alloc (.cells #[.func (.func 38) #[] #[]] 80)) w2->w.heap.size<=D->D<w2.heap.size->jf8 Tryz.prog 68 #[.pointer (some ⟨w.heap.size,0,none⟩),.pointer (some ⟨w.heap.size+1,0,none⟩)] jjk D jwx T.pre w2):=by (
 intro D w2 ab hD eK;refine jch T D _ _ _ ((hg D hD).mono (jda.kn (B:=0) (KN.of_below (ai.trans (ab.mono ai.size))))) eK (fun i v h=>?_) ?_
 ·exact (ab.cell (p:=⟨w.heap.size,i,none⟩) (by simp;omega)).trans (((jq3 (Below.refl (w.heap.size+1) (w.alloc (.cells (jzx T.lab) 76))) (by simp)).cell (p:=⟨w.heap.size,i,none⟩) (by simp)).trans (jzs i v h))
 ·(have:=jzs (w:=w.alloc (.cells (jzx T.lab) 76)) (cs:=#[.func (.func 38) #[] #[]]) (t:=80) 0 _ rfl;rw[World.size_alloc] at this;exact (ab.cell (p:=⟨w.heap.size+1,0,none⟩) (by simp)).trans this))
 have HB:=Lh ai;clear hg ai;obtain⟨x,l0⟩:=T;simp only[Nd.lab] at HS HB ⊢;obtain⟨⟨yk,yA,yc,yl⟩,yn,ym,yK,yL,yN,yO,yP,yQ,yR,yS,yT⟩:=x;simp only[jkb,jzx,Sc.k,Sc.v1,Vl.n,Vl.m,Vl.s1,Vl.c1,Vl.v1] at HS HB ⊢;go_enter Tryz.func37,Tryz.ntmps37;go_wp2_with fail;go_ret;exact⟨_,_,rfl,HB.out,HS.out⟩
end V4
end Go.Proofs.YtobggoephhjofaaGreatDoor
