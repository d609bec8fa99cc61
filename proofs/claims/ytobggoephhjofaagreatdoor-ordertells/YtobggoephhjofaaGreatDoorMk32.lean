/- A part. No condition. -/
import Derived.Test.YtobggoephhjofaaGreatDoorMk29
import Derived.Test.YtobggoephhjofaaGreatDoorMk31
set_option maxRecDepth 100000
set_option maxHeartbeats 16000000
namespace Go.Proofs.YtobggoephhjofaaGreatDoor
namespace J5
open Go.RowKit Go.Shelf
open C3 (Tk In jkg Asc Nok jjo isC jzk jzf jz0 jz1)
open S2 (Sc Tr isT)
open V4 (Va Vl Ck isV jzt jzl jzh jzw jqp)
theorem jts{e:Va}(h:isV (.mk 7 []) e=true):∃ l:List Tk,((e = .zero/\l=[])\/(e = .mk 0 0 [] [l] []/\l≠[]))/\Asc l/\l.length<=40/\∀ y∈l,y.n≠0:=by
 rcases jjg.1 h with h | ⟨c,h,hc,hn⟩
 ·exact⟨[],.inl ⟨h,rfl⟩,List.Pairwise.nil,by simp,fun y hy=>by cases hy⟩
 ·(unfold isC at hc;rw[Bool.and_eq_true,Bool.and_eq_true,decide_eq_true_eq,decide_eq_true_eq,Bool.not_eq_true',List.any_eq_false] at hc;exact⟨c,.inr ⟨h,hn⟩,hc.2.1,hc.1,fun y hy e=>hc.2.2 y hy (by unfold C3.bad;simp[e])⟩)
theorem jrn{x y:Va}{l l':List Tk}(hx:(x = .zero/\l=[])\/(x = .mk 0 0 [] [l] []/\l≠[]))(hy:(y = .zero/\l'=[])\/(y = .mk 0 0 [] [l'] []/\l'≠[]))(ha:Asc l'):jke x y=if jjo l l'=[] then some .zero else if 40<(jjo l l').length then none else some (.mk 0 0 [] [jjo l l'] []):=by
 have e:(x.c++y.c).foldl jz0 []=jjo l l':=by (
 rcases hx with ⟨rfl,rfl⟩ | ⟨rfl,_⟩ <;> rcases hy with ⟨rfl,rfl⟩ | ⟨rfl,_⟩
 ·rfl
 ·(
 show jz0 [] l'=_
 exact C3.jyw [] l' ha)
 ·(
 show jz0 [] l=_
 rw[jz1];rfl)
 ·(
 show jz0 (jz0 [] l) l'=_
 rw[jz1];exact C3.jyw l l' ha))
 unfold jke;rw[e]
theorem jv3{P:Nat->Prop}{w:World}{cA:Option Addr}{cs:List Ck}{l:List Tk}(hm:cs.map Ck.l=[l])(hl:jzt P w cA (jzl cs))(hP:∀ k,P k->k<w.heap.size)(hk:∀ k∈cs,k.Inp P w):∃ b off kA kc,cs.length=1/\cA=some ⟨b,off,none⟩/\b<w.heap.size/\w.cell? ⟨b,off,none⟩=some (.slice kA l.length kc)/\In w kA kc l:=by
 match cs,hm with
 | [⟨kA,kc,kl⟩],hm=>(
 have:kl=l:=by simpa using hm
 subst this;obtain⟨b,off,rfl,hb,hc⟩:=hl.get (k:=0) (by simp[V4.jzl]);exact⟨b,off,kA,kc,rfl,rfl,hP _ hb,hc 0 _ rfl,(((hk _ (List.mem_singleton.2 rfl)).mono hP:(Ck.mk kA kc kl).Inp (fun b=>b<w.heap.size) w)).inn⟩)
theorem refj_7(A:Option Addr)(c:Nat)(P:Nat->Prop)(x y:Vl)(w:World)(hP:∀ k,P k->k<w.heap.size)(hx:x.Inp P w)(hy:y.Inp P w)(vx:isV (.mk 7 []) x.er=true)(vy:isV (.mk 7 []) y.er=true):Calls Tryz.prog 23 #[(Sc.mk 7 A c []).val,x.val,y.val] w (jp6 P w (jzp (.mk 7 []) x.er y.er)):=by
 obtain⟨l,hl,al,ll,-⟩:=jts vx;obtain⟨l',cR,al',ll',nl'⟩:=jts vy;have px:x.In w:=hx.mono hP;have py:y.In w:=hy.mono hP;have hE:=jrn hl cR al';rw[show jzp (.mk 7 []) x.er y.er=jke x.er y.er by rw[jzp,if_neg (by decide),if_neg (by decide),if_pos rfl],hE];clear hE vx vy hx hy hP;have hJ:∀ (W:World) (A c A' c'),In W A c l->In W A' c' l'->Calls Tryz.prog 52 #[.slice A l.length c,.slice A' l'.length c'] W (C3.RetOT W W.heap.size (jjo l l')):=fun W A c A' c' h h'=>C3.jdp A A' c c' l l' W h h' nl' (by omega) (by omega)
 have hN:Nok l->Nok l'->Nok (jjo l l'):=fun h h'=>by rw[<- C3.jyw l l' al'];exact C3.jfs h h'
 have lL:=C3.jnb l' l;obtain⟨ml,j5⟩:=exq (jjo l l');rw[j5] at hJ hN lL;rw[j5];obtain⟨res,a6⟩:=exq ((if ml=[] then some Va.zero else if 40<ml.length then none else some (Va.mk 0 0 [] [ml] [])));rw[a6];have HR:=Lh a6;have HJ:=Lh hJ;have HN:=Lh hN;clear j5 a6 hJ hN al al' nl';obtain⟨n,m,sA,sc,ss,cA,cc,cs,vA,vc,vs⟩:=x;obtain⟨n',m',sA',sc',ss',cA',cc',cs',vA',vc',vs'⟩:=y;rw[jzw] at hl cR;have lx:jzt (fun b=>b<w.heap.size) w cA (jzl cs):=by cases px with | mk _ _ _ _ _ _ _ _ _ _ _ _ _ _ _ _ b1 _ _ _ _ _=>exact b1
 have ly:jzt (fun b=>b<w.heap.size) w cA' (jzl cs'):=by cases py with | mk _ _ _ _ _ _ _ _ _ _ _ _ _ _ _ _ b1 _ _ _ _ _=>exact b1
 have kx:∀ k∈cs,k.Inp (fun b=>b<w.heap.size) w:=by cases px with | mk _ _ _ _ _ _ _ _ _ _ _ _ _ _ _ _ _ _ b3 _ _ _=>exact b3
 have ky:∀ k∈cs',k.Inp (fun b=>b<w.heap.size) w:=by cases py with | mk _ _ _ _ _ _ _ _ _ _ _ _ _ _ _ _ _ _ b3 _ _ _=>exact b3
 clear px py;rcases hl with ⟨hl,rfl⟩ | ⟨hl,n0⟩
 ·(
 rcases cR with ⟨cR,rfl⟩ | ⟨cR,n0'⟩
 ·(
 skip
 rw[Va.zero,jqp] at hl;obtain⟨rfl,rfl,rfl,hm,hv⟩:=hl;obtain rfl:=List.map_eq_nil_iff.1 hm;obtain rfl:=List.map_eq_nil_iff.1 hv;have hc:In w none 0 []:=C3.In.nil w;clear hm hv;rw[Va.zero,jqp] at cR;obtain⟨rfl,rfl,rfl,j7,lJ⟩:=cR;obtain rfl:=List.map_eq_nil_iff.1 j7;obtain rfl:=List.map_eq_nil_iff.1 lJ;have cP:In w none 0 []:=C3.In.nil w;clear j7 lJ;have jr:=Lh hc;have lh:=Lh cP;clear hc cP lx ly kx ky;have ld:=Lh (HN.out jr.out.nok lh.out.nok);clear HN;simp only[S2.jzh,jzh,List.length_nil];obtain⟨V,hV⟩:=exq ((((w.alloc (.cells #[.int .i64 7,.slice A 0 c] 24)).alloc (.cells #[.int .u64 0,.int .u64 0,.slice sA 0 sc,.slice cA 0 cc,.slice vA 0 vc] 30)).alloc (.cells #[.int .u64 0,.int .u64 0,.slice sA' 0 sc',.slice cA' 0 cc',.slice vA' 0 vc'] 30)).alloc (.cells #[.int .u64 0,.int .u64 0,.slice none 0 0,.slice none 0 0,.slice none 0 0] 30));obtain⟨q3,q4,q5,q6,ai,bz⟩:=jbu hV;have dm:w.heap.size+4<=V.heap.size:=by omega
 clear bz;obtain⟨e0,e1⟩:=blk2c q3;obtain⟨a0,a1,a2,a3,a4⟩:=blk5 q4;obtain⟨b0,b1,b2,b3,b4⟩:=blk5 q5;have ei:=Lh (fun (W:World) (hb:Below w.heap.size w W)=>HJ.out W none 0 none 0 (jr.out.later hb) (lh.out.later hb));clear jr lh HJ;simp only[List.length_nil] at ei;go_enter Tryz.func23,Tryz.ntmps23;go_wp2_with fail;refine (ei.out V ai).mono ?_;rintro e U ⟨v3,rfl,aj,az⟩;obtain⟨A3,c3,rfl,gm⟩:=aj.form ld.out;have HK:=Lh (jjn (fun b=>V.heap.size<=b/\b<U.heap.size) ⟨A3,c3,ml⟩ U (jyc gm (fun a ha=>(aj.lt (k:=a.block) (by rw[ha];rfl)).1) (by omega)) (fun _ h=>h.2));simp only[Ck.v] at HK;clear aj gm;go_wp2_with fail;refine HK.out.mono ?_;clear HK;rintro e W ⟨⟨zn,zm,zK,zL,zM,zN,zO,zP,zQ,zR,zS⟩,rfl,b7,a7,eX⟩;simp only[jzh];have HZ:=Lh a7;have HE:=Lh b7;clear a7 b7;have cZ:=az.trans (eX.mono az.size);go_wp2_with fail;refine (ei.out W (ai.trans (cZ.mono ai.size))).mono ?_;rintro e W2 ⟨v4,rfl,aj,fe⟩;obtain⟨A4,c4,rfl,-⟩:=aj.form ld.out;have b9:=cZ.trans (fe.mono cZ.size);have q6U:=q6.below (W':=W2) b9;have hg:∃ g:Bool,decide ((ml.length:Int)<=40)=g:=⟨_,rfl⟩
 obtain⟨g,hg⟩:=hg;have HG:Hid (g=decide (ml.length<=40)):=by show _=_;rw[<- hg];exact decide_eq_decide.2 (by omega)
 clear aj ei ld e0 e1 a0 a1 a2 a3 a4 b0 b1 b2 b3 b4 q3 q4 q5 hV;obtain⟨d0,d1,d2,d3,d4⟩:=blk5 q6U;obtain⟨f0,f1,f2,f3,f4⟩:=fro5 q6U;go_wp2_with fail;refine bodyPost_ret (rcv5 rfl _ _ (w.heap.size+1+1+1) (.int .u64 zn) (.int .u64 zm) (.slice zK zM.length zL) (.slice zN zP.length zO) (.slice zQ zS.length zR) rfl (jzc q6U)) rfl ?_;refine jq4 ai b9 (by omega) ((HZ.out.keep fun b hb=>fe.block b hb.2).mono fun b hb=>⟨.inr ?_,?_,ltl hb.2 fe.size⟩) ?_
 ·(
 rcases hb.1 with h | h
 ·have:=h.1;have:=ai.size;omega
 ·have:=az.size;have:=ai.size;omega)
 ·(
 rcases hb.1 with h | h
 ·have:=h.1;omega
 ·have:=az.size;omega)
 ·(
 rw[HG.out,<- HR.out,HE.out];by_cases h0:ml=[]
 ·rw[h0];exact .inl ⟨rfl,rfl⟩
 ·(
 rw[if_neg h0,if_neg h0];by_cases h4:ml.length<=40
 ·exact .inl ⟨decide_eq_true h4,by rw[if_neg (by omega)]⟩
 ·exact .inr ⟨decide_eq_false h4,by rw[if_pos (by omega)]⟩)))
 ·(
 have iD:0<l'.length:=List.length_pos_iff.2 n0';clear n0';rw[Va.zero,jqp] at hl;obtain⟨rfl,rfl,rfl,hm,hv⟩:=hl;obtain rfl:=List.map_eq_nil_iff.1 hm;obtain rfl:=List.map_eq_nil_iff.1 hv;have hc:In w none 0 []:=C3.In.nil w;clear hm hv;rw[jqp] at cR;obtain⟨rfl,rfl,rfl,j7,lJ⟩:=cR;obtain rfl:=List.map_eq_nil_iff.1 lJ;obtain⟨cb',co',kA',kc',sm,rfl,cJ,gp,cP⟩:=jv3 j7 ly (fun _ h=>h) ky;clear j7 lJ;have jr:=Lh hc;have lh:=Lh cP;clear hc cP lx ly kx ky;have ld:=Lh (HN.out jr.out.nok lh.out.nok);clear HN;simp only[S2.jzh,jzh,List.length_nil,sm];obtain⟨V,hV⟩:=exq ((((w.alloc (.cells #[.int .i64 7,.slice A 0 c] 24)).alloc (.cells #[.int .u64 0,.int .u64 0,.slice sA 0 sc,.slice cA 0 cc,.slice vA 0 vc] 30)).alloc (.cells #[.int .u64 0,.int .u64 0,.slice sA' 0 sc',.slice (some ⟨cb',co',none⟩) 1 cc',.slice vA' 0 vc'] 30)).alloc (.cells #[.int .u64 0,.int .u64 0,.slice none 0 0,.slice none 0 0,.slice none 0 0] 30));obtain⟨q3,q4,q5,q6,ai,bz⟩:=jbu hV;have dm:w.heap.size+4<=V.heap.size:=by omega
 clear bz;obtain⟨e0,e1⟩:=blk2c q3;obtain⟨a0,a1,a2,a3,a4⟩:=blk5 q4;obtain⟨b0,b1,b2,b3,b4⟩:=blk5 q5;have u':V.cell? ⟨cb',co',none⟩=some (.slice kA' l'.length kc'):=(ai.cell (p:=⟨cb',co',none⟩) cJ).trans gp;clear gp;have ei:=Lh (fun (W:World) (hb:Below w.heap.size w W)=>HJ.out W none 0 kA' kc' (jr.out.later hb) (lh.out.later hb));clear jr lh HJ;simp only[List.length_nil] at ei;go_enter Tryz.func23,Tryz.ntmps23;go_wp2_with fail;refine (ei.out V ai).mono ?_;rintro e U ⟨v3,rfl,aj,az⟩;obtain⟨A3,c3,rfl,gm⟩:=aj.form ld.out;have HK:=Lh (jjn (fun b=>V.heap.size<=b/\b<U.heap.size) ⟨A3,c3,ml⟩ U (jyc gm (fun a ha=>(aj.lt (k:=a.block) (by rw[ha];rfl)).1) (by omega)) (fun _ h=>h.2));simp only[Ck.v] at HK;clear aj gm;go_wp2_with fail;refine HK.out.mono ?_;clear HK;rintro e W ⟨⟨zn,zm,zK,zL,zM,zN,zO,zP,zQ,zR,zS⟩,rfl,b7,a7,eX⟩;simp only[jzh];have HZ:=Lh a7;have HE:=Lh b7;clear a7 b7;have cZ:=az.trans (eX.mono az.size);go_wp2_with fail;refine (ei.out W (ai.trans (cZ.mono ai.size))).mono ?_;rintro e W2 ⟨v4,rfl,aj,fe⟩;obtain⟨A4,c4,rfl,-⟩:=aj.form ld.out;have b9:=cZ.trans (fe.mono cZ.size);have q6U:=q6.below (W':=W2) b9;have hg:∃ g:Bool,decide ((ml.length:Int)<=40)=g:=⟨_,rfl⟩
 obtain⟨g,hg⟩:=hg;have HG:Hid (g=decide (ml.length<=40)):=by show _=_;rw[<- hg];exact decide_eq_decide.2 (by omega)
 clear aj ei ld e0 e1 a0 a1 a2 a3 a4 b0 b1 b2 b3 b4 q3 q4 q5 hV u';obtain⟨d0,d1,d2,d3,d4⟩:=blk5 q6U;obtain⟨f0,f1,f2,f3,f4⟩:=fro5 q6U;go_wp2_with fail;refine bodyPost_ret (rcv5 rfl _ _ (w.heap.size+1+1+1) (.int .u64 zn) (.int .u64 zm) (.slice zK zM.length zL) (.slice zN zP.length zO) (.slice zQ zS.length zR) rfl (jzc q6U)) rfl ?_;refine jq4 ai b9 (by omega) ((HZ.out.keep fun b hb=>fe.block b hb.2).mono fun b hb=>⟨.inr ?_,?_,ltl hb.2 fe.size⟩) ?_
 ·(
 rcases hb.1 with h | h
 ·have:=h.1;have:=ai.size;omega
 ·have:=az.size;have:=ai.size;omega)
 ·(
 rcases hb.1 with h | h
 ·have:=h.1;omega
 ·have:=az.size;omega)
 ·(
 rw[HG.out,<- HR.out,HE.out];by_cases h0:ml=[]
 ·rw[h0];exact .inl ⟨rfl,rfl⟩
 ·(
 rw[if_neg h0,if_neg h0];by_cases h4:ml.length<=40
 ·exact .inl ⟨decide_eq_true h4,by rw[if_neg (by omega)]⟩
 ·exact .inr ⟨decide_eq_false h4,by rw[if_pos (by omega)]⟩))))
 ·(
 have hp:0<l.length:=List.length_pos_iff.2 n0;clear n0;rcases cR with ⟨cR,rfl⟩ | ⟨cR,n0'⟩
 ·(
 skip
 rw[jqp] at hl;obtain⟨rfl,rfl,rfl,hm,hv⟩:=hl;obtain rfl:=List.map_eq_nil_iff.1 hv;obtain⟨cb,co,kA,kc,b8,rfl,hlt,cj,hc⟩:=jv3 hm lx (fun _ h=>h) kx;clear hm hv;rw[Va.zero,jqp] at cR;obtain⟨rfl,rfl,rfl,j7,lJ⟩:=cR;obtain rfl:=List.map_eq_nil_iff.1 j7;obtain rfl:=List.map_eq_nil_iff.1 lJ;have cP:In w none 0 []:=C3.In.nil w;clear j7 lJ;have jr:=Lh hc;have lh:=Lh cP;clear hc cP lx ly kx ky;have ld:=Lh (HN.out jr.out.nok lh.out.nok);clear HN;simp only[S2.jzh,jzh,List.length_nil,b8];obtain⟨V,hV⟩:=exq ((((w.alloc (.cells #[.int .i64 7,.slice A 0 c] 24)).alloc (.cells #[.int .u64 0,.int .u64 0,.slice sA 0 sc,.slice (some ⟨cb,co,none⟩) 1 cc,.slice vA 0 vc] 30)).alloc (.cells #[.int .u64 0,.int .u64 0,.slice sA' 0 sc',.slice cA' 0 cc',.slice vA' 0 vc'] 30)).alloc (.cells #[.int .u64 0,.int .u64 0,.slice none 0 0,.slice none 0 0,.slice none 0 0] 30));obtain⟨q3,q4,q5,q6,ai,bz⟩:=jbu hV;have dm:w.heap.size+4<=V.heap.size:=by omega
 clear bz;obtain⟨e0,e1⟩:=blk2c q3;obtain⟨a0,a1,a2,a3,a4⟩:=blk5 q4;obtain⟨b0,b1,b2,b3,b4⟩:=blk5 q5;have u:V.cell? ⟨cb,co,none⟩=some (.slice kA l.length kc):=(ai.cell (p:=⟨cb,co,none⟩) hlt).trans cj;clear cj;have ei:=Lh (fun (W:World) (hb:Below w.heap.size w W)=>HJ.out W kA kc none 0 (jr.out.later hb) (lh.out.later hb));clear jr lh HJ;simp only[List.length_nil] at ei;go_enter Tryz.func23,Tryz.ntmps23;go_wp2_with fail;refine (ei.out V ai).mono ?_;rintro e U ⟨v3,rfl,aj,az⟩;obtain⟨A3,c3,rfl,gm⟩:=aj.form ld.out;have HK:=Lh (jjn (fun b=>V.heap.size<=b/\b<U.heap.size) ⟨A3,c3,ml⟩ U (jyc gm (fun a ha=>(aj.lt (k:=a.block) (by rw[ha];rfl)).1) (by omega)) (fun _ h=>h.2));simp only[Ck.v] at HK;clear aj gm;go_wp2_with fail;refine HK.out.mono ?_;clear HK;rintro e W ⟨⟨zn,zm,zK,zL,zM,zN,zO,zP,zQ,zR,zS⟩,rfl,b7,a7,eX⟩;simp only[jzh];have HZ:=Lh a7;have HE:=Lh b7;clear a7 b7;have cZ:=az.trans (eX.mono az.size);go_wp2_with fail;refine (ei.out W (ai.trans (cZ.mono ai.size))).mono ?_;rintro e W2 ⟨v4,rfl,aj,fe⟩;obtain⟨A4,c4,rfl,-⟩:=aj.form ld.out;have b9:=cZ.trans (fe.mono cZ.size);have q6U:=q6.below (W':=W2) b9;have hg:∃ g:Bool,decide ((ml.length:Int)<=40)=g:=⟨_,rfl⟩
 obtain⟨g,hg⟩:=hg;have HG:Hid (g=decide (ml.length<=40)):=by show _=_;rw[<- hg];exact decide_eq_decide.2 (by omega)
 clear aj ei ld e0 e1 a0 a1 a2 a3 a4 b0 b1 b2 b3 b4 q3 q4 q5 hV u;obtain⟨d0,d1,d2,d3,d4⟩:=blk5 q6U;obtain⟨f0,f1,f2,f3,f4⟩:=fro5 q6U;go_wp2_with fail;refine bodyPost_ret (rcv5 rfl _ _ (w.heap.size+1+1+1) (.int .u64 zn) (.int .u64 zm) (.slice zK zM.length zL) (.slice zN zP.length zO) (.slice zQ zS.length zR) rfl (jzc q6U)) rfl ?_;refine jq4 ai b9 (by omega) ((HZ.out.keep fun b hb=>fe.block b hb.2).mono fun b hb=>⟨.inr ?_,?_,ltl hb.2 fe.size⟩) ?_
 ·(
 rcases hb.1 with h | h
 ·have:=h.1;have:=ai.size;omega
 ·have:=az.size;have:=ai.size;omega)
 ·(
 rcases hb.1 with h | h
 ·have:=h.1;omega
 ·have:=az.size;omega)
 ·(
 rw[HG.out,<- HR.out,HE.out];by_cases h0:ml=[]
 ·rw[h0];exact .inl ⟨rfl,rfl⟩
 ·(
 rw[if_neg h0,if_neg h0];by_cases h4:ml.length<=40
 ·exact .inl ⟨decide_eq_true h4,by rw[if_neg (by omega)]⟩
 ·exact .inr ⟨decide_eq_false h4,by rw[if_pos (by omega)]⟩)))
 ·(
 have iD:0<l'.length:=List.length_pos_iff.2 n0';clear n0';rw[jqp] at hl;obtain⟨rfl,rfl,rfl,hm,hv⟩:=hl;obtain rfl:=List.map_eq_nil_iff.1 hv;obtain⟨cb,co,kA,kc,b8,rfl,hlt,cj,hc⟩:=jv3 hm lx (fun _ h=>h) kx;clear hm hv;rw[jqp] at cR;obtain⟨rfl,rfl,rfl,j7,lJ⟩:=cR;obtain rfl:=List.map_eq_nil_iff.1 lJ;obtain⟨cb',co',kA',kc',sm,rfl,cJ,gp,cP⟩:=jv3 j7 ly (fun _ h=>h) ky;clear j7 lJ;have jr:=Lh hc;have lh:=Lh cP;clear hc cP lx ly kx ky;have ld:=Lh (HN.out jr.out.nok lh.out.nok);clear HN;simp only[S2.jzh,jzh,List.length_nil,b8,sm];obtain⟨V,hV⟩:=exq ((((w.alloc (.cells #[.int .i64 7,.slice A 0 c] 24)).alloc (.cells #[.int .u64 0,.int .u64 0,.slice sA 0 sc,.slice (some ⟨cb,co,none⟩) 1 cc,.slice vA 0 vc] 30)).alloc (.cells #[.int .u64 0,.int .u64 0,.slice sA' 0 sc',.slice (some ⟨cb',co',none⟩) 1 cc',.slice vA' 0 vc'] 30)).alloc (.cells #[.int .u64 0,.int .u64 0,.slice none 0 0,.slice none 0 0,.slice none 0 0] 30));obtain⟨q3,q4,q5,q6,ai,bz⟩:=jbu hV;have dm:w.heap.size+4<=V.heap.size:=by omega
 clear bz;obtain⟨e0,e1⟩:=blk2c q3;obtain⟨a0,a1,a2,a3,a4⟩:=blk5 q4;obtain⟨b0,b1,b2,b3,b4⟩:=blk5 q5;have u:V.cell? ⟨cb,co,none⟩=some (.slice kA l.length kc):=(ai.cell (p:=⟨cb,co,none⟩) hlt).trans cj;clear cj;have u':V.cell? ⟨cb',co',none⟩=some (.slice kA' l'.length kc'):=(ai.cell (p:=⟨cb',co',none⟩) cJ).trans gp;clear gp;have ei:=Lh (fun (W:World) (hb:Below w.heap.size w W)=>HJ.out W kA kc kA' kc' (jr.out.later hb) (lh.out.later hb));clear jr lh HJ;go_enter Tryz.func23,Tryz.ntmps23;go_wp2_with fail;refine (ei.out V ai).mono ?_;rintro e U ⟨v3,rfl,aj,az⟩;obtain⟨A3,c3,rfl,gm⟩:=aj.form ld.out;have HK:=Lh (jjn (fun b=>V.heap.size<=b/\b<U.heap.size) ⟨A3,c3,ml⟩ U (jyc gm (fun a ha=>(aj.lt (k:=a.block) (by rw[ha];rfl)).1) (by omega)) (fun _ h=>h.2));simp only[Ck.v] at HK;clear aj gm;go_wp2_with fail;refine HK.out.mono ?_;clear HK;rintro e W ⟨⟨zn,zm,zK,zL,zM,zN,zO,zP,zQ,zR,zS⟩,rfl,b7,a7,eX⟩;simp only[jzh];have HZ:=Lh a7;have HE:=Lh b7;clear a7 b7;have cZ:=az.trans (eX.mono az.size);go_wp2_with fail;refine (ei.out W (ai.trans (cZ.mono ai.size))).mono ?_;rintro e W2 ⟨v4,rfl,aj,fe⟩;obtain⟨A4,c4,rfl,-⟩:=aj.form ld.out;have b9:=cZ.trans (fe.mono cZ.size);have q6U:=q6.below (W':=W2) b9;have hg:∃ g:Bool,decide ((ml.length:Int)<=40)=g:=⟨_,rfl⟩
 obtain⟨g,hg⟩:=hg;have HG:Hid (g=decide (ml.length<=40)):=by show _=_;rw[<- hg];exact decide_eq_decide.2 (by omega)
 clear aj ei ld e0 e1 a0 a1 a2 a3 a4 b0 b1 b2 b3 b4 q3 q4 q5 hV u u';obtain⟨d0,d1,d2,d3,d4⟩:=blk5 q6U;obtain⟨f0,f1,f2,f3,f4⟩:=fro5 q6U;go_wp2_with fail;refine bodyPost_ret (rcv5 rfl _ _ (w.heap.size+1+1+1) (.int .u64 zn) (.int .u64 zm) (.slice zK zM.length zL) (.slice zN zP.length zO) (.slice zQ zS.length zR) rfl (jzc q6U)) rfl ?_;refine jq4 ai b9 (by omega) ((HZ.out.keep fun b hb=>fe.block b hb.2).mono fun b hb=>⟨.inr ?_,?_,ltl hb.2 fe.size⟩) ?_
 ·(
 rcases hb.1 with h | h
 ·have:=h.1;have:=ai.size;omega
 ·have:=az.size;have:=ai.size;omega)
 ·(
 rcases hb.1 with h | h
 ·have:=h.1;omega
 ·have:=az.size;omega)
 ·(
 rw[HG.out,<- HR.out,HE.out];by_cases h0:ml=[]
 ·rw[h0];exact .inl ⟨rfl,rfl⟩
 ·(
 rw[if_neg h0,if_neg h0];by_cases h4:ml.length<=40
 ·exact .inl ⟨decide_eq_true h4,by rw[if_neg (by omega)]⟩
 ·exact .inr ⟨decide_eq_false h4,by rw[if_pos (by omega)]⟩))))
open C3 (Tk In jzk jzf)
open V4 (Va Vl Ck isV jqv jzt jzh jzw jwr)
theorem refj_4(A:Option Addr)(c:Nat)(a:Sc)(P:Nat->Prop)(x y:Vl)(w:World)(hP:∀ k,P k->k<w.heap.size)(hs:S2.jw9 w.heap.size w A [a])(vd:a.In w.heap.size w)(ht:isT 15 a.er=true)(hx:x.Inp P w)(hy:y.Inp P w)(vx:isV (.mk 4 [a.er]) x.er=true)(vy:isV (.mk 4 [a.er]) y.er=true)(hj:∀ (Q:Nat->Prop) (u v:Vl) (W:World),Below w.heap.size w W->(∀ k,Q k->k<W.heap.size)->u.Inp Q W->v.Inp Q W->isV a.er u.er=true->isV a.er v.er=true->Calls Tryz.prog 23 #[a.val,u.val,v.val] W (jp6 Q W (jzp a.er u.er v.er))):Calls Tryz.prog 23 #[(Sc.mk 4 A c [a]).val,x.val,y.val] w (jp6 P w (jzp (.mk 4 [a.er]) x.er y.er)):=by
 have HJ:=Lh (fun W (hb:Below w.heap.size w W)=>jdo A c a P x y W (fun k hk=>ltl (hP k hk) hb.size) ((hs.below hb).up hb.size) (vd.later hb) ht (hx.keep fun b h=>hb.block b (hP b h)) (hy.keep fun b h=>hb.block b (hP b h)) vx vy (fun Q u v W' ct=>hj Q u v W' (hb.trans (ct.mono hb.size))));rw[show jzp (.mk 4 [a.er]) x.er y.er=jo2 (jzp a.er) x.er y.er by rw[jzp,if_pos rfl]];obtain⟨res,a6⟩:=exq (jo2 (jzp a.er) x.er y.er);rw[a6] at HJ;rw[a6];clear hx hy vx vy a6 hj hs vd ht;obtain⟨n,m,sA,sc,ss,cA,cc,cs,vA,vc,vs⟩:=x;obtain⟨n',m',sA',sc',ss',cA',cc',cs',vA',vc',vs'⟩:=y;simp only[S2.jzh,jzh,List.length_cons,List.length_nil,Nat.zero_add] at HJ;simp only[S2.jzh,jzh,List.length_cons,List.length_nil,Nat.zero_add];obtain⟨V,hV⟩:=exq ((((w.alloc (.cells #[.int .i64 4,.slice A 1 c] 24)).alloc (.cells #[.int .u64 n,.int .u64 m,.slice sA ss.length sc,.slice cA cs.length cc,.slice vA vs.length vc] 30)).alloc (.cells #[.int .u64 n',.int .u64 m',.slice sA' ss'.length sc',.slice cA' cs'.length cc',.slice vA' vs'.length vc'] 30)).alloc (.cells #[.int .u64 0,.int .u64 0,.slice none 0 0,.slice none 0 0,.slice none 0 0] 30));obtain⟨q3,q4,q5,q6,ai,bz⟩:=jbu hV;have dm:w.heap.size+4<=V.heap.size:=by omega
 clear bz;obtain⟨e0,e1⟩:=blk2c q3;obtain⟨a0,a1,a2,a3,a4⟩:=blk5 q4;obtain⟨b0,b1,b2,b3,b4⟩:=blk5 q5;go_enter Tryz.func23,Tryz.ntmps23;go_wp2_with fail;refine (HJ.out V ai).mono ?_;rintro e U ⟨⟨zn,zm,zK,zL,zM,zN,zO,zP,zQ,zR,zS⟩,bo,rfl,a7,az,aB⟩;simp only[jzh];have HZ:=Lh a7;have HC:=Lh aB;have q6U:=q6.below (W':=U) az;clear a7 aB e0 e1 a0 a1 a2 a3 a4 b0 b1 b2 b3 b4 q3 q4 q5 hV;obtain⟨d0,d1,d2,d3,d4⟩:=blk5 q6U;obtain⟨f0,f1,f2,f3,f4⟩:=fro5 q6U;go_wp2_with fail;refine bodyPost_ret (rcv5 rfl _ _ (w.heap.size+1+1+1) (.int .u64 zn) (.int .u64 zm) (.slice zK zM.length zL) (.slice zN zP.length zO) (.slice zQ zS.length zR) rfl (jzc q6U)) rfl ?_;refine jq4 ai az (by omega) (HZ.out.mono fun k hk=>⟨hk.1.imp id fun h=>leT ai.size h,fun e=>?_,hk.2⟩) HC.out;rcases hk.1 with h | h
 ·have:=hP k h;omega
 ·omega
theorem refj_8(A:Option Addr)(c:Nat)(a:Sc)(P:Nat->Prop)(x y:Vl)(w:World)(hP:∀ k,P k->k<w.heap.size)(hs:S2.jw9 w.heap.size w A [a])(ht:isT 15 a.er=true)(hx:x.Inp P w)(hy:y.Inp P w)(vx:isV (.mk 8 [a.er]) x.er=true)(vy:isV (.mk 8 [a.er]) y.er=true)(hj:∀ (Q:Nat->Prop) (u v:Vl) (W:World),Below w.heap.size w W->(∀ k,Q k->k<W.heap.size)->u.Inp Q W->v.Inp Q W->isV a.er u.er=true->isV a.er v.er=true->Calls Tryz.prog 23 #[a.val,u.val,v.val] W (jp6 Q W (jzp a.er u.er v.er))):Calls Tryz.prog 23 #[(Sc.mk 8 A c [a]).val,x.val,y.val] w (jp6 P w (jzp (.mk 8 [a.er]) x.er y.er)):=by
 have HJ:=Lh (fun W (hb:Below w.heap.size w W)=>jmo A c a P x y W (fun k hk=>ltl (hP k hk) hb.size) ((hs.below hb).up hb.size) ht (hx.keep fun b h=>hb.block b (hP b h)) (hy.keep fun b h=>hb.block b (hP b h)) vx vy (fun Q u v W' ct=>hj Q u v W' (hb.trans (ct.mono hb.size))));rw[show jzp (.mk 8 [a.er]) x.er y.er=jwu (jzp a.er) x.er y.er by rw[jzp,if_neg (by decide)]];obtain⟨res,a6⟩:=exq (jwu (jzp a.er) x.er y.er);rw[a6] at HJ;rw[a6];clear hx hy vx vy a6 hj hs ht;obtain⟨n,m,sA,sc,ss,cA,cc,cs,vA,vc,vs⟩:=x;obtain⟨n',m',sA',sc',ss',cA',cc',cs',vA',vc',vs'⟩:=y;simp only[S2.jzh,jzh,List.length_cons,List.length_nil,Nat.zero_add] at HJ;simp only[S2.jzh,jzh,List.length_cons,List.length_nil,Nat.zero_add];obtain⟨V,hV⟩:=exq ((((w.alloc (.cells #[.int .i64 8,.slice A 1 c] 24)).alloc (.cells #[.int .u64 n,.int .u64 m,.slice sA ss.length sc,.slice cA cs.length cc,.slice vA vs.length vc] 30)).alloc (.cells #[.int .u64 n',.int .u64 m',.slice sA' ss'.length sc',.slice cA' cs'.length cc',.slice vA' vs'.length vc'] 30)).alloc (.cells #[.int .u64 0,.int .u64 0,.slice none 0 0,.slice none 0 0,.slice none 0 0] 30));obtain⟨q3,q4,q5,q6,ai,bz⟩:=jbu hV;have dm:w.heap.size+4<=V.heap.size:=by omega
 clear bz;obtain⟨e0,e1⟩:=blk2c q3;obtain⟨a0,a1,a2,a3,a4⟩:=blk5 q4;obtain⟨b0,b1,b2,b3,b4⟩:=blk5 q5;go_enter Tryz.func23,Tryz.ntmps23;go_wp2_with fail;refine (HJ.out V ai).mono ?_;rintro e U ⟨⟨zn,zm,zK,zL,zM,zN,zO,zP,zQ,zR,zS⟩,bo,rfl,a7,az,aB⟩;simp only[jzh];have HZ:=Lh a7;have HC:=Lh aB;have q6U:=q6.below (W':=U) az;clear a7 aB e0 e1 a0 a1 a2 a3 a4 b0 b1 b2 b3 b4 q3 q4 q5 hV;obtain⟨d0,d1,d2,d3,d4⟩:=blk5 q6U;obtain⟨f0,f1,f2,f3,f4⟩:=fro5 q6U;go_wp2_with fail;refine bodyPost_ret (rcv5 rfl _ _ (w.heap.size+1+1+1) (.int .u64 zn) (.int .u64 zm) (.slice zK zM.length zL) (.slice zN zP.length zO) (.slice zQ zS.length zR) rfl (jzc q6U)) rfl ?_;refine jq4 ai az (by omega) (HZ.out.mono fun k hk=>⟨hk.1.imp id fun h=>leT ai.size h,fun e=>?_,hk.2⟩) HC.out;rcases hk.1 with h | h
 ·have:=hP k h;omega
 ·omega
theorem jdq:∀ (s:Sc) (n:Nat),n<=16->isT n s.er=true->∀ (P:Nat->Prop) (x y:Vl) (w:World),(∀ k,P k->k<w.heap.size)->s.In w.heap.size w->x.Inp P w->y.Inp P w->isV s.er x.er=true->isV s.er y.er=true->Calls Tryz.prog 23 #[s.val,x.val,y.val] w (jp6 P w (jzp s.er x.er y.er)):=by
 intro s;induction s using S2.Sc.ind with
 | h k A c l ih=>(
 intro n hn ht P x y w hP hs hx hy vx vy;rw[S2.jzw] at ht vx vy ⊢;obtain⟨m,hm,hc⟩:=jq2 ht;rcases hc with ⟨k',hk,e⟩ | ⟨k',a',hk,e,ha⟩ | ⟨a',b',e,ha,hb_⟩
 ·(
 obtain⟨rfl,hl⟩:=(Tr.mk.injEq _ _ _ _).mp e;obtain rfl:l=[]:=List.map_eq_nil_iff.1 hl;simp only[List.map_nil] at vx vy ⊢;rcases hk with rfl | rfl | rfl | rfl | rfl
 ·exact refj_1 A c P x y w hP hx hy
 ·exact refj_2 A c P x y w hP hx hy
 ·exact refj_3 A c P x y w hP hx hy vx vy
 ·exact refj_6 A c P x y w hP hx hy vx vy
 ·exact refj_7 A c P x y w hP hx hy vx vy)
 ·(
 obtain⟨rfl,hl⟩:=(Tr.mk.injEq _ _ _ _).mp e;obtain⟨a,rfl,rfl⟩:∃ a,l=[a]/\a.er=a':=by (
 match l,hl with
 | [a],hl=>exact⟨a,rfl,by simpa using hl⟩)
 simp only[List.map_cons,List.map_nil] at vx vy ⊢;obtain⟨mi,_,_,bu⟩:=hs.out;have bx:=bu a (by simp);have qC:isT 15 a.er=true:=jwr ha (by omega);have hj:∀ (Q:Nat->Prop) (u v:Vl) (W:World),Below w.heap.size w W->(∀ k,Q k->k<W.heap.size)->u.Inp Q W->v.Inp Q W->isV a.er u.er=true->isV a.er v.er=true->Calls Tryz.prog 23 #[a.val,u.val,v.val] W (jp6 Q W (jzp a.er u.er v.er)):=fun Q u v W hb hQ hu hv iu iv=>ih a (by simp) m (by omega) ha Q u v W hQ (bx.later hb) hu hv iu iv
 rcases hk with rfl | rfl
 ·exact refj_4 A c a P x y w hP mi bx qC hx hy vx vy hj
 ·exact refj_8 A c a P x y w hP mi qC hx hy vx vy hj)
 ·(
 obtain⟨rfl,hl⟩:=(Tr.mk.injEq _ _ _ _).mp e;obtain⟨a,b,rfl,rfl,rfl⟩:∃ a b,l=[a,b]/\a.er=a'/\b.er=b':=by (
 match l,hl with
 | [a,b],hl=>simp at hl;exact⟨a,b,rfl,hl.1,hl.2⟩)
 simp only[List.map_cons,List.map_nil] at vx vy ⊢;obtain⟨mi,_,_,bu⟩:=hs.out;refine refj_5 A c a b P x y w hP mi hx hy vx vy fun s jg u v hu hv iu iv W hb=>?_
 have dn:s∈[a,b]:=by rcases jg with rfl | rfl <;> simp
 have hts:isT m s.er=true:=by rcases jg with rfl | rfl;exact ha;exact hb_
 exact ih s dn m (by omega) hts P u v W (fun k hk=>ltl (hP k hk) hb.size) ((bu s dn).later hb) (hu.keep fun b h=>hb.block b (hP b h)) (hv.keep fun b h=>hb.block b (hP b h)) iu iv))
end J5
end Go.Proofs.YtobggoephhjofaaGreatDoor
