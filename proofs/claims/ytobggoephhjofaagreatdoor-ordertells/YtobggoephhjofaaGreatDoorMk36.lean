/- A part. No condition. -/
import Derived.Test.YtobggoephhjofaaGreatDoorMk35
set_option maxRecDepth 100000
set_option maxHeartbeats 16000000
namespace Go.Proofs.YtobggoephhjofaaGreatDoor
namespace J5
open C3 (Tk jjd isC jz0 jz1 jz3 jxh jxi jxj jjy jwp)
open V4 (Va isV jqv jwr)
open S2 (Tr isT)
theorem joz:∀ a b:List Tk,jz0 b a=jz0 a b:=by
 intro a b;induction a,b using jz0.induct with
 | case1 b=>rw[jz1,jz3]
 | case2 x a=>rw[jz3,jz1]
 | case3 x a y b hlt ih=>rw[jxh _ _ hlt,jxi _ _ hlt,ih]
 | case4 x a y b hlt hgt ih=>rw[jxi _ _ hgt,jxh _ _ hgt,ih]
 | case5 x a y b hlt hgt ih=>(
 have h:x.k=y.k:=by omega
 rw[jxj _ _ h,jxj _ _ h.symm,ih,jwp h,jwp h.symm,h,Int.max_comm])
section
variable {M V:Type} {c:M->M->Int} {z:V}
theorem jny(hc:Cmp c){x y:M}(h:c x y<0):0<c y x:=by
 rcases Int.lt_trichotomy (c y x) 0 with h0 | h0 | h0
 ·have:=hc.trans h h0;rw[hc.refl] at this;omega
 ·rw[hc.eq h0,hc.refl] at h;omega
 ·exact h0
theorem jtb(hc:Cmp c)(a b:List (M×V)):mix c z b a=(mix c z a b).map fun p=>(p.1,p.2.2,p.2.1):=by
 induction a,b using mix.induct (c:=c) with
 | case1 b=>rw[jv4,jv5,List.map_map];rfl
 | case2 x a=>rw[jv4,jv5,List.map_map];rfl
 | case3 x a y b h ih=>rw[jk8 c z a b h,List.map_cons,<- ih,jk9 c z b a (jny hc h)]
 | case4 x a y b h h2 ih=>rw[jk9 c z a b h2,List.map_cons,<- ih,jk8 c z b a (hc.gt h2)]
 | case5 x a y b h h2 ih=>(
 have h0:c x.1 y.1=0:=by omega
 have e:=hc.eq h0;rw[jva c z a b h0,List.map_cons,<- ih,jva c z b a (by rw[e];exact hc.refl _),e])
theorem jc6{f g:V->V->Option V}:∀ l:List (M×V×V),(∀ p∈l,g p.2.2 p.2.1=f p.2.1 p.2.2)->jxf g (l.map fun p=>(p.1,p.2.2,p.2.1))=jxf f l
  | [],_=>rfl
  | p :: l,h=>by
    rw[List.map_cons,jxf,jxf,jc6 l fun q hq=>h q (by simp[hq])]
    show ((g p.2.2 p.2.1).bind fun v=>_)=_
    rw[h p (by simp)]
theorem jus{f:V->V->Option V}(l:List (M×V×V))(h:∀ p∈l,f p.2.2 p.2.1=f p.2.1 p.2.2):jwy f (l.map fun p=>(p.1,p.2.2,p.2.1))=jwy f l:=by
 unfold jwy;rw[List.length_map,jc6 l h]
end
theorem juz{t:Tr}(ht:isT 15 t=true)(ih:∀ x y,isV t x=true->isV t y=true->Nn x->Nn y->jzp t y x=jzp t x y){u v:Va}(hu:(isV t u=true/\Nn u)\/u = .zero)(hv:(isV t v=true/\Nn v)\/v = .zero):jzp t v u=jzp t u v:=by
 rcases hu with ⟨u1,u2⟩ | rfl
 ·(
 rcases hv with ⟨v1,v2⟩ | rfl
 ·exact ih _ _ u1 v1 u2 v2
 ·(have:=jjs 15 t (by decide) ht _ u1 u2;rw[this.1,this.2]))
 ·(
 rcases hv with ⟨v1,v2⟩ | rfl
 ·(have:=jjs 15 t (by decide) ht _ v1 v2;rw[this.1,this.2])
 ·rfl)
theorem jbv{M:Type}{t:Tr}{s:List M}{v:List Va}(hv:∀ y∈v,isV t y=true/\Nn y){u:Va}(h:(∃ x∈s.zip v,x.2=u)\/u = .zero):(isV t u=true/\Nn u)\/u = .zero:=by
 rcases h with ⟨x,hx,rfl⟩ | h
 ·exact .inl (hv _ (List.of_mem_zip hx).2)
 ·exact .inr h
theorem setE_eq{x y:Va}(e:R1.jqm y.s x.s=R1.jqm x.s y.s):setE y x=setE x y:=by unfold setE;rw[e]
theorem jrb:∀ (n:Nat) (t:Tr),n<=16->isT n t=true->∀ x y,isV t x=true->isV t y=true->Nn x->Nn y->jzp t y x=jzp t x y:=by
 intro n;induction n with
 | zero=>intro t _ h;simp[isT] at h
 | succ m ih=>(
 intro t hn h x y vx vy nx ny;obtain⟨m',hm,h1⟩:=jq2 h;obtain rfl:m=m':=by omega
 rcases h1 with ⟨k,hk,rfl⟩ | ⟨k,a,hk,rfl,ha⟩ | ⟨a,b,rfl,ha,hb⟩
 ·(
 rcases hk with rfl | rfl | rfl | rfl | rfl
 ·rw[jzp,jzp,if_neg (by decide),if_neg (by decide),if_neg (by decide),if_neg (by decide),if_neg (by decide),if_neg (by decide),Int.max_comm]
 ·rw[jzp,jzp,if_neg (by decide),if_neg (by decide),if_neg (by decide),if_neg (by decide),if_neg (by decide),if_neg (by decide),Int.max_comm]
 ·(
 obtain⟨s,rfl,hs,_⟩:=jj0.1 vx;obtain⟨s',rfl,jg,_⟩:=jj0.1 vy;have e:R1.jqm s' s=R1.jqm s s':=R1.jyl (R1.jwl jg) (R1.jwl hs) fun z=>by rw[R1.jxw,R1.jxw,or_comm]
 rw[jzp,jzp,if_pos rfl,if_pos rfl];exact setE_eq e)
 ·(
 rw[jzp,jzp,if_neg (by decide),if_pos rfl,if_neg (by decide),if_pos rfl];refine congrArg some ?_;unfold jj4;rcases Int.lt_trichotomy (jxc x y) 0 with h0 | h0 | h0
 ·(
 have h2:¬ jxc y x<0:=by rw[jxp] at h0 ⊢;have:=jny jwg h0;omega
 rw[if_pos h0,if_neg h2])
 ·(
 have e:=jwg.eq (show jh4 jjd (jh4 jjd jjl) (keyW x) (keyW y)=0 by rw[<- jxp];exact h0);have h2:jxc y x=0:=by rw[jxp,e];exact jwg.refl _
 unfold keyW at e;rw[Prod.mk.injEq,Prod.mk.injEq] at e;rw[if_neg (by omega),if_neg (by omega),e.1,e.2.1,e.2.2])
 ·(
 have h2:jxc y x<0:=by rw[jxp] at h0 ⊢;exact jwg.gt h0
 rw[if_pos h2,if_neg (show ¬ jxc x y<0 by omega)]))
 ·(
 rw[jzp,jzp,if_neg (by decide),if_neg (by decide),if_pos rfl,if_neg (by decide),if_neg (by decide),if_pos rfl];have e:(y.c++x.c).foldl jz0 []=(x.c++y.c).foldl jz0 []:=by (
 rcases jjg.1 vx with rfl | ⟨c,rfl,-⟩
 ·rcases jjg.1 vy with rfl | ⟨c',rfl,-⟩ <;> rfl
 ·(
 rcases jjg.1 vy with rfl | ⟨c',rfl,-⟩
 ·rfl
 ·(
 show jz0 (jz0 [] c') c=jz0 (jz0 [] c) c'
 rw[jz1,jz1,joz])))
 unfold jke;rw[e]))
 ·(
 have qC:isT 15 a=true:=jwr ha (by omega);have iha:=ih a (by omega) ha;rcases hk with rfl | rfl
 ·(
 obtain⟨s,v,rfl,_,_,_,_,a5⟩:=jwh.1 vx;obtain⟨s',v',rfl,_,_,_,_,b5⟩:=jwh.1 vy;rw[jzp,jzp,if_pos rfl,if_pos rfl];unfold jo2;simp only[Va.s,Va.v];have e:=jus (f:=jzp a) (mix jx1 .zero (s.zip v) (s'.zip v')) fun p hp=>by (obtain⟨h1,h2,_⟩:=jyv _ _ _ _ hp;exact juz qC iha (jbv (fun y hy=>⟨(a5 y hy).1,nx.out.2.2.2 y hy⟩) h1) (jbv (fun y hy=>⟨(b5 y hy).1,ny.out.2.2.2 y hy⟩) h2))
 rw[jtb jxe,e])
 ·(
 obtain⟨s,v,rfl,_,_,_,_,a5⟩:=jq1.1 vx;obtain⟨s',v',rfl,_,_,_,_,b5⟩:=jq1.1 vy;rw[jzp,jzp,if_neg (by decide),if_neg (by decide)];unfold jwu;simp only[Va.c,Va.v];have hs:∀ m,jw1 m (s'++s)=jw1 m (s++s'):=fun m=>by (unfold jw1;rw[List.any_append,List.any_append,Bool.or_comm])
 have e:=jus (f:=jzp a) ((mix jkv .zero (s.zip v) (s'.zip v')).filter fun p=>!jw1 p.1 (s++s')) fun p hp=>by (obtain⟨h1,h2,_⟩:=jyv _ _ _ _ (List.mem_filter.1 hp).1;exact juz qC iha (jbv (fun y hy=>⟨a5 y hy,nx.out.2.2.2 y hy⟩) h1) (jbv (fun y hy=>⟨b5 y hy,ny.out.2.2.2 y hy⟩) h2))
 rw[jtb jy4,List.filter_map];simp only[Function.comp_def,hs];rw[e]))
 ·(
 obtain⟨u,v,rfl,a1,a2⟩:=jje.1 vx;obtain⟨u',v',rfl,b1,b2⟩:=jje.1 vy;rw[jzp,jzp];unfold jmq;have nx':=nx.out.2.2.2;have ny':=ny.out.2.2.2;show ((jzp a u' u).bind fun _=>_)=((jzp a u u').bind fun _=>_)
 rw[ih a (by omega) ha u u' a1 b1 (nx' _ (by simp[Va.v])) (ny' _ (by simp[Va.v]))];show ((jzp a u u').bind fun w=>(jzp b v' v).map _)=((jzp a u u').bind fun w=>(jzp b v v').map _)
 rw[ih b (by omega) hb v v' a2 b2 (nx' _ (by simp[Va.v])) (ny' _ (by simp[Va.v]))]))
end J5
namespace J5
open Go.RowKit Go.Shelf
open C3 (Tk In jzk jzf)
open S2 (Sc Tr isT)
open V4 (Va Vl Ck isV jqv jzt jzh jzw jwr)
def wghM(o:Except Int Va):Int:=match o with | .ok _=>0 | .error n=>if n=13 then 0 else n
def cmpR(o o':Except Int Va)(x y:Va):Int:=if wghM o=0 then cmpN (jp8 o y) (jp8 o' x) else 0
theorem jyp(s:Sc)(x y:Vl)(w:World)(hs:s.In w.heap.size w)(hx:x.In w)(hy:y.In w):Calls Tryz.prog 14 #[s.val,x.val,y.val] w (jz6 w (.tuple #[.bool (jp8 (jqb s.er x.er y.er) y.er),.int .i64 (wghM (jqb s.er x.er y.er))])):=by
 have HJ:=Lh (fun W (hb:Below w.heap.size w W)=>jcc s (fun b=>b<w.heap.size) x y W (fun _ h=>ltl h hb.size) (hs.later hb) (V4.Vl.Inp.keep hx fun b h=>hb.block b h) (V4.Vl.Inp.keep hy fun b h=>hb.block b h));have s7:=Lh (fun (z:Vl) W (hb:Below w.heap.size w W) (hz:z.In W)=>V4.jbd z y W hz (V4.Vl.In.later hy hb));obtain⟨jo,ka⟩:=exq (jqb s.er x.er y.er);rw[ka] at HJ;rw[ka];obtain⟨A1,nZ⟩:=exq (jp8 jo y.er);obtain⟨M1,lu⟩:=exq (wghM jo);obtain⟨ye,hye⟩:=exq (y.er);rw[hye] at s7 nZ;have yi:=Lh nZ;have HM1:=Lh lu;rw[hye,nZ,lu];clear hs hx hy ka nZ lu hye;obtain⟨k,A,c,l⟩:=s;obtain⟨n,m,sA,sc,ss,cA,cc,cs,vA,vc,vs⟩:=x;obtain⟨n',m',sA',sc',ss',cA',cc',cs',vA',vc',vs'⟩:=y;simp only[S2.jzh,jzh] at HJ s7 ⊢;obtain⟨V,hV⟩:=exq (((w.alloc (.cells #[.int .i64 k,.slice A l.length c] 24)).alloc (.cells #[.int .u64 n,.int .u64 m,.slice sA ss.length sc,.slice cA cs.length cc,.slice vA vs.length vc] 30)).alloc (.cells #[.int .u64 n',.int .u64 m',.slice sA' ss'.length sc',.slice cA' cs'.length cc',.slice vA' vs'.length vc'] 30));obtain⟨q3,q4,q5,ai,bz⟩:=jdd hV;have dm:w.heap.size+3<=V.heap.size:=by omega
 clear bz;obtain⟨e0,e1⟩:=blk2c q3;obtain⟨a0,a1,a2,a3,a4⟩:=blk5 q4;obtain⟨b0,b1,b2,b3,b4⟩:=blk5 q5;go_enter Tryz.func14,Tryz.ntmps14;go_wp2_with fail;refine (HJ.out V ai).mono ?_;rintro e U ⟨⟨zn,zm,zK,zL,zM,zN,zO,zP,zQ,zR,zS⟩,en,rfl,a7,az,aB⟩;simp only[jzh];have HZ:=Lh a7;obtain⟨X,hX⟩:=exq (U.alloc (.cells #[.int .u64 zn,.int .u64 zm,.slice zK zM.length zL,.slice zN zP.length zO,.slice zQ zS.length zR] 30));have eE:Below U.heap.size U X:=by rw[<- hX];exact jzf _ _
 have qX:Blk X U.heap.size 30 #[.int .u64 zn,.int .u64 zm,.slice zK zM.length zL,.slice zN zP.length zO,.slice zQ zS.length zR]:=by rw[<- hX];exact Blk.new _ _ _
 have wE:Below V.heap.size V X:=az.trans (eE.mono az.size);have dp:=ai.trans (wE.mono ai.size);have q5X:=q5.below wE;have ug:Hid ((Vl.mk zn zm zK zL zM zN zO zP zQ zR zS).In X):=(HZ.out.keep fun b hb=>eE.block b hb.2).mono fun b hb=>ltl hb.2 eE.size
 have lU:=qX.lt;clear a7 e0 e1 a0 a1 a2 a3 a4 b0 b1 b2 b3 b4 q3 q4 q5 HZ hV;obtain⟨z0,z1,z2,z3,z4⟩:=blk5 qX;obtain⟨b0,b1,b2,b3,b4⟩:=blk5 q5X;rcases aB with ⟨ho,rfl⟩ | ⟨ho,hen,-⟩
 ·(
 obtain rfl:0=M1:=by rw[<- HM1.out,ho];rfl
 obtain⟨d,hd⟩:=exq (decide ((Vl.mk zn zm zK zL zM zN zO zP zQ zR zS).er=ye));obtain rfl:d=A1:=by rw[<- yi.out,ho,<- hd];rfl
 have HS:=Lh (s7.out (.mk zn zm zK zL zM zN zO zP zQ zR zS) X dp ug.out);rw[hd,jzh] at HS;clear hd ho yi;go_wp2_with fail;refine HS.out.mono ?_;rintro e T ⟨rfl,dh⟩;have eh:Below w.heap.size w T:=dp.trans (dh.mono dp.size);go_wp2_with fail;go_ret2;exact⟨rfl,eh⟩)
 ·(
 obtain rfl:false=A1:=by rw[<- yi.out,ho];rfl
 rcases hen with rfl | rfl
 ·(
 obtain rfl:0=M1:=by rw[<- HM1.out,ho];rfl
 clear ho;go_wp2_with fail;go_ret2;exact⟨rfl,dp⟩)
 ·(
 obtain rfl:14=M1:=by rw[<- HM1.out,ho];rfl
 clear ho;go_wp2_with fail;go_ret2;exact⟨rfl,dp⟩))
theorem jk2(s:Sc)(x y:Vl)(w:World)(hs:s.In w.heap.size w)(hx:x.In w)(hy:y.In w):Calls Tryz.prog 16 #[s.val,x.val,y.val] w (jz6 w (.tuple #[.int .i64 (cmpR (jqb s.er x.er y.er) (jqb s.er y.er x.er) x.er y.er),.int .i64 (wghM (jqb s.er x.er y.er))])):=by
 have H1:=Lh (fun W (hb:Below w.heap.size w W)=>jyp s x y W (hs.later hb) (V4.Vl.In.later hx hb) (V4.Vl.In.later hy hb));have H2:=Lh (fun W (hb:Below w.heap.size w W)=>jyp s y x W (hs.later hb) (V4.Vl.In.later hy hb) (V4.Vl.In.later hx hb));have fq:=jjz s.er x.er y.er;obtain⟨o1,d6⟩:=exq (jqb s.er x.er y.er);obtain⟨o2,fL⟩:=exq (jqb s.er y.er x.er);rw[d6] at H1 fq;rw[fL] at H2;rw[d6,fL];obtain⟨p,hp⟩:=exq (jp8 o1 y.er);obtain⟨q,hq⟩:=exq (jp8 o2 x.er);obtain⟨M1,lu⟩:=exq (wghM o1);obtain⟨M2,hM2⟩:=exq (wghM o2);have hM:M1=0\/M1=14:=by (
 rw[<- lu];rcases fq with ⟨z,rfl⟩ | rfl | rfl
 ·exact .inl rfl
 ·exact .inl rfl
 ·exact .inr rfl)
 have e:cmpR o1 o2 x.er y.er=if M1=0 then cmpN p q else 0:=by unfold cmpR;rw[lu,hp,hq]
 rw[e,lu];rw[hp,lu] at H1;rw[hq,hM2] at H2;obtain⟨C,hC⟩:=exq ((if M1=0 then cmpN p q else 0));rw[hC];have HC:=Lh hC;clear hs hx hy d6 fL hp hq lu hM2 fq e hC;obtain⟨k,A,c,l⟩:=s;obtain⟨n,m,sA,sc,ss,cA,cc,cs,vA,vc,vs⟩:=x;obtain⟨n',m',sA',sc',ss',cA',cc',cs',vA',vc',vs'⟩:=y;simp only[S2.jzh,jzh] at H1 H2 ⊢;obtain⟨V,hV⟩:=exq (((w.alloc (.cells #[.int .i64 k,.slice A l.length c] 24)).alloc (.cells #[.int .u64 n,.int .u64 m,.slice sA ss.length sc,.slice cA cs.length cc,.slice vA vs.length vc] 30)).alloc (.cells #[.int .u64 n',.int .u64 m',.slice sA' ss'.length sc',.slice cA' cs'.length cc',.slice vA' vs'.length vc'] 30));obtain⟨q3,q4,q5,ai,bz⟩:=jdd hV;have dm:w.heap.size+3<=V.heap.size:=by omega
 clear bz;obtain⟨e0,e1⟩:=blk2c q3;obtain⟨a0,a1,a2,a3,a4⟩:=blk5 q4;obtain⟨b0,b1,b2,b3,b4⟩:=blk5 q5;go_enter Tryz.func16,Tryz.ntmps16;go_wp2_with fail;refine (H1.out V ai).mono ?_;rintro e V1 ⟨rfl,af⟩;have eF:=ai.trans (af.mono ai.size);have fm:=af.size;replace q3:=q3.below af;replace q4:=q4.below af;replace q5:=q5.below af;clear e0 e1 a0 a1 a2 a3 a4 b0 b1 b2 b3 b4 hV H1;obtain⟨e0,e1⟩:=blk2c q3;obtain⟨a0,a1,a2,a3,a4⟩:=blk5 q4;obtain⟨b0,b1,b2,b3,b4⟩:=blk5 q5;go_wp2_with fail;refine (H2.out V1 eF).mono ?_;rintro e V2 ⟨rfl,ab⟩;have b9:=eF.trans (ab.mono eF.size);clear e0 e1 a0 a1 a2 a3 a4 b0 b1 b2 b3 b4 H2 q3 q4 q5;rcases hM with rfl | rfl
 ·(
 cases p with
 | true=>(
 cases q with
 | true=>(go_wp2_with fail;go_ret2;exact⟨by rw[<- HC.out];rfl,b9⟩)
 | false=>(go_wp2_with fail;go_ret2;exact⟨by rw[<- HC.out];rfl,b9⟩))
 | false=>(
 cases q with
 | true=>(go_wp2_with fail;go_ret2;exact⟨by rw[<- HC.out];rfl,b9⟩)
 | false=>(go_wp2_with fail;go_ret2;exact⟨by rw[<- HC.out];rfl,b9⟩)))
 ·(go_wp2_with fail;go_ret2;exact⟨by rw[<- HC.out];rfl,b9⟩)
theorem jra{t:Tr}{x y:Va}(hx:Nn x)(hy:Nn y):jqb t y x=jqb t x y:=by
 unfold jqb jhc;split
 ·(
 rename_i ht
 by_cases hv:isV t x=true/\isV t y=true
 ·rw[if_pos hv,if_pos hv.symm,jrb 16 t (Nat.le_refl _) ht x y hv.1 hv.2 hx hy]
 ·rw[if_neg hv,if_neg fun h=>hv h.symm])
 ·rfl
theorem cmpR_eq{t:Tr}{x y:Va}(hx:Nn x)(hy:Nn y):cmpR (jqb t x y) (jqb t y x) x y=wghC (jqb t x y) x y:=by
 rw[jra hx hy];rcases jjz t x y with ⟨z,e⟩ | e | e <;> rw[e] <;> rfl
open Go.RowKit Go.Shelf Go.Extern.Stop Go.Stop Go.Extern
open C3 (jzf)
def jpk(w:World):Prop:=w.cell? ⟨0,0,none⟩=some (.iface 112 (.agg #[.pointer (some ⟨2,33,none⟩)]))
theorem jpk.lt{w:World}(h:jpk w):0<w.heap.size:=by
 unfold jpk at h;rcases Nat.eq_zero_or_pos w.heap.size with h0 | h'
 ·simp[World.cell?,h0] at h
 ·exact h'
theorem jpk.later{w w':World}(h:jpk w)(hb:Below w.heap.size w w'):jpk w':=(hb.cell (p:=⟨0,0,none⟩) h.lt).trans h
theorem Tryz.asValueOf(t:Addr)(w:World):(ReflectliteValue.unpack (.iface 63 (.pointer (some t)))).run Tryz.prog w
    = .ok (.agg #[.pointer (some ⟨2,63,none⟩),.pointer (some ⟨w.heap.size,0,none⟩),.int .u64 150]) (w.alloc (.cells #[.pointer (some t)] 63)):=by kernel_rfl
theorem Tryz.asType (a : Addr) (w : World) : (ReflectliteValue.methodAny (ReflectliteValue.valueError "reflectlite.Value.Type" 0) (fun t _ _ _ => ReflectliteType.toType t) #[.agg #[.pointer (some ⟨2, 63, none⟩), .pointer (some a), .int .u64 150]]).run Tryz.prog w
    = .ok (.iface 112 (.agg #[.pointer (some ⟨2,63,none⟩)])) w:=by kernel_rfl
theorem Tryz.asMKind (h : Value) (w : World) : (Go.method 351 112 (.agg #[h]) "Kind").run Tryz.prog w = .ok (188, h) w := by kernel_rfl
theorem Tryz.asKindP(w:World):((ReflectliteType.abiMethod fun t=>(fun a:Nat=>Value.int IntKind.u8 (a:Int)) <$> Rtype.kind t) #[.pointer (some ⟨2,63,none⟩)]).run Tryz.prog w = .ok (.int .u8 22) w:=by kernel_rfl
theorem Tryz.asKindE(w:World):((ReflectliteType.abiMethod fun t=>(fun a:Nat=>Value.int IntKind.u8 (a:Int)) <$> Rtype.kind t) #[.pointer (some ⟨2,56,none⟩)]).run Tryz.prog w = .ok (.int .u8 2) w:=by kernel_rfl
theorem rlm(z:Sem Value)(f:TypeId->Addr->Nat->Nat->Sem Value)(v:Value) :
    ReflectliteValue.method z f #[v]=(do match <- ReflectliteValue.parts v with | none=>z | some (t,a,fl)=>f t a fl (fl % 32)):=rfl
theorem Tryz.asPartsP(a:Addr)(w:World):(ReflectliteValue.parts (.agg #[.pointer (some ⟨2,63,none⟩),.pointer (some a),.int .u64 150])).run Tryz.prog w = .ok (some (63,a,150)) w:=by kernel_rfl
theorem Tryz.asIsNil (a p : Addr) (W : World) (ha : W.cell? a = some (.pointer (some p))) : (ReflectliteValue.method (ReflectliteValue.valueError "reflectlite.Value.IsNil" 0) ReflectliteValue.isNil #[.agg #[.pointer (some ⟨2, 63, none⟩), .pointer (some a), .int .u64 150]]).run Tryz.prog W = .ok (.bool false) W := by
 rw[rlm];simp only[Sem.run_bind,Tryz.asPartsP,Result.andThen];simp[ReflectliteValue.isNil,loadVar,isAgg,underlying,Tryz.underlying63,ha,Result.andThen]
theorem Tryz.asMElem (h : Value) (w : World) : (Go.method 351 112 (.agg #[h]) "Elem").run Tryz.prog w = .ok (198, .agg #[h]) w := by kernel_rfl
theorem Tryz.asMImpl (h : Value) (w : World) : (Go.method 351 112 (.agg #[h]) "Implements").run Tryz.prog w = .ok (199, .agg #[h]) w := by kernel_rfl
theorem Tryz.asMAssign (h : Value) (w : World) : (Go.method 351 112 (.agg #[h]) "AssignableTo").run Tryz.prog w = .ok (196, .agg #[h]) w := by kernel_rfl
theorem Tryz.asElemP(w:World):(ReflectliteType.method ReflectliteType.elem #[.agg #[.pointer (some ⟨2,63,none⟩)]]).run Tryz.prog w = .ok (.iface 112 (.agg #[.pointer (some ⟨2,56,none⟩)])) w:=by kernel_rfl
theorem Tryz.asImplE (w : World) : (ReflectliteType.relation "Implements" ReflectliteType.implements_ #[.agg #[.pointer (some ⟨2, 56, none⟩)], .iface 112 (.agg #[.pointer (some ⟨2, 33, none⟩)])]).run Tryz.prog w = .ok (.bool true) w := by kernel_rfl
theorem Tryz.asAssignE (w : World) : (ReflectliteType.relation "AssignableTo" ReflectliteType.assignableTo #[.agg #[.pointer (some ⟨2, 56, none⟩)], .iface 112 (.agg #[.pointer (some ⟨2, 56, none⟩)])]).run Tryz.prog w = .ok (.bool true) w := by kernel_rfl
theorem Tryz.asValueE(n:Int)(w:World):(ReflectliteValue.unpack (.iface 56 (.int .i64 n))).run Tryz.prog w
    = .ok (.agg #[.pointer (some ⟨2,56,none⟩),.pointer (some ⟨w.heap.size,0,none⟩),.int .u64 130]) (w.alloc (.cells #[.int .i64 n] 56)):=by kernel_rfl
theorem Tryz.asElemOf(w:World):(Rtype.elem? 63).run Tryz.prog w = .ok (some 56) w:=by kernel_rfl
theorem Tryz.asMk(p:Addr)(w:World):(ReflectliteValue.mk 56 p ReflectliteValue.flagAddr).run Tryz.prog w = .ok (.agg #[.pointer (some ⟨2,56,none⟩),.pointer (some p),.int .u64 386]) w:=by kernel_rfl
theorem Tryz.asElemV (a p : Addr) (W : World) (ha : W.cell? a = some (.pointer (some p))) : (ReflectliteValue.method (ReflectliteValue.valueError "reflectlite.Value.Elem" 0) ReflectliteValue.elem #[.agg #[.pointer (some ⟨2, 63, none⟩), .pointer (some a), .int .u64 150]]).run Tryz.prog W = .ok (.agg #[.pointer (some ⟨2, 56, none⟩), .pointer (some p), .int .u64 386]) W := by
 rw[rlm];simp only[Sem.run_bind,Tryz.asPartsP,Result.andThen];simp[ReflectliteValue.elem,loadVar,isAgg,underlying,Tryz.underlying63,ha,Result.andThen,Tryz.asElemOf,Tryz.asMk]
theorem rls(v x:Value):ReflectliteValue.set #[v,x]=(do
    let (some (dst,a,fl),some (src,b,_)):=(<- ReflectliteValue.parts v,<- ReflectliteValue.parts x)
      | unsupported (.noEntry "extern/(internal/reflectlite.Value).Set.zeroValue")
    if fl / ReflectliteValue.flagAddr % 2 == 0 then unsupported (.noEntry "extern/(internal/reflectlite.Value).Set.unaddressable")
    let val <- loadVar src b
    if <- Rtype.directlyAssignable dst src then storeVar dst a val
    else if <- Rtype.implements dst src then
      if (<- Rtype.kind src) == 20 then
        match val with
        | .nilIface => unsupported (.noEntry "extern/reflectlite: a nil value of one interface type handed on as a value of another")
        | _=>storeVar dst a val
      else storeVar dst a (.iface src val)
    else panicString ("reflectlite.Set: value of type " ++ (← Rtype.spelt src) ++ " is not assignable to type " ++ (← Rtype.spelt dst))
    pure (.tuple #[])):=rfl
theorem Tryz.asPartsA(a:Addr)(w:World):(ReflectliteValue.parts (.agg #[.pointer (some ⟨2,56,none⟩),.pointer (some a),.int .u64 386])).run Tryz.prog w = .ok (some (56,a,386)) w:=by kernel_rfl
theorem Tryz.asPartsE(a:Addr)(w:World):(ReflectliteValue.parts (.agg #[.pointer (some ⟨2,56,none⟩),.pointer (some a),.int .u64 130])).run Tryz.prog w = .ok (some (56,a,130)) w:=by kernel_rfl
theorem Tryz.asDirect(w:World):(Rtype.directlyAssignable 56 56).run Tryz.prog w = .ok true w:=by kernel_rfl
theorem Tryz.asSet(ta b:Addr)(n:Int)(old:Value)(W:World)(hb:W.cell? b=some (.int .i64 n))(ht:W.cell? ta=some old)(hf:W.frozen? ta=false):(ReflectliteValue.set #[.agg #[.pointer (some ⟨2,56,none⟩),.pointer (some ta),.int .u64 386],.agg #[.pointer (some ⟨2,56,none⟩),.pointer (some b),.int .u64 130]]).run Tryz.prog W = .ok (.tuple #[]) (W.setCell ta (.int .i64 n)):=by
 rw[rls];simp only[Sem.run_bind,Tryz.asPartsA,Tryz.asPartsE,Result.andThen];simp[ReflectliteValue.flagAddr,loadVar,isAgg,underlying,Tryz.underlying56,hb,Result.andThen,Tryz.asDirect,storeVar,Value.cells,storeCells,Addr.add]
 rw[run_store Tryz.prog W ta _ _ (by rfl)];simp[ht,hf]
theorem as_hit(n:Int)(t:Addr)(old:Value)(w:World)(hg:w.cell? ⟨0,0,none⟩=some (.iface 112 (.agg #[.pointer (some ⟨2,33,none⟩)])))(ht0:w.cell? t=some old)(hf0:w.frozen? t=false):Calls Tryz.prog 28 #[.iface 56 (.int .i64 n),.iface 63 (.pointer (some t))] w fun ev w'=>ev = .returned (.bool true)/\w'=((((w.alloc (.cells #[.pointer (some t)] 63)).alloc (.cells #[.pointer (some ⟨2,63,none⟩),.pointer (some ⟨w.heap.size,0,none⟩),.int .u64 150] 96)).alloc (.cells #[.pointer (some ⟨2,63,none⟩),.pointer (some ⟨w.heap.size,0,none⟩),.int .u64 150] 96)).alloc (.cells #[.int .i64 n] 56)).setCell t (.int .i64 n):=by
 have x1:=@run_callFunc_extern Tryz.prog 59 _ (fun args=>ReflectliteValue.unpack (args.getD 0 (.tuple #[]))) Tryz.func59 (by kernel_rfl) (by kernel_rfl) (by kernel_rfl) (by kernel_rfl);have x2 := @run_callFunc_extern Tryz.prog 60 _ (ReflectliteValue.methodAny (ReflectliteValue.valueError "reflectlite.Value.Type" 0) (fun t _ _ _ => ReflectliteType.toType t)) Tryz.func60 (by kernel_rfl) (by kernel_rfl) (by kernel_rfl) (by kernel_rfl)
 have x3 := @run_callFunc_extern Tryz.prog 61 _ (ReflectliteValue.method (ReflectliteValue.valueError "reflectlite.Value.IsNil" 0) ReflectliteValue.isNil) Tryz.func61 (by kernel_rfl) (by kernel_rfl) (by kernel_rfl) (by kernel_rfl)
 have x4:=@run_callFunc_extern Tryz.prog 188 _ (ReflectliteType.abiMethod fun t=>do pure (.int .u8 (← Rtype.kind t))) Tryz.func188 (by kernel_rfl) (by kernel_rfl) (by kernel_rfl) (by kernel_rfl);have x5:=@run_callFunc_extern Tryz.prog 198 _ (ReflectliteType.method ReflectliteType.elem) Tryz.func198 (by kernel_rfl) (by kernel_rfl) (by kernel_rfl) (by kernel_rfl);have x6 := @run_callFunc_extern Tryz.prog 199 _ (ReflectliteType.relation "Implements" ReflectliteType.implements_) Tryz.func199 (by kernel_rfl) (by kernel_rfl) (by kernel_rfl) (by kernel_rfl)
 have x7:=@run_callFunc_extern Tryz.prog 34 _ (ReflectliteType.typeOf) Tryz.func34 (by kernel_rfl) (by kernel_rfl) (by kernel_rfl) (by kernel_rfl);have x8 := @run_callFunc_extern Tryz.prog 196 _ (ReflectliteType.relation "AssignableTo" ReflectliteType.assignableTo) Tryz.func196 (by kernel_rfl) (by kernel_rfl) (by kernel_rfl) (by kernel_rfl)
 have x9 := @run_callFunc_extern Tryz.prog 103 _ (ReflectliteValue.method (ReflectliteValue.valueError "reflectlite.Value.Elem" 0) ReflectliteValue.elem) Tryz.func103 (by kernel_rfl) (by kernel_rfl) (by kernel_rfl) (by kernel_rfl)
 have x10:=@run_callFunc_extern Tryz.prog 104 _ (ReflectliteValue.set) Tryz.func104 (by kernel_rfl) (by kernel_rfl) (by kernel_rfl) (by kernel_rfl);have tO:=Tryz.eqTypeOf;have mA:=Tryz.asMAssign;have aE:=Tryz.asAssignE;have vE:=Tryz.asValueE;have vP:=Tryz.asValueOf;have tP:=Tryz.asType;have mK:=Tryz.asMKind;have mE:=Tryz.asMElem;have mI:=Tryz.asMImpl;have kP:=Tryz.asKindP;have kE:=Tryz.asKindE;have eP:=Tryz.asElemP;have iE:=Tryz.asImplE;have n8:=Tryz.asIsNil ⟨w.heap.size,0,none⟩ t ((w.alloc (.cells #[.pointer (some t)] 63)).alloc (.cells #[.pointer (some ⟨2,63,none⟩),.pointer (some ⟨w.heap.size,0,none⟩),.int .u64 150] 96)) (by simp);have hlt:0<w.heap.size:=by (
 rcases Nat.eq_zero_or_pos w.heap.size with h0 | h
 ·simp[World.cell?,h0] at hg
 ·exact h)
 have cF:((w.alloc (.cells #[.pointer (some t)] 63)).alloc (.cells #[.pointer (some ⟨2,63,none⟩),.pointer (some ⟨w.heap.size,0,none⟩),.int .u64 150] 96)).cell? ⟨0,0,none⟩=some (.iface 112 (.agg #[.pointer (some ⟨2,33,none⟩)])):=by rw[World.cell?_alloc_lt _ _ ⟨0,0,none⟩ (by simp),World.cell?_alloc_lt _ _ ⟨0,0,none⟩ hlt];exact hg
 have iC:t.block<w.heap.size:=by (
 rcases Nat.lt_or_ge t.block w.heap.size with h | h
 ·exact h
 ·simp[World.cell?,Array.getElem?_eq_none h] at ht0)
 have el:=Tryz.asElemV ⟨w.heap.size,0,none⟩ t (((w.alloc (.cells #[.pointer (some t)] 63)).alloc (.cells #[.pointer (some ⟨2,63,none⟩),.pointer (some ⟨w.heap.size,0,none⟩),.int .u64 150] 96)).alloc (.cells #[.pointer (some ⟨2,63,none⟩),.pointer (some ⟨w.heap.size,0,none⟩),.int .u64 150] 96)) (by rw[World.cell?_alloc_lt _ _ ⟨w.heap.size,0,none⟩ (by simp;omega)];simp);have st:=Tryz.asSet t ⟨w.heap.size+1+1+1,0,none⟩ n old ((((w.alloc (.cells #[.pointer (some t)] 63)).alloc (.cells #[.pointer (some ⟨2,63,none⟩),.pointer (some ⟨w.heap.size,0,none⟩),.int .u64 150] 96)).alloc (.cells #[.pointer (some ⟨2,63,none⟩),.pointer (some ⟨w.heap.size,0,none⟩),.int .u64 150] 96)).alloc (.cells #[.int .i64 n] 56))
   (by rw[World.cell?_alloc_at _ _ _ _ (by simp)];rfl)
   (by rw[World.cell?_alloc_lt _ _ t (by simp;omega),World.cell?_alloc_lt _ _ t (by simp;omega),World.cell?_alloc_lt _ _ t (by simp;omega),World.cell?_alloc_lt _ _ t iC];exact ht0)
   (by rw[World.frozen?_alloc_old _ _ t (by simp;omega),World.frozen?_alloc_old _ _ t (by simp;omega),World.frozen?_alloc_old _ _ t (by simp;omega),World.frozen?_alloc_old _ _ t (Nat.ne_of_lt iC)];exact hf0)
 go_enter Tryz.func28,Tryz.ntmps28;go_wp2
 refine wp_loop_rounds 1 ?_;rw[rounds_succ];go_wp2
 go_ret;exact⟨rfl,rfl⟩
theorem code5_err(n:Int)(w:World)(hg:jpk w):Calls Tryz.prog 10 #[jwz n] w (jz6 w (.int .i64 n)):=by
 have hn:=run_eql_iface_nil_left (P:=Tryz.prog) w 56 (.int .i64 n) Tryz.underlying33;have hlt:=hg.lt;unfold jwz;obtain⟨U,hU⟩:=exq (w.alloc (.cells #[.int .i64 0] 56));have az:Below w.heap.size w U:=by rw[<- hU];exact jzf _ _
 have q:Blk U w.heap.size 56 #[.int .i64 0]:=by rw[<- hU];exact Blk.new _ _ _
 have HA:=Lh (as_hit n ⟨w.heap.size,0,none⟩ (.int .i64 0) U (hg.later az) (jza q 0 _ rfl) (jzb q 0));have lU:=q.lt;have c0:U.cell? ⟨w.heap.size,0,none⟩=some (.int .i64 0):=jza q 0 _ rfl;go_enter Tryz.func10,Tryz.ntmps10;go_wp2_with fail;refine HA.out.mono ?_;rintro e T ⟨rfl,hT⟩;have qT:Blk T w.heap.size 56 #[.int .i64 n]:=by (rw[hT];refine Blk.set (cs:=#[.int .i64 0]) ?_ 0 _;exact (((q.below (jzf _ _)).below (jzf _ _)).below (jzf _ _)).below (jzf _ _))
 have dh:Below w.heap.size w T:=by (rw[hT];have h1:=jzf U (.cells #[.pointer (some ⟨w.heap.size,0,none⟩)] 63);refine Below.setCell ?_ (show w.heap.size<=(⟨w.heap.size,0,none⟩:Addr).block from Nat.le_refl _) _;exact az.trans (((((h1.trans ((jzf _ _).mono h1.size))).trans ((jzf _ _).mono (by simp;omega))).trans ((jzf _ _).mono (by simp;omega))).mono az.size))
 have cT:T.cell? ⟨w.heap.size,0,none⟩=some (.int .i64 n):=jza qT 0 _ rfl;clear hT HA hU;go_wp2_with fail;go_ret;exact⟨rfl,dh⟩
theorem jns(w:World):Calls Tryz.prog 17 #[.nilIface] w (jz6 w (.int .i64 0)):=by
 go_enter Tryz.func17,Tryz.ntmps17;go_wp2
 go_ret;exact⟨rfl,jzf _ _⟩
theorem jnt(n:Int)(w:World)(hg:jpk w):Calls Tryz.prog 17 #[jwz n] w (jz6 w (.int .i64 n)):=by
 have hn:=run_eql_iface_nil_left (P:=Tryz.prog) w 56 (.int .i64 n) Tryz.underlying33;have hlt:=hg.lt;unfold jwz;obtain⟨U,hU⟩:=exq (w.alloc (.cells #[.int .i64 0] 56));have az:Below w.heap.size w U:=by rw[<- hU];exact jzf _ _
 have q:Blk U w.heap.size 56 #[.int .i64 0]:=by rw[<- hU];exact Blk.new _ _ _
 have HA:=Lh (as_hit n ⟨w.heap.size,0,none⟩ (.int .i64 0) U (hg.later az) (jza q 0 _ rfl) (jzb q 0));have lU:=q.lt;have c0:U.cell? ⟨w.heap.size,0,none⟩=some (.int .i64 0):=jza q 0 _ rfl;go_enter Tryz.func17,Tryz.ntmps17;go_wp2_with fail;refine HA.out.mono ?_;rintro e T ⟨rfl,hT⟩;have qT:Blk T w.heap.size 56 #[.int .i64 n]:=by (rw[hT];refine Blk.set (cs:=#[.int .i64 0]) ?_ 0 _;exact (((q.below (jzf _ _)).below (jzf _ _)).below (jzf _ _)).below (jzf _ _))
 have dh:Below w.heap.size w T:=by (rw[hT];have h1:=jzf U (.cells #[.pointer (some ⟨w.heap.size,0,none⟩)] 63);refine Below.setCell ?_ (show w.heap.size<=(⟨w.heap.size,0,none⟩:Addr).block from Nat.le_refl _) _;exact az.trans (((((h1.trans ((jzf _ _).mono h1.size))).trans ((jzf _ _).mono (by simp;omega))).trans ((jzf _ _).mono (by simp;omega))).mono az.size))
 have cT:T.cell? ⟨w.heap.size,0,none⟩=some (.int .i64 n):=jza qT 0 _ rfl;clear hT HA hU;go_wp2_with fail;go_ret;exact⟨rfl,dh⟩
open C3 (Tk jzk jzf)
open V4 (Va Vl Ck isV jqv Bxd jzh jzw jfk jkp scRow scRow_in vlNum jlr jji jkz jqp)
theorem Leq_is(Q:Prop)(HP:Q->jwj)(s:Sc)(x y:Vl)(w:World)(hs:s.In w.heap.size w)(hx:x.In w)(hy:y.In w)(hq:isT 16 s.er=true->Q\/NoP s.er)(p:Bool)(h1:jp8 (jqb s.er x.er y.er) y.er=p)(h2:juo (jqb s.er x.er y.er) = .nilIface):Calls Tryz.prog 13 #[s.val,x.val,y.val] w (jz6 w (.tuple #[.bool p,.nilIface])):=by
 have h:=jij Q HP s x y w hs hx hy hq;rw[h1,h2] at h;exact h
theorem Cmp_is(Q:Prop)(HP:Q->jwj)(s:Sc)(x y:Vl)(w:World)(hs:s.In w.heap.size w)(hx:x.In w)(hy:y.In w)(hq:isT 16 s.er=true->Q\/NoP s.er)(c:Int)(e:Value)(h1:wghC (jqb s.er x.er y.er) x.er y.er=c)(h2:juo (jqb s.er x.er y.er)=e):Calls Tryz.prog 15 #[s.val,x.val,y.val] w (jz6 w (.tuple #[.int .i64 c,e])):=by
 have h:=jpn Q HP s x y w hs hx hy hq;rw[h1,h2] at h;exact h
theorem kn6_j1:jqb (.mk 3 []) (.mk 0 0 [[97]] [] []) (.mk 0 0 [[97],[98]] [] []) = .ok (.mk 0 0 [[97],[98]] [] []):=by kernel_rfl
theorem kn6_j2:jqb (.mk 3 []) (.mk 0 0 [[97],[98]] [] []) (.mk 0 0 [[97]] [] []) = .ok (.mk 0 0 [[97],[98]] [] []):=by kernel_rfl
theorem kn6_j3:jqb (.mk 3 []) (.mk 0 0 [[97]] [] []) (.mk 0 0 [[99]] [] []) = .ok (.mk 0 0 [[97],[99]] [] []):=by kernel_rfl
theorem kn6_1:jp8 (jqb (.mk 3 []) (.mk 0 0 [[97]] [] []) (.mk 0 0 [[97],[98]] [] [])) (.mk 0 0 [[97],[98]] [] [])=true/\juo (jqb (.mk 3 []) (.mk 0 0 [[97]] [] []) (.mk 0 0 [[97],[98]] [] [])) = .nilIface:=by rw[kn6_j1];exact⟨by decide,rfl⟩
theorem kn6_2:jp8 (jqb (.mk 3 []) (.mk 0 0 [[97],[98]] [] []) (.mk 0 0 [[97]] [] [])) (.mk 0 0 [[97]] [] [])=false/\juo (jqb (.mk 3 []) (.mk 0 0 [[97],[98]] [] []) (.mk 0 0 [[97]] [] [])) = .nilIface:=by rw[kn6_j2];exact⟨by decide,rfl⟩
theorem kn6_3:wghC (jqb (.mk 3 []) (.mk 0 0 [[97]] [] []) (.mk 0 0 [[99]] [] [])) (.mk 0 0 [[97]] [] []) (.mk 0 0 [[99]] [] [])=2/\juo (jqb (.mk 3 []) (.mk 0 0 [[97]] [] []) (.mk 0 0 [[99]] [] [])) = .nilIface:=by rw[kn6_j3];exact⟨by decide,rfl⟩
theorem jo7(w:World):Calls Tryz.prog 12 #[] w (jz6 w (.bool true)):=by
 go_enter Tryz.func12,Tryz.ntmps12;go_upto_region 3 with fail
 obtain⟨W1,jm⟩:=exq ((((((w.alloc (.cells #[.int .i64 3,.slice none 0 0] 24)).alloc (.cells #[.string ⟨#[97]⟩] 9)).alloc (.cells #[.string ⟨#[97]⟩,.string ⟨#[98]⟩] 9)).alloc (.cells #[.int .u64 0,.int .u64 0,.slice (some ⟨w.heap.size+1,0,none⟩) 1 1,.slice none 0 0,.slice none 0 0] 30)).alloc (.cells #[.int .u64 0,.int .u64 0,.slice (some ⟨w.heap.size+1+1,0,none⟩) 2 2,.slice none 0 0,.slice none 0 0] 30)));have bW1:Below w.heap.size w W1:=by rw[<- jm];exact jzk (jzk (jzk (jzk (jzk (Below.refl _ _)))))
 have X0:Bxd W1 (w.heap.size) #[.int .i64 3,.slice none 0 0]:=by (rw[<- jm];have:=V4.Bxd.new (W:=w) (cs:=#[.int .i64 3,.slice none 0 0]) (t:=24);exact (((this.al _).al _).al _).al _)
 have Xa:Bxd W1 (w.heap.size+1) #[.string ⟨#[97]⟩]:=by (rw[<- jm];have:=V4.Bxd.new (W:=(w.alloc (.cells #[.int .i64 3,.slice none 0 0] 24))) (cs:=#[.string ⟨#[97]⟩]) (t:=9);rw[World.size_alloc] at this;exact ((this.al _).al _).al _)
 have Xb:Bxd W1 (w.heap.size+1+1) #[.string ⟨#[97]⟩,.string ⟨#[98]⟩]:=by (rw[<- jm];have:=V4.Bxd.new (W:=((w.alloc (.cells #[.int .i64 3,.slice none 0 0] 24)).alloc (.cells #[.string ⟨#[97]⟩] 9))) (cs:=#[.string ⟨#[97]⟩,.string ⟨#[98]⟩]) (t:=9);rw[World.size_alloc,World.size_alloc] at this;exact (this.al _).al _)
 have X1:Bxd W1 (w.heap.size+1+1+1) #[.int .u64 0,.int .u64 0,.slice (some ⟨w.heap.size+1,0,none⟩) 1 1,.slice none 0 0,.slice none 0 0]:=by (rw[<- jm];have:=V4.Bxd.new (W:=(((w.alloc (.cells #[.int .i64 3,.slice none 0 0] 24)).alloc (.cells #[.string ⟨#[97]⟩] 9)).alloc (.cells #[.string ⟨#[97]⟩,.string ⟨#[98]⟩] 9))) (cs:=#[.int .u64 0,.int .u64 0,.slice (some ⟨w.heap.size+1,0,none⟩) 1 1,.slice none 0 0,.slice none 0 0]) (t:=30);rw[World.size_alloc,World.size_alloc,World.size_alloc] at this;exact this.al _)
 have X2:Bxd W1 (w.heap.size+1+1+1+1) #[.int .u64 0,.int .u64 0,.slice (some ⟨w.heap.size+1+1,0,none⟩) 2 2,.slice none 0 0,.slice none 0 0]:=by (rw[<- jm];have:=V4.Bxd.new (W:=((((w.alloc (.cells #[.int .i64 3,.slice none 0 0] 24)).alloc (.cells #[.string ⟨#[97]⟩] 9)).alloc (.cells #[.string ⟨#[97]⟩,.string ⟨#[98]⟩] 9)).alloc (.cells #[.int .u64 0,.int .u64 0,.slice (some ⟨w.heap.size+1,0,none⟩) 1 1,.slice none 0 0,.slice none 0 0] 30))) (cs:=#[.int .u64 0,.int .u64 0,.slice (some ⟨w.heap.size+1+1,0,none⟩) 2 2,.slice none 0 0,.slice none 0 0]) (t:=30);rw[World.size_alloc,World.size_alloc,World.size_alloc,World.size_alloc] at this;exact this)
 have BW1:Below w.heap.size w W1:=bW1;have I1:(jji 0 (w.heap.size+1) [[97]]).In W1:=jkz 0 (by omega) Xa rfl (by simp) (by simp);have I2:(jji 0 (w.heap.size+1+1) [[97],[98]]).In W1:=jkz 0 (by omega) Xb rfl (by simp) (by simp);clear Xa Xb;have HJ:=Lh (Leq_is False False.elim (jfk 3) (jji 0 (w.heap.size+1) [[97]]) (jji 0 (w.heap.size+1+1) [[97],[98]]) W1 (jkp _ _ _) I1 I2 (fun _ => .inr (jb1 (by decide))) true kn6_1.1 kn6_1.2);rw[jm];obtain⟨l0,l1⟩:=bx2 X0;obtain⟨l2,l3,l4,l5,l6⟩:=bx5 X1;obtain⟨l7,l8,l9,l10,l11⟩:=bx5 X2;go_wp2_with fail;refine HJ.out.mono ?_;clear HJ jm;rintro e U1 ⟨rfl,bU1⟩;clear l0 l1 l2 l3 l4 l5 l6 l7 l8 l9 l10 l11;replace X0:=X0.later bU1;replace X1:=X1.later bU1;replace X2:=X2.later bU1;replace I1:=I1.later bU1;replace I2:=I2.later bU1;have BU1:Below w.heap.size w U1:=BW1.trans (bU1.mono BW1.size);have HJ:=Lh (Leq_is False False.elim (jfk 3) (jji 0 (w.heap.size+1+1) [[97],[98]]) (jji 0 (w.heap.size+1) [[97]]) U1 (jkp _ _ _) I2 I1 (fun _ => .inr (jb1 (by decide))) false kn6_2.1 kn6_2.2);obtain⟨l12,l13⟩:=bx2 X0;obtain⟨l14,l15,l16,l17,l18⟩:=bx5 X1;obtain⟨l19,l20,l21,l22,l23⟩:=bx5 X2;go_wp2_with fail;refine HJ.out.mono ?_;clear HJ;rintro e U2 ⟨rfl,bU2⟩;clear l12 l13 l14 l15 l16 l17 l18 l19 l20 l21 l22 l23;replace X0:=X0.later bU2;replace X1:=X1.later bU2;replace X2:=X2.later bU2;replace I1:=I1.later bU2;replace I2:=I2.later bU2;have BU2:Below w.heap.size w U2:=BU1.trans (bU2.mono BU1.size);obtain⟨l24,l25⟩:=bx2 X0;obtain⟨l26,l27,l28,l29,l30⟩:=bx5 X1;clear l24 l25 l26 l27 l28 l29 l30;have X0U:w.heap.size<U2.heap.size:=X0.1;have X1U:w.heap.size+1+1+1<U2.heap.size:=X1.1;obtain⟨W2,dy⟩:=exq ((U2.alloc (.cells #[.string ⟨#[99]⟩] 9)));have bW2:Below U2.heap.size U2 W2:=by rw[<- dy];exact jzk (Below.refl _ _)
 have Xc:Bxd W2 (U2.heap.size) #[.string ⟨#[99]⟩]:=by (rw[<- dy];have:=V4.Bxd.new (W:=U2) (cs:=#[.string ⟨#[99]⟩]) (t:=9);exact this)
 replace X0:=X0.later bW2;replace X1:=X1.later bW2;replace X2:=X2.later bW2;replace I1:=I1.later bW2;replace I2:=I2.later bW2;have BW2:Below w.heap.size w W2:=BU2.trans (bW2.mono BU2.size);have I3:(jji 0 U2.heap.size [[99]]).In W2:=jkz 0 (by omega) Xc rfl (by simp) (by simp);have HJ:=Lh (Cmp_is False False.elim (jfk 3) (jji 0 (w.heap.size+1) [[97]]) (jji 0 U2.heap.size [[99]]) W2 (jkp _ _ _) I1 I3 (fun _ => .inr (jb1 (by decide))) 2 .nilIface kn6_3.1 kn6_3.2);clear Xc I3;have l31:U2.cell? ⟨w.heap.size,0,none⟩=some (.int .i64 3):=(bW2.cell (p:=⟨w.heap.size,0,none⟩) X0U).symm.trans (X0.2 0 _ rfl);have l32:U2.cell? ⟨w.heap.size,1,none⟩=some (.slice none 0 0):=(bW2.cell (p:=⟨w.heap.size,1,none⟩) X0U).symm.trans (X0.2 1 _ rfl);have l33:U2.cell? ⟨w.heap.size+1+1+1,0,none⟩=some (.int .u64 0):=(bW2.cell (p:=⟨w.heap.size+1+1+1,0,none⟩) X1U).symm.trans (X1.2 0 _ rfl);have l34:U2.cell? ⟨w.heap.size+1+1+1,1,none⟩=some (.int .u64 0):=(bW2.cell (p:=⟨w.heap.size+1+1+1,1,none⟩) X1U).symm.trans (X1.2 1 _ rfl);have l35:U2.cell? ⟨w.heap.size+1+1+1,2,none⟩=some (.slice (some ⟨w.heap.size+1,0,none⟩) 1 1):=(bW2.cell (p:=⟨w.heap.size+1+1+1,2,none⟩) X1U).symm.trans (X1.2 2 _ rfl);have l36:U2.cell? ⟨w.heap.size+1+1+1,3,none⟩=some (.slice none 0 0):=(bW2.cell (p:=⟨w.heap.size+1+1+1,3,none⟩) X1U).symm.trans (X1.2 3 _ rfl);have l37:U2.cell? ⟨w.heap.size+1+1+1,4,none⟩=some (.slice none 0 0):=(bW2.cell (p:=⟨w.heap.size+1+1+1,4,none⟩) X1U).symm.trans (X1.2 4 _ rfl);go_wp2_with fail;try rw[dy]
 refine HJ.out.mono ?_;clear HJ dy;rintro e U3 ⟨rfl,bU3⟩;clear l31 l32 l33 l34 l35 l36 l37;replace X0:=X0.later bU3;replace X1:=X1.later bU3;replace X2:=X2.later bU3;replace I1:=I1.later bU3;replace I2:=I2.later bU3;have BU3:Below w.heap.size w U3:=BW2.trans (bU3.mono BW2.size);have HJ:=Lh (Cmp_is False False.elim (jfk 3) (jji 0 (w.heap.size+1) [[97]]) (vlNum 1) U3 (jkp _ _ _) I1 (jlr 1 (by omega) _ _) (fun _ => .inr (jb1 (by decide))) 0 (jwz 14) (congrArg (fun o=>wghC o _ _) (kn_j2 _)) (congrArg juo (kn_j2 _)));obtain⟨l38,l39⟩:=bx2 X0;obtain⟨l40,l41,l42,l43,l44⟩:=bx5 X1;go_wp2_with fail;refine HJ.out.mono ?_;clear HJ;rintro e U4 ⟨rfl,bU4⟩;clear l38 l39 l40 l41 l42 l43 l44;replace X0:=X0.later bU4;replace X1:=X1.later bU4;replace X2:=X2.later bU4;replace I1:=I1.later bU4;replace I2:=I2.later bU4;have BU4:Below w.heap.size w U4:=BU3.trans (bU4.mono BU3.size);have HI:Hid (∀ W,Calls Tryz.prog 18 #[.iface 56 (.int .i64 14),.iface 56 (.int .i64 14)] W (jz6 W (.bool true))):=fun W=>by (have:=jtj 14 14 W;rw[decide_eq_true rfl] at this;exact this)
 clear X0 X1 X2 I1 I2;go_wp2_with fail;refine (HI.out _).mono ?_;rintro e U5 ⟨rfl,bU5⟩;go_wp2_with fail;go_ret;exact⟨by simp,BU4.trans (bU5.mono BU4.size)⟩
end J5
end Go.Proofs.YtobggoephhjofaaGreatDoor
