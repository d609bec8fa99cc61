/- A part. No condition. -/
import Derived.Test.YtobggoephhjofaaGreatDoorMk13
set_option maxRecDepth 100000
set_option maxHeartbeats 16000000
namespace Go.Proofs.YtobggoephhjofaaGreatDoor
namespace V4
open Go.RowKit Go.Shelf
open S2 (Sc isT jzf jzr)
open C3 (isC jzk)
attribute [local go_sem] Oper.semAt_some
def OkS(s:Sc):Prop:=(∃ n,isT n s.er=true)\/(s.k=0/\s.ins=[])
theorem okS_at{s:Sc}(h:OkS s)(i:Nat):OkS (scAt s.ins i):=by
 unfold scAt;cases hx:s.ins[min i (s.ins.length - 1)]? with
 | none=>exact .inr ⟨rfl,rfl⟩
 | some y=>(
 rcases h with ⟨n,hn⟩ | ⟨_,h⟩
 ·(
 cases n with
 | zero=>simp[isT] at hn
 | succ n=>(obtain⟨k,A,c,l⟩:=s;rw[S2.jzw] at hn;exact .inl ⟨n,jkt hn _ (List.mem_map.2 ⟨y,List.mem_of_getElem? hx,rfl⟩)⟩))
 ·rw[h] at hx;simp at hx)
theorem jhr{s:Sc}(h:OkS s)(hk:s.k≠0):(s.ins.length:Int)=S2.arI s.k:=by
 rcases h with ⟨n,hn⟩ | ⟨h0,_⟩
 ·(obtain⟨k,A,c,l⟩:=s;rw[S2.jzw] at hn;have:=jm3 hn;rw[List.length_map] at this;exact this)
 ·exact absurd h0 hk
theorem jdt{s:Sc}(h:OkS s)(hk:s.k=4\/s.k=5\/s.k=8):s.ins≠[]:=by
 intro e;have h1:=jhr h (by omega);rw[e] at h1;rcases hk with hk | hk | hk <;> rw[hk] at h1 <;> simp[S2.arI] at h1
theorem okT:∀ (v:Vl) (s:Sc),OkS s->∀ x∈(jjv v s).pre,OkS x.1:=by
 intro v;induction v using Vl.ind with
 | h n m sA sc ss cA cc cs vA vc vs ih=>(
 intro s hs x hx;rw[jbw,Nd.pre] at hx;rcases List.mem_cons.1 hx with rfl | hx
 ·exact hs
 ·(obtain⟨t,ht,hx⟩:=jmx hx;obtain⟨i,hi⟩:=List.getElem?_of_mem ht;rw[jkm] at hi;obtain⟨y,hy,rfl⟩:=Option.map_eq_some_iff.1 hi;exact ih y (List.mem_of_getElem? hy) _ (okS_at hs _) x hx))
theorem jni{w:World}:∀ (v:Vl) (s:Sc),InT w (s,v)->∀ x∈(jjv v s).pre,InT w x:=fun v s h x hx=>by
  have hg:=goodT (D:=w.heap.size) v s (h.2.bar (Nat.le_refl _)) (jl0 h.1 (Nat.le_refl _))
  have:=hg.all x hx
  exact⟨sc_inn this.1,this.2.inn⟩
theorem jd5{x:Sc×Vl}(h:OkS x.1)(hx:jku x=true):jwx x:=by
 unfold jku jvl at hx;by_cases h5:x.1.k=5
 ·exact .inr (jdt h (.inr (.inl h5)))
 ·(
 rw[if_neg h5] at hx;simp[jqa] at hx
 exact .inl (by simpa using hx.2.2.2.2))
def jpw(x:Sc×Vl):Bool:=(jjv x.2 x.1).pre.all jku
theorem none_any(x:Sc×Vl)(w:World)(bx:InT w x)(eH:OkS x.1):Calls Tryz.prog 144 #[jkb x] w (jz6 w (.bool (jpw x))):=by
 have hB:Below w.heap.size w (w.alloc (.cells (jzx x) 76)):=jzf w _;have o9:=bx.later hB;have HN:=Lh (jl9 (jjv x.2 x.1) (w.alloc (.cells (jzx x) 76)) (fun D hD=>goodT x.2 x.1 (o9.2.bar hD) (jl0 o9.1 hD)));have HE:Hid (∀ (b1 b2:Nat) (w':World),Below (w.alloc (.cells (jzx x) 76)).heap.size (w.alloc (.cells (jzx x) 76)) w' ->
     (∀ D w2,Below w'.heap.size w' w2->(w.alloc (.cells (jzx x) 76)).heap.size<=D->D<w2.heap.size->jf8 Tryz.prog 68 #[.pointer (some ⟨b1,0,none⟩),.pointer (some ⟨b2,0,none⟩)] jjk D jwx (jjv x.2 x.1).pre w2) ->
     Calls Tryz.prog 36 #[.func (.func 68) #[] #[.pointer (some ⟨b1,0,none⟩),.pointer (some ⟨b2,0,none⟩)],.func (.func 161) #[] #[]] w' (jz6 w' (.bool (jpw x)))):=fun b1 b2 w' hb hs =>
   jcv jku (jjv x.2 x.1).pre (fun y _ W _=>jre y W) jwx (fun y hy h=>jd5 (okT x.2 x.1 eH y hy) h) _ _ (enters_of Tryz.func68 (by kernel_rfl) rfl) w'
     (fun D w2 ab hD eK=>hs D w2 ab (leT hb.size hD) eK) (fun y hy=>jni x.2 x.1 (o9.later hb) y hy)
 rw[jvx] at HN;have HB:=Lh hB;clear bx o9 eH hB;obtain⟨⟨k,A,c,il⟩,n,m,sA,sc,ss,cA,cc,cs,vA,vc,vs⟩:=x;simp only[jkb,jzx,Sc.k,Sc.v1,Vl.n,Vl.m,Vl.s1,Vl.c1,Vl.v1] at HN HE HB ⊢;go_enter Tryz.func144,Tryz.ntmps144;go_wp2_with fail;refine HN.out.mono ?_;clear HN;rintro e w2 ⟨b1,b2,rfl,ab,bw⟩;have HC:=Lh (HE.out b1 b2 w2 ab bw);clear bw HE;go_wp2_with fail;refine HC.out.mono ?_;rintro e w3 ⟨rfl,bj⟩;go_wp2_with fail;go_ret;exact⟨rfl,HB.out.trans ((ab.trans (bj.mono ab.size)).mono HB.out.size)⟩
end V4
namespace V4
open Go.RowKit Go.Shelf
open S2 (Sc isT jzf jzr)
open C3 (isC jzk)
attribute [local go_sem] Oper.semAt_some
def jwi(x:Sc×Vl):Bool:=(jxl x).all fun y=>!jpw y
theorem inT_kid{w:World}{x y:Sc×Vl}(h:InT w x)(hy:y∈jxl x):InT w y:=by
 obtain⟨i,hi⟩:=List.getElem?_of_mem hy;rw[jv8] at hi;obtain⟨v,hv,rfl⟩:=Option.map_eq_some_iff.1 hi;exact⟨sc_at h.1 i,Vl.Inp.kid h.2 (List.mem_of_getElem? hv)⟩
theorem okS_kid{x y:Sc×Vl}(h:OkS x.1)(hy:y∈jxl x):OkS y.1:=by
 obtain⟨i,hi⟩:=List.getElem?_of_mem hy;rw[jv8] at hi;obtain⟨v,hv,rfl⟩:=Option.map_eq_some_iff.1 hi;exact okS_at h i
theorem jrh(x:Sc×Vl)(w:World)(bx:InT w x)(eH:OkS x.1)(eV:jwx x):Calls Tryz.prog 112 #[jkb x] w (jz6 w (.bool (jwi x))):=by
 obtain⟨V,hV⟩:=exq ((w.alloc (.cells (jzx x) 76)).alloc (.cells #[.bool false] 4));have cm:Below w.heap.size w V:=by rw[<- hV];exact jzk (jzf w _)
 have ae:V.heap.size=w.heap.size+2:=by rw[<- hV];simp
 have bR:Boxed V (w.heap.size+1) 4 (.bool false):=by (have:=Boxed.new (w.alloc (.cells (jzx x) 76)) 4 (.bool false);rw[World.size_alloc,hV] at this;exact this)
 have cj:∀ i v,(jzx x)[i]?=some v->V.cell? ⟨w.heap.size,i,none⟩=some v:=fun i v h=>by (rw[<- hV];exact ((jq3 (Below.refl (w.heap.size+1) (w.alloc (.cells (jzx x) 76))) (by simp)).cell (p:=⟨w.heap.size,i,none⟩) (by simp)).trans (jzs i v h))
 have hm:jda (w.heap.size+1) V x:=⟨jl0 (bx.1.keep cm) (by omega),(Vl.Inp.keep bx.2 fun b hlt=>cm.block b hlt).mono fun b hb=>by unfold Bar;omega⟩;have HG:=Lh (jbj x (w.heap.size+1) V hm eV);have HM:Hid (∀ y∈jxl x,InT w y/\OkS y.1):=fun y hy=>⟨inT_kid bx hy,okS_kid eH hy⟩
 obtain⟨x0,cU⟩:∃ x0,x0=x:=⟨_,rfl⟩
 have jO:Hid (jwi x=(jxl x0).all fun y=>!jpw y):=by rw[cU];rfl
 rw[<- cU] at HM;have cF:=HG.out;rw[show jxl x=jxl x0 by rw[cU]] at cF;have es:=Lh cF;clear hm bx eH eV HG cF cU;obtain⟨⟨k,A,c,il⟩,n,m,sA,sc,ss,cA,cc,cs,vA,vc,vs⟩:=x;have e0:=cj 0 _ rfl;have e1:=cj 1 _ rfl;have e2:=cj 2 _ rfl;have e3:=cj 3 _ rfl;have e4:=cj 4 _ rfl;have e5:=cj 5 _ rfl;have e6:=cj 6 _ rfl;simp only[jkb,jzx,Sc.k,Sc.v1,Vl.n,Vl.m,Vl.s1,Vl.c1,Vl.v1] at e0 e1 e2 e3 e4 e5 e6 es hV ⊢;clear cj;refine (callsIn_wide (n:=6)).1 (callsIn_of_wp_marks Tryz.func112 rfl trivial ?_ rfl);simp only[Tryz.ntmps112,List.size_toArray,List.length_cons,List.length_nil,Nat.reduceAdd,Nat.reduceSub,Array.replicate_succ,Array.replicate_zero,List.push_toArray,List.append_toArray,List.nil_append,List.cons_append];gi_wp2_with fail
 clear hV;refine⟨trivial,(callsIn_wide.2 es.out).mono ?_⟩;clear es e0 e1 e2 e3 e4 e5 e6;rintro e W4 ⟨bt,rfl,ca,bw⟩;have i8:=Lh bw;have o4:=ca.size;have hB4:Below w.heap.size w W4:=cm.trans (ca.mono cm.size);have bR4:Boxed W4 (w.heap.size+1) 4 (.bool false):=(ca.block _ (by omega)).trans bR;clear bw bR ca cm;gi_wp2_with fail
 refine jjf rfl (enters_of Tryz.func70 (by kernel_rfl) rfl) i8.out (fun _=>rfl)
   (fun k X=>(Boxed X (w.heap.size+1) 4 (.bool false)/\Below w.heap.size w X)/\((jxl x0).take k).all (fun y=>!jpw y)=true)
   (fun c _ X=>(Boxed X (w.heap.size+1) 4 (.bool false)/\Below w.heap.size w X)/\c = .ret/\(jxl x0).all (fun y=>!jpw y)=false)
   (fun k X Y ⟨⟨h1,h2⟩,h3⟩ hb=>⟨⟨(hb.block _ (by omega)).trans h1,h2.trans (hb.mono (by omega))⟩,h3⟩)
   (fun c k X Y ⟨⟨h1,h2⟩,h3⟩ hb=>⟨⟨(hb.block _ (by omega)).trans h1,h2.trans (hb.mono (by omega))⟩,h3⟩)
   ⟨⟨bR4,hB4⟩,rfl⟩
   (fun y a' X=>∃ bp,a'={ tmps:=#[.agg #[.int .i64 k,.slice A il.length c,.int .u64 n,.int .u64 m,.slice sA ss.length sc,.slice cA cs.length cc,.slice vA vs.length vc],.pointer (some ⟨w.heap.size,0,none⟩),.pointer (some ⟨w.heap.size+1,0,none⟩),.pointer (some ⟨bp,0,none⟩),.agg #[.int .i64 k,.slice A il.length c,.int .u64 n,.int .u64 m,.slice sA ss.length sc,.slice cA cs.length cc,.slice vA vs.length vc],
       .func (.func 70) #[] #[.pointer (some ⟨bt,0,none⟩)],jkb y,undef,undef],defers:=[] }/\∀ i v,(jzx y)[i]?=some v->X.cell? ⟨bp,i,none⟩=some v)
   ?ax ?assign ?body ?done ?stop
 case ax=>(rintro y a' _ X Y row ⟨bp,h1,h2⟩ hg hr;exact⟨bp,h1,fun i v h=>cell_kept (h2 i v h) hg (fun r e=>(hr r e).2)⟩)
 case assign=>(
 intro l2 k y X K _ _ hK;obtain⟨⟨yk,yA,yc,yl⟩,yn,ym,yK,yL,yN,yO,yP,yQ,yR,yS,yT⟩:=y;unfold jjk;simp only[jkb,jzx,Sc.k,Sc.v1,Vl.n,Vl.m,Vl.s1,Vl.c1,Vl.v1];gi_wp2
 exact hK _ _ (jzf _ _) ⟨X.heap.size,rfl,fun i v h=>jzs i v h⟩)
 case body=>(
 rintro l2 k y a' X nr hx ⟨⟨h1,h2⟩,h4⟩ ⟨bp,rfl,hc⟩;have HX:=Lh hx;have hm:=HM.out y (List.mem_of_getElem? hx);have HR:=Lh (none_any y X (hm.1.later h2) hm.2);obtain⟨q,hq⟩:=exq (jpw y);have HQ:=Lh hq;have HP:=Lh h4;rw[hq] at HR;clear hx hq h4 hm;obtain⟨⟨yk,yA,yc,yl⟩,yn,ym,yK,yL,yN,yO,yP,yQ,yR,yS,yT⟩:=y;have e0:=hc 0 _ rfl;have e1:=hc 1 _ rfl;have e2:=hc 2 _ rfl;have e3:=hc 3 _ rfl;have e4:=hc 4 _ rfl;have e5:=hc 5 _ rfl;have e6:=hc 6 _ rfl;simp only[jkb,jzx,Sc.k,Sc.v1,Vl.n,Vl.m,Vl.s1,Vl.c1,Vl.v1] at e0 e1 e2 e3 e4 e5 e6 HR ⊢;clear hc;gi_wp2_with fail
 refine⟨trivial,rfl,(CallsIn.inRound l2 (callsIn_wide.2 HR.out)).mono ?_⟩;clear HR e0 e1 e2 e3 e4 e5 e6;rintro e X5 ⟨rfl,bh⟩;have g1:Boxed X5 (w.heap.size+1) 4 (.bool false):=(bh.block _ (by omega)).trans h1;have jU:Below w.heap.size w X5:=h2.trans (bh.mono h2.size);cases q with
 | false=>(
 gi_wp2_with fail
 exact⟨KN.of_below bh,⟨⟨g1,jU⟩,by rw[jqq HX.out,HP.out,HQ.out];rfl⟩,trivial⟩)
 | true=>(
 have pc:=g1.cell;have pd:=g1.frozen;gi_wp2_with fail
 exact⟨(KF.of_below bh).trans (KF.set (by omega) _),⟨g1.set _,jU.setCell (by first | omega | (simp;omega) | simp) _⟩,rfl,jj3 HX.out (by rw[HQ.out];rfl)⟩))
 case done=>(
 rintro E X hE ⟨⟨hR,hB⟩,hp⟩ hK;have b8:=hR.cell;have fW:=hR.frozen;rw[List.take_length] at hp;have HP:=Lh hp;clear hp;gi_wp2
 have hne:w.heap.size+1≠E:=by omega
 have fX:(X.setCell ⟨w.heap.size+1,0,none⟩ (.bool true)).heap[E]?=some (.deferred (some [])):=(Below.heap_setCell _ _ _ _ (Ne.symm hne)).trans hK;refine⟨by simp,.inl ⟨_,_,rfl,run_takeDeferred fX,?_⟩⟩;refine⟨_,jzr rfl rfl _ _ (w.heap.size+1) (.bool true) rfl ((World.cell?_of_block (World.putObj_heap_other hne)).trans (hR.set (.bool true)).cell),?_⟩;rw[jO.out,HP.out];exact⟨rfl,(hB.setCell (by first | omega | (simp;omega) | simp) _).trans ⟨rfl,rfl,rfl,by simp,fun q hq=>World.putObj_heap_other (by omega)⟩⟩)
 case stop=>(
 rintro E c k X hE hk ⟨⟨hR,hB⟩,rfl,hp⟩ hK;have b8:=hR.cell;have HP:=Lh hp;clear hp;gi_wp2
 have hne:w.heap.size+1≠E:=by omega
 refine⟨by simp,.inl ⟨_,_,rfl,run_takeDeferred hK,?_⟩⟩;refine⟨_,jzr rfl rfl _ _ (w.heap.size+1) (.bool false) rfl ((World.cell?_of_block (World.putObj_heap_other hne)).trans b8),?_⟩;rw[jO.out,HP.out];exact⟨rfl,hB.trans ⟨rfl,rfl,rfl,by simp,fun q hq=>World.putObj_heap_other (by omega)⟩⟩)
end V4
namespace S2
open Go.RowKit
theorem jr4{d:Int}(h0:0<=d)(h1:d<=1000):wrap64 (d+1)=d+1:=by
 unfold wrap64;omega
theorem good_pre:∀ (s:Sc) (n:Nat) (d:Int),d=17 - n->n<=16->(jpp s d).all jg5=isT n s.er:=by
 intro s;induction s using Sc.ind with
 | h k A c l ih=>(
 intro n d hd hn;rw[jpp,List.all_cons];cases n with
 | zero=>(
 have:d=17:=by omega
 subst this;rfl)
 | succ n=>(
 have hl:∀ l':List Sc,(∀ x∈l',x∈l)->(preL l' (wrap64 (d+1))).all jg5=l'.all fun x=>isT n x.er:=by (
 intro l';induction l' with
 | nil=>intro _;rfl
 | cons x l' ih'=>(intro hm;rw[preL,List.all_append,List.all_cons,ih' (fun y hy=>hm y (List.mem_cons_of_mem _ hy)),jr4 (by omega) (by omega),ih x (hm x (List.mem_cons_self ..)) n (d+1) (by omega) (by omega)]))
 rw[hl l (fun _ h=>h),jya];have e1:jg5 (d,Sc.mk k A c l)=decide ((l.length:Int)=arI k):=by (
 show (decide (d<=16) && decide ((l.length:Int)=arI k))=_
 rw[decide_eq_true (by omega),Bool.true_and])
 rw[e1]))
def dpD:Int->List (Int×Sc)->Int
  | m,[]=>m
  | m,x :: r=>if 16<max m x.1 then max m x.1 else dpD (max m x.1) r
def jpr(e m:Int)(r:List (Int×Sc)):Int:=if 16<e then e else dpD (max m e) r
theorem deep_pre:∀ (s:Sc) (n:Nat) (d m:Int) (r:List (Int×Sc)),d=17 - n->n<=16->d - 1<=m->m<=16->dpD m (jpp s d++r)=jpr (d - 1+jjp (n+1) s.er) m r:=by
 intro s;induction s using Sc.ind with
 | h k A c l ih=>(
 intro n d m r hd hn o7 iK;rw[jpp,List.cons_append,dpD];cases n with
 | zero=>(
 have:d=17:=by omega
 subst this;have h1:jjp 1 (Sc.mk k A c l).er=1:=by (
 rw[jjp];have:(((Sc.mk k A c l).er.ins).map (jjp 0)).foldl max 0<=0:=jq9.2 ⟨Nat.le_refl _,fun x hx=>by (obtain⟨y,_,rfl⟩:=List.mem_map.1 hx;exact Nat.le_refl _)⟩
 omega)
 show (if 16<max m 17 then max m 17 else _)=jpr (17 - 1+(jjp 1 (Sc.mk k A c l).er:Nat)) m r
 rw[h1,if_pos (by omega),jpr,if_pos (by omega)];omega)
 | succ n=>(
 show (if 16<max m d then max m d else dpD (max m d) (preL l (wrap64 (d+1))++r))=_
 rw[if_neg (by omega),jr4 (by omega) (by omega)];have hl:∀ (l':List Sc),(∀ x∈l',x∈l)->∀ (m':Int),d<=m'->m'<=16->dpD m' (preL l' (d+1)++r)=jpr (d+(((l'.map fun x=>jjp (n+1) x.er).foldl max 0:Nat):Int)) m' r:=by (
 intro l';induction l' with
 | nil=>(
 intro _ m' h1 h2;show dpD m' r=jpr (d+((0:Nat):Int)) m' r
 rw[jpr,if_neg (by omega)];congr 1
 omega)
 | cons x l' ih'=>(
 intro hm m' h1 h2;have fj:∀ y∈l',y∈l:=fun y hy=>hm y (List.mem_cons_of_mem _ hy)
 have hdx:=jub (n+1) x.er;have hdl:(l'.map fun x=>jjp (n+1) x.er).foldl max 0<=n+1:=jq9.2 ⟨by omega,fun y hy=>by (obtain⟨z,_,rfl⟩:=List.mem_map.1 hy;exact jub _ _)⟩
 rw[preL,List.append_assoc,ih x (hm x (List.mem_cons_self ..)) n (d+1) m' _ (by omega) (by omega) (by omega) h2];rw[List.map_cons,List.foldl_cons,jcs];unfold jpr;by_cases hx:16<d+1 - 1+(jjp (n+1) x.er:Int)
 ·(rw[if_pos hx,if_pos (by omega)];omega)
 ·(
 rw[if_neg hx,ih' fj _ (by omega) (by omega)];unfold jpr;by_cases hy:16<d+(((l'.map fun x=>jjp (n+1) x.er).foldl max 0:Nat):Int)
 ·(rw[if_pos hy,if_pos (by omega)];omega)
 ·(
 rw[if_neg hy,if_neg (by omega)];congr 1
 omega))))
 rw[hl l (fun _ h=>h) (max m d) (by omega) (by omega)];have e:jjp (n+1+1) (Sc.mk k A c l).er=(l.map fun x=>jjp (n+1) x.er).foldl max 0+1:=by (rw[jjp,er_ins,List.map_map];rfl)
 rw[e];unfold jpr;by_cases hx:16<d+(((l.map fun x=>jjp (n+1) x.er).foldl max 0:Nat):Int)
 ·(rw[if_pos hx,if_pos (by omega)];omega)
 ·(
 rw[if_neg hx,if_neg (by omega)];congr 1
 omega)))
theorem deep_all(s:Sc):dpD 0 (jpp s 1)=jjp 17 s.er:=by
 have:=deep_pre s 16 1 0 [] (by omega) (by omega) (by omega) (by omega);rw[List.append_nil] at this;rw[this];have hd:=jub 17 s.er;have fM:1<=jjp 17 s.er:=by rw[jjp];omega
 unfold jpr;by_cases h:16<(1:Int) - 1+(jjp (16+1) s.er:Nat)
 ·rw[if_pos h];show (1:Int) - 1+(jjp 17 s.er:Nat)=_;omega
 ·rw[if_neg h];show max 0 ((1:Int) - 1+(jjp 17 s.er:Nat))=_;omega
theorem jpl(s:Sc)(w:World)(bx:s.In w.heap.size w):Calls Tryz.prog 24 #[s.val] w (jz6 w (.bool (isT 16 s.er))):=by
 rw[<- good_pre s 16 1 (by omega) (by omega)];exact Is_pre s w bx
end S2
namespace V4
open Go.RowKit Go.Shelf
open S2 (Sc isT jzf)
open C3 (isC jzk)
theorem formed_4(A:Option Addr)(c:Nat)(il:List Sc)(n m:Int)(sA:Option Addr)(sc:Nat)(ss:List Str)(cA:Option Addr)(cc:Nat)(cs:List Ck)(vA:Option Addr)(vc:Nat)(vs:List Vl)(w:World)(bx:InT w (Sc.mk 4 A c il,Vl.mk n m sA sc ss cA cc cs vA vc vs))(eH:OkS (Sc.mk 4 A c il)):Calls Tryz.prog 73 #[.agg #[.int .i64 4,.slice A il.length c,.int .u64 n,.int .u64 m,.slice sA ss.length sc,.slice cA cs.length cc,.slice vA vs.length vc]] w (jz6 w (.bool (jkc ss && (decide (vs.length=ss.length) && jwi (Sc.mk 4 A c il,Vl.mk n m sA sc ss cA cc cs vA vc vs))))):=by
 obtain⟨V,hV⟩:=exq (((w.alloc (.cells #[.int .i64 4,.slice A il.length c,.int .u64 n,.int .u64 m,.slice sA ss.length sc,.slice cA cs.length cc,.slice vA vs.length vc] 76)).alloc (.cells #[.int .u64 n,.int .u64 m,.slice sA ss.length sc,.slice cA cs.length cc,.slice vA vs.length vc] 30)));have cm:Below w.heap.size w V:=by rw[<- hV];exact jzk (jzk (Below.refl _ _))
 have ae:V.heap.size=w.heap.size+2:=by rw[<- hV];simp
 have qq:∀ i v,(jzx (Sc.mk 4 A c il,Vl.mk n m sA sc ss cA cc cs vA vc vs))[i]?=some v->V.cell? ⟨w.heap.size,i,none⟩=some v:=fun i v h=>by (rw[<- hV];exact ((jq3 (Below.refl (w.heap.size+1) (w.alloc (.cells (jzx (Sc.mk 4 A c il,Vl.mk n m sA sc ss cA cc cs vA vc vs)) 76))) (by simp)).cell (p:=⟨w.heap.size,i,none⟩) (by simp)).trans (jzs i v h))
 have jl:∀ i v,(#[.int .u64 n,.int .u64 m,.slice sA ss.length sc,.slice cA cs.length cc,.slice vA vs.length vc]:Array Value)[i]?=some v->V.cell? ⟨w.heap.size+1,i,none⟩=some v:=fun i v h=>by (rw[<- hV];exact jqt i v h)
 have hp:=(bx.2.later cm).out;have HC:=Lh (jut sA sc ss V hp.sl (by have:=hp.sb;omega) hp.st);have HF:Hid (∀ Z,Below V.heap.size V Z->Calls Tryz.prog 112 #[jkb (Sc.mk 4 A c il,Vl.mk n m sA sc ss cA cc cs vA vc vs)] Z (jz6 Z (.bool (jwi (Sc.mk 4 A c il,Vl.mk n m sA sc ss cA cc cs vA vc vs))))):=fun Z hZ =>
   jrh _ Z ((bx.later cm).later hZ) eH (.inr (jdt eH (.inl rfl)))
 obtain⟨fl,hfl⟩:=exq (jwi (Sc.mk 4 A c il,Vl.mk n m sA sc ss cA cc cs vA vc vs));obtain⟨q,hq⟩:=exq (jkc ss);rw[hfl] at HF ⊢;rw[hq] at HC ⊢;clear hp bx eH hfl hq;have t0:=qq 0 _ rfl;have t1:=qq 1 _ rfl;have t2:=qq 2 _ rfl;have t3:=qq 3 _ rfl;have t4:=qq 4 _ rfl;have t5:=qq 5 _ rfl;have t6:=qq 6 _ rfl;have g2:=jl 2 _ rfl;have g4:=jl 4 _ rfl;simp only[jkb,jzx,Sc.k,Sc.v1,Vl.n,Vl.m,Vl.s1,Vl.c1,Vl.v1] at t0 t1 t2 t3 t4 t5 t6 HF;clear jl qq;go_enter Tryz.func73,Tryz.ntmps73;go_wp2_with fail;clear hV;refine HC.out.mono ?_;clear HC;rintro e w3 ⟨rfl,hb⟩;have HF3:=Lh (HF.out w3 hb);clear HF;have iF:=cm.trans (hb.mono cm.size);replace t0:=(hb.cell (p:=⟨w.heap.size,0,none⟩) (by simp only;omega)).trans t0;replace t1:=(hb.cell (p:=⟨w.heap.size,1,none⟩) (by simp only;omega)).trans t1;replace t2:=(hb.cell (p:=⟨w.heap.size,2,none⟩) (by simp only;omega)).trans t2;replace t3:=(hb.cell (p:=⟨w.heap.size,3,none⟩) (by simp only;omega)).trans t3;replace t4:=(hb.cell (p:=⟨w.heap.size,4,none⟩) (by simp only;omega)).trans t4;replace t5:=(hb.cell (p:=⟨w.heap.size,5,none⟩) (by simp only;omega)).trans t5;replace t6:=(hb.cell (p:=⟨w.heap.size,6,none⟩) (by simp only;omega)).trans t6;replace g2:=(hb.cell (p:=⟨w.heap.size+1,2,none⟩) (by simp only;omega)).trans g2;replace g4:=(hb.cell (p:=⟨w.heap.size+1,4,none⟩) (by simp only;omega)).trans g4;clear hb cm ae;cases q with
 | false=>(go_wp2_with fail;go_ret;exact⟨rfl,iF⟩)
 | true=>(
 by_cases hl:vs.length=ss.length
 ·(have kl:((vs.length:Int) == (ss.length:Int))=true:=ibeq (by omega);have nG:=Lh hl;clear hl;go_wp2_with fail;refine HF3.out.mono ?_;rintro e w4 ⟨rfl,ca⟩;go_wp2_with fail;go_ret;exact⟨jzi (by rw[decide_eq_true nG.out];rfl),iF.trans (ca.mono iF.size)⟩)
 ·(have kl:((vs.length:Int) == (ss.length:Int))=false:=jdc (by omega);have nG:=Lh hl;clear hl;go_wp2_with fail;go_ret;exact⟨jzi (by rw[decide_eq_false nG.out];rfl),iF⟩))
def jbb(x:Sc×Vl):Bool:=jws x.1.k x.2.n x.2.m x.2.ss.length x.2.cs.length x.2.vs.length && jbq x.1.k x.2.n x.2.m x.2.ss x.2.cs x.2.vs.length (jwi x)
theorem jrf(k:Int)(A:Option Addr)(c:Nat)(il:List Sc)(n m:Int)(sA:Option Addr)(sc:Nat)(ss:List Str)(cA:Option Addr)(cc:Nat)(cs:List Ck)(vA:Option Addr)(vc:Nat)(vs:List Vl)(w:World)(bx:InT w (Sc.mk k A c il,Vl.mk n m sA sc ss cA cc cs vA vc vs))(eH:OkS (Sc.mk k A c il))(fl:Bool)(hfl:jwi (Sc.mk k A c il,Vl.mk n m sA sc ss cA cc cs vA vc vs)=fl):Calls Tryz.prog 73 #[.agg #[.int .i64 k,.slice A il.length c,.int .u64 n,.int .u64 m,.slice sA ss.length sc,.slice cA cs.length cc,.slice vA vs.length vc]] w (jz6 w (.bool (jbq k n m ss cs vs.length fl))):=by
 unfold jbq;by_cases h1:k=1
 ·subst h1;exact formed_1 A c il n m sA sc ss cA cc cs vA vc vs w
 rw[if_neg h1];by_cases h2:k=2
 ·subst h2;exact formed_2 A c il n m sA sc ss cA cc cs vA vc vs w bx.2
 rw[if_neg h2];by_cases h3:k=3
 ·subst h3;exact formed_3 A c il n m sA sc ss cA cc cs vA vc vs w bx.2
 rw[if_neg h3];by_cases h4:k=4
 ·(subst h4;have:=formed_4 A c il n m sA sc ss cA cc cs vA vc vs w bx eH;rw[hfl] at this;exact this)
 rw[if_neg h4];by_cases h5:k=5
 ·subst h5;exact jto A c il n m sA sc ss cA cc cs vA vc vs w
 rw[if_neg h5];by_cases h6:k=6
 ·subst h6;exact formed_6 A c il n m sA sc ss cA cc cs vA vc vs w bx.2
 rw[if_neg h6];by_cases h7:k=7
 ·subst h7;exact formed_7 A c il n m sA sc ss cA cc cs vA vc vs w bx.2
 rw[if_neg h7];by_cases h8:k=8
 ·subst h8;exact formed_8 A c il n m sA sc ss cA cc cs vA vc vs w bx.2
 rw[if_neg h8];exact formed_0 k (by omega) A c il n m sA sc ss cA cc cs vA vc vs w
theorem jhj(x:Sc×Vl)(w:World)(bx:InT w x)(eH:OkS x.1):Calls Tryz.prog 39 #[jkb x] w (jz6 w (.bool (jbb x))):=by
 obtain⟨⟨k,A,c,il⟩,n,m,sA,sc,ss,cA,cc,cs,vA,vc,vs⟩:=x;exact jl1 k A c il n m sA sc ss cA cc cs vA vc vs w _ _ (fun Z=>juv k n m sA sc ss.length cA cc cs.length vA vc vs.length Z)
   (fun Z hZ=>jrf k A c il n m sA sc ss cA cc cs vA vc vs Z (bx.later hZ) eH _ rfl)
theorem jol{x:Sc×Vl}(h:OkS x.1)(hx:jbb x=true):jwx x:=by
 by_cases hk:x.1.k=4\/x.1.k=5\/x.1.k=8
 ·exact .inr (jdt h hk)
 ·(
 refine .inl ?_;unfold jbb jws at hx;rw[Bool.and_eq_true] at hx;have h0:=hx.1;simp only[show ¬ x.1.k=4 by omega,show ¬ x.1.k=5 by omega,show ¬ x.1.k=8 by omega,if_false] at h0;have:∀ (p q r s:Bool),jqa x.2.n x.2.m x.2.ss.length x.2.cs.length x.2.vs.length p q r s false=true->x.2.vs=[]:=fun p q r s h=>by (unfold jqa at h;simp only[Bool.and_eq_true,Bool.false_or,decide_eq_true_eq] at h;exact List.eq_nil_of_length_eq_zero h.2.2.2.2)
 split at h0
 ·exact this _ _ _ _ h0
 split at h0
 ·exact this _ _ _ _ h0
 split at h0
 ·exact this _ _ _ _ h0
 split at h0
 ·exact this _ _ _ _ h0
 split at h0
 ·exact this _ _ _ _ h0
 ·exact this _ _ _ _ h0)
def jw2(x:Sc×Vl):Bool:=(jjv x.2 x.1).pre.all jbb
theorem jp4(x:Sc×Vl)(w:World)(bx:InT w x)(eH:OkS x.1)(b1 b2:Nat)(w':World)(hb:Below w.heap.size w w')
    (hs:∀ D w2,Below w'.heap.size w' w2->w.heap.size<=D->D<w2.heap.size->jf8 Tryz.prog 68 #[.pointer (some ⟨b1,0,none⟩),.pointer (some ⟨b2,0,none⟩)] jjk D jwx (jjv x.2 x.1).pre w2) :
    Calls Tryz.prog 36 #[.func (.func 68) #[] #[.pointer (some ⟨b1,0,none⟩),.pointer (some ⟨b2,0,none⟩)],.func (.func 39) #[] #[]] w' (jz6 w' (.bool (jw2 x))) :=
  jd6 jbb (jjv x.2 x.1).pre (fun y hy W hW=>jhj y W hW (okT x.2 x.1 eH y hy)) jwx (fun y hy h=>jol (okT x.2 x.1 eH y hy) h) _ _ (enters_of Tryz.func68 (by kernel_rfl) rfl) w'
    (fun D w2 ab hD eK=>hs D w2 ab (leT hb.size hD) eK) (fun y hy=>jni x.2 x.1 (bx.later hb) y hy)
theorem jdv(x:Sc×Vl)(w:World)(bx:InT w x):Calls Tryz.prog 37 #[jkb x,.func (.func 38) #[] #[]] w (jih (jjv x.2 x.1) w):=by
 have:=jl9 (jjv x.2 x.1) w (fun D hD=>goodT x.2 x.1 (bx.2.bar hD) (jl0 bx.1 hD));rw[jvx] at this;exact this
theorem Is_walk(s:Sc)(v:Vl)(w:World)(hs:s.In w.heap.size w)(hv:v.In w):Calls Tryz.prog 20 #[s.val,v.val] w (jz6 w (.bool (isT 16 s.er && jw2 (s,v)))):=by
 obtain⟨V,hV⟩:=exq (((w.alloc (.cells #[.int .i64 s.k,s.v1] 24)).alloc (.cells #[.int .u64 v.n,.int .u64 v.m,v.s1,v.c1,v.v1] 30)));have cm:Below w.heap.size w V:=by rw[<- hV];exact jzk (jzk (Below.refl _ _))
 have ae:V.heap.size=w.heap.size+2:=by rw[<- hV];simp
 have nW:∀ i u,(#[.int .i64 s.k,s.v1]:Array Value)[i]?=some u->V.cell? ⟨w.heap.size,i,none⟩=some u:=fun i u h=>by (rw[<- hV];exact ((jq3 (Below.refl (w.heap.size+1) (w.alloc (.cells #[.int .i64 s.k,s.v1] 24))) (by simp)).cell (p:=⟨w.heap.size,i,none⟩) (by simp)).trans (jzs i u h))
 have jl:∀ i u,(#[.int .u64 v.n,.int .u64 v.m,v.s1,v.c1,v.v1]:Array Value)[i]?=some u->V.cell? ⟨w.heap.size+1,i,none⟩=some u:=fun i u h=>by (rw[<- hV];exact jqt i u h)
 have bx:InT w (s,v):=⟨hs,hv⟩;have HI:=Lh (S2.jpl s V (bx.later cm).1);obtain⟨q,hq⟩:=exq (isT 16 s.er);have HQ:=Lh hq;have HN:Hid (∀ Z,Below V.heap.size V Z->Calls Tryz.prog 37 #[jkb (s,v),.func (.func 38) #[] #[]] Z (jih (jjv v s) Z)):=fun Z hZ=>jdv (s,v) Z ((bx.later cm).later hZ)
 have HE:Hid (q=true->∀ (Z:World),Below V.heap.size V Z->∀ (b1 b2:Nat) (w':World),Below Z.heap.size Z w'->(∀ D w2,Below w'.heap.size w' w2->Z.heap.size<=D->D<w2.heap.size->jf8 Tryz.prog 68 #[.pointer (some ⟨b1,0,none⟩),.pointer (some ⟨b2,0,none⟩)] jjk D jwx (jjv v s).pre w2) ->
     Calls Tryz.prog 36 #[.func (.func 68) #[] #[.pointer (some ⟨b1,0,none⟩),.pointer (some ⟨b2,0,none⟩)],.func (.func 39) #[] #[]] w' (jz6 w' (.bool (jw2 (s,v))))):=fun jh Z hZ b1 b2 w' hb hs =>
   jp4 (s,v) Z ((bx.later cm).later hZ) (.inl ⟨16,hq.trans jh⟩) b1 b2 w' hb hs
 rw[hq] at HI ⊢;obtain⟨R,hR⟩:=exq (jw2 (s,v));rw[hR] at HE ⊢;clear bx hs hv hq hR;have a0:=nW 0 _ rfl;have a1:=nW 1 _ rfl;have g0:=jl 0 _ rfl;have g1:=jl 1 _ rfl;have g2:=jl 2 _ rfl;have g3:=jl 3 _ rfl;have g4:=jl 4 _ rfl;clear nW jl;obtain⟨k,A,c,il⟩:=s;obtain⟨n,m,sA,sc,ss,cA,cc,cs,vA,vc,vs⟩:=v;simp only[jzh,S2.jzh,jkb,jzx,Sc.k,Sc.v1,Vl.n,Vl.m,Vl.s1,Vl.c1,Vl.v1] at a0 a1 g0 g1 g2 g3 g4 HI HN hV ⊢;go_enter Tryz.func20,Tryz.ntmps20;go_wp2_with fail;clear hV;refine HI.out.mono ?_;clear HI;rintro e w3 ⟨rfl,hb⟩;have iF:=cm.trans (hb.mono cm.size);replace a0:=(hb.cell (p:=⟨w.heap.size,0,none⟩) (by simp only;omega)).trans a0;replace a1:=(hb.cell (p:=⟨w.heap.size,1,none⟩) (by simp only;omega)).trans a1;replace g0:=(hb.cell (p:=⟨w.heap.size+1,0,none⟩) (by simp only;omega)).trans g0;replace g1:=(hb.cell (p:=⟨w.heap.size+1,1,none⟩) (by simp only;omega)).trans g1;replace g2:=(hb.cell (p:=⟨w.heap.size+1,2,none⟩) (by simp only;omega)).trans g2;replace g3:=(hb.cell (p:=⟨w.heap.size+1,3,none⟩) (by simp only;omega)).trans g3;replace g4:=(hb.cell (p:=⟨w.heap.size+1,4,none⟩) (by simp only;omega)).trans g4;have od:=Lh (HN.out w3 hb);have HE3:=Lh fun h=>HE.out h w3 hb
 clear hb cm HN HE ae;cases q with
 | false=>(go_wp2_with fail;go_ret;exact⟨rfl,iF⟩)
 | true=>(go_wp2_with fail;refine od.out.mono ?_;clear od;rintro e w4 ⟨b1,b2,rfl,ca,bw⟩;have HE4:=Lh (HE3.out (by trivial) b1 b2 w4 ca bw);clear HE3 bw;go_wp2_with fail;refine HE4.out.mono ?_;rintro e w5 ⟨rfl,bh⟩;go_wp2_with fail;go_ret;exact⟨rfl,iF.trans ((ca.trans (bh.mono ca.size)).mono iF.size)⟩)
open S2 (Sc Tr isT)
open C3 (Tk isC)
theorem jya:∀ (n:Nat) (t:Tr),isT n t=true->isT (n+1) t=true
  | 0,t,h=>by simp[isT] at h
  | n+1,t,h=>by
    rw[isT,Bool.and_eq_true] at h ⊢
    refine⟨h.1,?_⟩
    rw[List.all_eq_true] at *
    exact fun x hx=>jya n x (h.2 x hx)
theorem jwr{n m:Nat}{t:Tr}(h:isT n t=true)(hn:n<=m):isT m t=true:=by
 induction m with
 | zero=>rw[show n=0 by omega] at h;exact h
 | succ m ih=>(
 by_cases h1:n<=m
 ·exact jya m t (ih h1)
 ·rw[show n=m+1 by omega] at h;exact h)
theorem jjq{α:Type}{p q:α->Bool}{l:List α}(h:∀ x∈l,p x=q x):l.all p=l.all q:=by
 induction l with
 | nil=>rfl
 | cons x l ih=>rw[List.all_cons,List.all_cons,h x (by simp),ih fun y hy=>h y (List.mem_cons_of_mem _ hy)]
theorem jtz(p:Sc×Vl->Bool)(v:Vl)(s:Sc):(jjv v s).pre.all p=(p (s,v) && (jxl (s,v)).all fun y=>(jjv y.2 y.1).pre.all p):=by
 rw[jbw,Nd.pre,List.all_cons];congr 1
 have h:∀ (l:List (Nd (Sc×Vl))),(Nd.preL l).all p=l.all fun t=>t.pre.all p:=fun l=>by (
 induction l with
 | nil=>rfl
 | cons t l ih=>rw[Nd.preL,List.all_append,ih,List.all_cons])
 rw[h,<- jcn];show _=((jvy v.vs s.ins 0).map Nd.lab).all _
 rw[List.all_map];refine jjq fun t ht=>?_
 obtain⟨i,hi⟩:=List.getElem?_of_mem ht;rw[jkm] at hi;obtain⟨y,hy,rfl⟩:=Option.map_eq_some_iff.1 hi;simp only[Function.comp,jvx]
theorem jw4{s:Sc}{v:Vl}(h:v.vs=[]):jxl (s,v)=[]:=by
 apply List.eq_nil_of_length_eq_zero;rw[jg1];simp[h]
theorem jti{s:Sc}{v x y:Vl}{a b:Sc}(h:v.vs=[x,y])(hs:s.ins=[a,b]):jxl (s,v)=[(a,x),(b,y)]:=by
 unfold jxl;simp only[h,hs];rfl
theorem jm1{s:Sc}{v:Vl}{a:Sc}(hs:s.ins=[a]):jxl (s,v)=v.vs.map fun y=>(a,y):=by
 refine List.ext_getElem? fun i=>?_
 rw[jv8,List.getElem?_map];simp only[scAt,hs,List.length_cons,List.length_nil];rw[show min i (0+1 - 1)=0 by omega];rfl
theorem jyu{α:Type}{l:List α}(h:l.length=1):∃ x,l=[x]:=List.length_eq_one_iff.1 h
theorem jcr(n m:Int)(a b d:Nat):jqa n m a b d false false false false false=decide (n=0/\m=0/\a=0/\b=0/\d=0):=by
 unfold jqa;simp only[Bool.false_or];by_cases h1:n=0 <;> by_cases h2:m=0 <;> by_cases h3:a=0 <;> by_cases h4:b=0 <;> by_cases h5:d=0 <;> simp[h1,h2,h3,h4,h5]
theorem jqp{n m n' m':Int}{s s':List Str}{c c':List (List Tk)}{v v':List Va}:Va.mk n m s c v=Va.mk n' m' s' c' v'↔n=n'/\m=m'/\s=s'/\c=c'/\v=v':=by
 constructor
 ·intro h;cases h;exact⟨rfl,rfl,rfl,rfl,rfl⟩
 ·rintro ⟨rfl,rfl,rfl,rfl,rfl⟩;rfl
theorem jhs:∀ (v:Vl) (s:Sc) (n:Nat),n<=16->isT n s.er=true->jpw (s,v)=decide (v.er=jqv s.er):=by
 intro v;induction v using Vl.ind with
 | h n0 m0 sA sc ss cA cc cs vA vc vs ih=>(
 intro s n hn hs;unfold jpw;rw[jtz];have qB:=jwr hs hn;by_cases hk:s.k=5
 ·(
 obtain⟨k,A,c,l⟩:=s;have hl:l.length=2:=by (
 have:=jhr (s:=Sc.mk k A c l) (.inl ⟨n,hs⟩) (by rw[hk];decide);rw[hk] at this;simp[S2.arI,Sc.ins] at this
 omega)
 simp only[Sc.k] at hk;subst hk;obtain⟨a,b,rfl⟩:=jx7 hl;rw[S2.jzw] at hs qB ⊢;simp only[List.map_cons,List.map_nil] at hs qB ⊢;rw[jpb qB];have hh:jku (Sc.mk 5 A c [a,b],Vl.mk n0 m0 sA sc ss cA cc cs vA vc vs)=decide (n0=0/\m0=0/\ss.length=0/\cs.length=0/\vs.length=2):=by (
 show jvl 5 n0 m0 ss.length cs.length vs.length=_
 unfold jvl jqa;rw[if_pos rfl];simp only[Bool.false_or,Bool.true_or];by_cases h1:n0=0 <;> by_cases h2:m0=0 <;> by_cases h3:ss.length=0 <;> by_cases h4:cs.length=0 <;> by_cases h5:vs.length=2 <;> simp[h1,h2,h3,h4,h5])
 rw[hh];by_cases h2:vs.length=2
 ·(
 obtain⟨x,y,rfl⟩:=jx7 h2;rw[jti rfl rfl];cases n with
 | zero=>simp[isT] at hs
 | succ n=>(have ha:=jkt hs a.er (by simp);have hb:=jkt hs b.er (by simp);have i1:=ih x (by simp) a n (by omega) ha;have i2:=ih y (by simp) b n (by omega) hb;unfold jpw at i1 i2;simp only at i1 i2;simp only[List.all_cons,List.all_nil,Bool.and_true];rw[i1,i2,jzw,<- Bool.decide_and,<- Bool.decide_and];refine decide_eq_decide.2 ?_;rw[jqp];simp[and_assoc]))
 ·(rw[decide_eq_false (fun h=>h2 h.2.2.2.2),Bool.false_and];refine (decide_eq_false fun h=>h2 ?_).symm;rw[jzw,jqp] at h;have:=congrArg List.length h.2.2.2.2;simpa using this))
 ·(
 rw[jyd (fun h=>hk (by rw[<- S2.er_k];exact h.2))];have hh:jku (s,Vl.mk n0 m0 sA sc ss cA cc cs vA vc vs)=decide (n0=0/\m0=0/\ss.length=0/\cs.length=0/\vs.length=0):=by (
 show jvl s.k n0 m0 ss.length cs.length vs.length=_
 unfold jvl;rw[if_neg hk,jcr])
 rw[hh];by_cases h0:vs.length=0
 ·(have hv:vs=[]:=List.eq_nil_of_length_eq_zero h0;subst hv;rw[jw4 rfl,List.all_nil,Bool.and_true,jzw];refine decide_eq_decide.2 ?_;rw[Va.zero,jqp];simp)
 ·(rw[decide_eq_false (fun h=>h0 h.2.2.2.2),Bool.false_and];refine (decide_eq_false fun h=>h0 ?_).symm;rw[jzw,Va.zero,jqp] at h;have:=congrArg List.length h.2.2.2.2;simpa using this)))
end V4
end Go.Proofs.YtobggoephhjofaaGreatDoor
