/- A part. No condition. -/
import Derived.Test.YtobggoephhjofaaGreatDoorMk18
import Derived.Sort.CutIn
set_option maxRecDepth 100000
set_option maxHeartbeats 16000000
namespace Go.Proofs.YtobggoephhjofaaGreatDoor
namespace J5
open Go.RowKit Go.Shelf
open C3 (Tk In jzk jzf)
open V4 (Va Vl Ck jzt jzj jzh jqh jwf)
attribute [local go_sem] Oper.semAt_some
def vlZ:Vl := .mk 0 0 none 0 [] none 0 [] none 0 []
def Blk(W:World)(X:Nat)(t:TypeId)(cs:Array Value):Prop:=W.heap[X]?=some (.cells cs t (0,0))
theorem Blk.lt{W:World}{X:Nat}{t:TypeId}{cs:Array Value}(h:Blk W X t cs):X<W.heap.size:=(Array.getElem?_eq_some_iff.1 h).1
theorem Blk.below{W W':World}{X:Nat}{t:TypeId}{cs:Array Value}(h:Blk W X t cs)(hb:Below W.heap.size W W'):Blk W' X t cs:=(hb.block X h.lt).trans h
theorem Blk.new(W:World)(t:TypeId)(cs:Array Value):Blk (W.alloc (.cells cs t)) W.heap.size t cs:=World.alloc_heap_new W _
theorem Blk.other{W:World}{X b:Nat}{t:TypeId}{cs:Array Value}(h:Blk W X t cs)(hne:X≠b)(i:Nat)(v:Value):Blk (W.setCell ⟨b,i,none⟩ v) X t cs:=(Below.heap_setCell _ _ _ _ (by simpa using hne)).trans h
theorem Blk.set{W:World}{X:Nat}{t:TypeId}{cs:Array Value}(h:Blk W X t cs)(i:Nat)(v:Value):Blk (W.setCell ⟨X,i,none⟩ v) X t (cs.setIfInBounds i v):=by
 obtain⟨hlt,hk⟩:=Array.getElem?_eq_some_iff.1 h;show (W.heap.modify X _)[X]?=_
 rw[Array.getElem?_eq_getElem (by rw[Array.size_modify];exact hlt),Array.getElem_modify_self,hk];rfl
theorem Blk.drew{W:World}{X:Nat}{t:TypeId}{cs:Array Value}(h:Blk W X t cs):Blk W.drew X t cs:=h
theorem low_le{M V:Type}{c:M->M->Int}{r1 r2:List (M×V)}(h:jfu c r1 r2<=0)(hne:r1≠[]\/r2≠[]):∃ x r3,r1=x :: r3:=by
 cases r1 with
 | cons x r=>exact⟨x,r,rfl⟩
 | nil=>(
 cases r2 with
 | nil=>rcases hne with h | h <;> exact absurd rfl h
 | cons y r=>rw[jfu] at h;omega)
theorem low_ge{M V:Type}{c:M->M->Int}{r1 r2:List (M×V)}(h:0<=jfu c r1 r2):∃ y r4,r2=y :: r4:=by
 cases r2 with
 | cons y r=>exact⟨y,r,rfl⟩
 | nil=>(
 have:jfu c r1 [] = -1:=by cases r1 <;> rfl
 omega)
theorem jcx{α:Type}{zs r:List α}{k:Nat}{a:α}(h:zs.drop k=a :: r):zs[k]?=some a/\zs.drop (k+1)=r/\k+1<=zs.length:=by
 have hk:k<zs.length:=by (
 rcases Nat.lt_or_ge k zs.length with h1 | h1
 ·exact h1
 ·rw[List.drop_of_length_le h1] at h;cases h)
 rw[List.drop_eq_getElem_cons hk] at h;injection h with h1 h2
 exact⟨by rw[List.getElem?_eq_getElem hk,h1],h2,hk⟩
theorem KJ.set{B:Nat}{F:Nat->Prop}{W:World}{X i:Nat}{v:Value}(h:¬ F X)(hB:B<=X):KJ B F W (W.setCell ⟨X,i,none⟩ v) :=
  ⟨(Below.refl _ _).setCell hB v,fun b o h1 h2=>(Below.heap_setCell _ _ _ _ (fun e=>h (by simp only at e;rw[<- e];exact h2))).trans h1⟩
def jgg(W:World)(P Q:Nat)(u v0 v1 v2 v3 v4 t0 t1:Value):World:=(((((((W.setCell ⟨P,0,none⟩ u).setCell ⟨P,1,none⟩ v0).setCell ⟨P,2,none⟩ v1).setCell ⟨P,3,none⟩ v2).setCell ⟨P,4,none⟩ v3).setCell ⟨P,5,none⟩ v4).setCell ⟨Q,0,none⟩ t0).setCell ⟨Q,1,none⟩ t1
def jgf(W:World)(P Q:Nat)(u v0 v1 v2 v3 v4 t0 t1:Value):World:=(((((((W.setCell ⟨P,0,none⟩ u).setCell ⟨P,6,none⟩ v0).setCell ⟨P,7,none⟩ v1).setCell ⟨P,8,none⟩ v2).setCell ⟨P,9,none⟩ v3).setCell ⟨P,10,none⟩ v4).setCell ⟨Q,0,none⟩ t0).setCell ⟨Q,1,none⟩ t1
section
variable {W wr:World} {P Q R N B:Nat} {u v0 v1 v2 v3 v4 t0 t1:Value} {F:Nat->Prop} {t st lt:TypeId} {cs:Array Value} {z0 z1 z2 z3 z4 z5 z6 z7 z8 z9 z10 p0 p1:Value}
theorem jlx(h:Blk W P st #[z0,z1,z2,z3,z4,z5,z6,z7,z8,z9,z10])(gj:P≠Q):Blk (jgg W P Q u v0 v1 v2 v3 v4 t0 t1) P st #[u,v0,v1,v2,v3,v4,z6,z7,z8,z9,z10] :=
  (((((((h.set 0 u).set 1 v0).set 2 v1).set 3 v2).set 4 v3).set 5 v4).other gj 0 t0).other gj 1 t1
theorem jlu(h:Blk W P st #[z0,z1,z2,z3,z4,z5,z6,z7,z8,z9,z10])(gj:P≠Q):Blk (jgf W P Q u v0 v1 v2 v3 v4 t0 t1) P st #[u,z1,z2,z3,z4,z5,v0,v1,v2,v3,v4] :=
  (((((((h.set 0 u).set 6 v0).set 7 v1).set 8 v2).set 9 v3).set 10 v4).other gj 0 t0).other gj 1 t1
theorem jlw(h:Blk W Q lt #[p0,p1])(gj:P≠Q):Blk (jgg W P Q u v0 v1 v2 v3 v4 t0 t1) Q lt #[t0,t1] :=
  (((((((h.other gj.symm 0 u).other gj.symm 1 v0).other gj.symm 2 v1).other gj.symm 3 v2).other gj.symm 4 v3).other gj.symm 5 v4).set 0 t0).set 1 t1
theorem jlt(h:Blk W Q lt #[p0,p1])(gj:P≠Q):Blk (jgf W P Q u v0 v1 v2 v3 v4 t0 t1) Q lt #[t0,t1] :=
  (((((((h.other gj.symm 0 u).other gj.symm 6 v0).other gj.symm 7 v1).other gj.symm 8 v2).other gj.symm 9 v3).other gj.symm 10 v4).set 0 t0).set 1 t1
theorem jlv(h:Blk W R t cs)(h1:R≠P)(h2:R≠Q):Blk (jgg W P Q u v0 v1 v2 v3 v4 t0 t1) R t cs :=
  (((((((h.other h1 0 u).other h1 1 v0).other h1 2 v1).other h1 3 v2).other h1 4 v3).other h1 5 v4).other h2 0 t0).other h2 1 t1
theorem jls(h:Blk W R t cs)(h1:R≠P)(h2:R≠Q):Blk (jgf W P Q u v0 v1 v2 v3 v4 t0 t1) R t cs :=
  (((((((h.other h1 0 u).other h1 6 v0).other h1 7 v1).other h1 8 v2).other h1 9 v3).other h1 10 v4).other h2 0 t0).other h2 1 t1
theorem jfg(h:Below N wr W)(h1:N<=P)(h2:N<=Q):Below N wr (jgg W P Q u v0 v1 v2 v3 v4 t0 t1) :=
  (((((((h.setCell h1 u).setCell h1 v0).setCell h1 v1).setCell h1 v2).setCell h1 v3).setCell h1 v4).setCell h2 t0).setCell h2 t1
theorem jff(h:Below N wr W)(h1:N<=P)(h2:N<=Q):Below N wr (jgf W P Q u v0 v1 v2 v3 v4 t0 t1) :=
  (((((((h.setCell h1 u).setCell h1 v0).setCell h1 v1).setCell h1 v2).setCell h1 v3).setCell h1 v4).setCell h2 t0).setCell h2 t1
theorem jux(h:KJ B F wr W)(hP:wr.heap.size<=P)(hB:B<=wr.heap.size)(hQ:B<=Q)(hq:¬ F Q):KJ B F wr (jgg W P Q u v0 v1 v2 v3 v4 t0 t1):=by
 have h6:KJ B F wr ((((((W.setCell ⟨P,0,none⟩ u).setCell ⟨P,1,none⟩ v0).setCell ⟨P,2,none⟩ v1).setCell ⟨P,3,none⟩ v2).setCell ⟨P,4,none⟩ v3).setCell ⟨P,5,none⟩ v4):=by (
 refine⟨(((((h.bel.setCell (by simp only;omega) u).setCell (by simp only;omega) v0).setCell (by simp only;omega) v1).setCell (by simp only;omega) v2).setCell (by simp only;omega) v3).setCell (by simp only;omega) v4,fun b o h1 h2=>?_⟩;have hb:b≠P:=by have:=(Array.getElem?_eq_some_iff.1 h1).1;omega
 iterate 6 rw[Below.heap_setCell _ _ _ _ (by simpa using hb)]
 exact h.same b o h1 h2)
 exact (h6.trans (KJ.set hq hQ)).trans (KJ.set hq hQ)
theorem juw(h:KJ B F wr W)(hP:wr.heap.size<=P)(hB:B<=wr.heap.size)(hQ:B<=Q)(hq:¬ F Q):KJ B F wr (jgf W P Q u v0 v1 v2 v3 v4 t0 t1):=by
 have h6:KJ B F wr ((((((W.setCell ⟨P,0,none⟩ u).setCell ⟨P,6,none⟩ v0).setCell ⟨P,7,none⟩ v1).setCell ⟨P,8,none⟩ v2).setCell ⟨P,9,none⟩ v3).setCell ⟨P,10,none⟩ v4):=by (
 refine⟨(((((h.bel.setCell (by simp only;omega) u).setCell (by simp only;omega) v0).setCell (by simp only;omega) v1).setCell (by simp only;omega) v2).setCell (by simp only;omega) v3).setCell (by simp only;omega) v4,fun b o h1 h2=>?_⟩;have hb:b≠P:=by have:=(Array.getElem?_eq_some_iff.1 h1).1;omega
 iterate 6 rw[Below.heap_setCell _ _ _ _ (by simpa using hb)]
 exact h.same b o h1 h2)
 exact (h6.trans (KJ.set hq hQ)).trans (KJ.set hq hQ)
end
theorem Blk.kp{N B:Nat}{F:Nat->Prop}{t:TypeId}{W W':World}{X:Nat}{cs:Array Value}(h:Blk W X t cs)(hk:KP N B F W W')(hB:B<=X)(hX:¬ F X):Blk W' X t cs:=hk.same _ _ h (.inr ⟨hB,hX⟩)
def jx4(x:Str×Vl×Vl):Array Value:=#[jyh x.1,.int .u64 x.2.1.n,.int .u64 x.2.1.m,x.2.1.s1,x.2.1.c1,x.2.1.v1,.int .u64 x.2.2.n,.int .u64 x.2.2.m,x.2.2.s1,x.2.2.c1,x.2.2.v1]
def jcw(x:Str×Vl×Vl):Array Value:=#[.agg (jx4 x)]
theorem LnS.In.kp{N B:Nat}{F:Nat->Prop}{w w':World}{L:LnS}(h:L.In N w)(hk:KP N B F w w')(hN:N<=w.heap.size):L.In N w' :=
  ⟨h.ml.keep fun b hlt=>hk.low hlt (by omega),h.vl.keep fun b hlt=>hk.low hlt (by omega),h.cap,h.top,h.dap,h.dop,fun p hp=>(fun _=>trivial) hp,fun p hp=>(h.vk p hp).keep fun b hlt=>hk.low hlt (by omega)⟩
theorem mixAS{x:Str×Vl}{l1 l2:List (Str×Vl)}(h:jfu jjh (x :: l1) l2<0):mix jjh vlZ (x :: l1) l2=(x.1,x.2,vlZ) :: mix jjh vlZ l1 l2:=by
 cases l2 with
 | nil=>exact jtc _ _ _ _
 | cons y l2=>exact jk8 _ _ _ _ h
theorem mixBS{y:Str×Vl}{l1 l2:List (Str×Vl)}(h:0<jfu jjh l1 (y :: l2)):mix jjh vlZ l1 (y :: l2)=(y.1,vlZ,y.2) :: mix jjh vlZ l1 l2:=by
 cases l1 with
 | nil=>exact jcj _ _ _ _
 | cons x l1=>exact jk9 _ _ _ _ h
structure AtS (w W:World) (N Pa Pb:Nat) (zs:List (Str×Vl×Vl)) (k:Nat) (F:Nat->Prop) (L K:LnS) (J:Nat->(Nat->Prop)->World->Prop) (wr:World):Prop where
  ba:Blk wr Pa 130 #[.slice L.A L.l.length L.c,.slice L.B L.l.length L.d]
  bb:Blk wr Pb 130 #[.slice K.A K.l.length K.c,.slice K.B K.l.length K.d]
  il:L.In N wr
  ik:K.In N wr
  dr:zs.drop k=mix jjh vlZ L.l K.l
  kl:k<=zs.length
  jk:J k F wr
  na:¬ F Pa
  nb:¬ F Pb
  sz:W.heap.size<=wr.heap.size
def jpy(wr:World)(P:Nat):Nat:=match wr.cell? ⟨P,0,none⟩ with | some (.slice _ n _)=>n | _=>0
theorem AtS.lens{w W:World}{N Pa Pb:Nat}{zs:List (Str×Vl×Vl)}{k:Nat}{F:Nat->Prop}{L K:LnS}{J:Nat->(Nat->Prop)->World->Prop}{wr:World}(h:AtS w W N Pa Pb zs k F L K J wr):jpy wr Pa=L.l.length/\jpy wr Pb=K.l.length:=by
 unfold jpy;rw[jza h.ba 0 _ rfl,jza h.bb 0 _ rfl];exact⟨rfl,rfl⟩
theorem jc4(Bl Bo Bf:Nat)(L K:LnS)(N:Nat)(w:World)(hL:L.In N w)(hK:K.In N w)(hN:N<=w.heap.size)(hl:Blk w Bl 130 #[.slice L.A L.l.length L.c,.slice L.B L.l.length L.d])(ho:Blk w Bo 130 #[.slice K.A K.l.length K.c,.slice K.B K.l.length K.d])(hf:Blk w Bf 132 #[.func (.func 76) #[] #[]])(hfN:Bf<N):jrz Tryz.prog 118 #[.pointer (some ⟨Bl,0,none⟩),.pointer (some ⟨Bo,0,none⟩),.pointer (some ⟨Bf,0,none⟩)] jcw N (mix jjh vlZ L.l K.l) w:=by
 intro l J Jx W hW hJ eJ hY h0;have jK:=leT hN hW.size;have hL:=hL.keep (hW.mono hN);have hK:=hK.keep (hW.mono hN);have hl:=hl.below hW;have ho:=ho.below hW;have hf:=hf.below hW;have wo:W.cell? ⟨Bf,0,none⟩=some (.func (.func 76) #[] #[]):=jza hf 0 _ rfl;obtain⟨zs,fS⟩:=exq (mix jjh vlZ L.l K.l);rw[fS] at hY ⊢;have HJ:=Lh hJ;have lF:=Lh eJ;have HY:=Lh hY;have HL:=Lh hL;have HK:=Lh hK;have HZ:=Lh fS;have H0:=Lh h0;have HFB:Hid (∀ W':World,(∀ b,b<N->W'.heap[b]?=W.heap[b]?)->W'.cell? ⟨Bf,0,none⟩=some (.func (.func 76) #[] #[])):=fun W' hb=>(World.cell?_of_block (a:=⟨Bf,0,none⟩) (hb Bf hfN)).trans wo
 clear hJ eJ hY hL hK fS h0 hf hW;obtain⟨A,c,B,d,l1⟩:=L;obtain⟨A',c',B',d',l2⟩:=K;obtain⟨gl,fU⟩:=blk2c hl;obtain⟨ry,d6⟩:=blk2c ho;have hBl:=hl.lt;have hBo:=ho.lt;clear hl ho;refine (callsIn_wide (n:=6)).1 (callsIn_of_wp Tryz.func118 rfl trivial ?_ rfl);simp only[Tryz.ntmps118,List.size_toArray,List.length_cons,List.length_nil,Nat.reduceAdd,Nat.reduceSub,Array.replicate_succ,Array.replicate_zero,List.push_toArray,List.append_toArray,List.nil_append,List.cons_append];have fj:Tryz.prog.follows .mixedOrders=true:=by kernel_rfl
 gi_wp2_with fail
 gi_cut [5,6] from 9 (fun p q wc=>∃ Pa Pb,p = .pointer (some ⟨Pa,0,none⟩)/\q = .pointer (some ⟨Pb,0,none⟩)/\Pa≠Pb/\W.heap.size<=Pa/\W.heap.size<=Pb/\Below W.heap.size W wc/\Blk wc Pa 130 #[.slice A l1.length c,.slice B l1.length d]/\Blk wc Pb 130 #[.slice A' l2.length c',.slice B' l2.length d'])
 case first=>(
 gi_region_o
 all_goals
   gi_wp2_with fail
   gi_meet
   case rel =>
     refine⟨_,_,rfl,rfl,?_,?_,?_,?_,?_,?_⟩
     · simp
     · simp
     · simp
     · exact ((jzf _ _).trans ((jzf _ _).mono (by simp))).drew
     · first
         | exact (Blk.below (Blk.new _ _ _) (jzf _ _)).drew
         | exact (show Blk _ _ _ _ from by have:=Blk.new (W.alloc (.cells #[.slice A l1.length c,.slice B l1.length d] 130)) 130 #[.slice A' l2.length c',.slice B' l2.length d'];rw[World.size_alloc] at this;exact this)
         | exact (show Blk _ _ _ _ from by have:=Blk.new (W.alloc (.cells #[.slice A' l2.length c',.slice B' l2.length d'] 130)) 130 #[.slice A l1.length c,.slice B l1.length d];rw[World.size_alloc] at this;exact this)
     · first
         | exact (Blk.below (Blk.new _ _ _) (jzf _ _)).drew
         | exact (show Blk _ _ _ _ from by have:=Blk.new (W.alloc (.cells #[.slice A l1.length c,.slice B l1.length d] 130)) 130 #[.slice A' l2.length c',.slice B' l2.length d'];rw[World.size_alloc] at this;exact this)
         | exact (show Blk _ _ _ _ from by have:=Blk.new (W.alloc (.cells #[.slice A' l2.length c',.slice B' l2.length d'] 130)) 130 #[.slice A l1.length c,.slice B l1.length d];rw[World.size_alloc] at this;exact this))
 case rest=>(
 obtain⟨Pa,Pb,rfl,rfl,wG,sN,sM,fd,ni,nh⟩:=hcut;clear gl fU ry d6 hBl hBo wo;have HS:Hid (AtS w W N Pa Pb zs 0 (fun _=>False) ⟨A,c,B,d,l1⟩ ⟨A',c',B',d',l2⟩ J wc):=⟨ni,nh,HL.out.keep (fd.mono jK),HK.out.keep (fd.mono jK),by rw[List.drop_zero];exact HZ.out.symm,Nat.zero_le _,HJ.out _ _ _ _ H0.out (KJ.of_below fd (Nat.le_refl _)),id,id,fd.size⟩;have fE:Hid (∀ b,b<N->wc.heap[b]?=W.heap[b]?):=fun b hb=>fd.block b (ltl hb jK)
 clear ni nh fd HL HK HZ H0;gi_wp2_with fail
 gi_loopw [] (fun wr=>∃ k F L K,AtS w W N Pa Pb zs k F L K J wr/\∀ b,b<N->wr.heap[b]?=W.heap[b]?) (fun wr=>jpy wr Pa+jpy wr Pb)
 case atStart=>exact⟨0,_,_,_,HS.out,fE.out⟩
 case round=>(
 obtain⟨k,F,⟨A1,c1,B1,d1,r1⟩,⟨A2,c2,B2,d2,r2⟩,eR,wF⟩:=hrel;clear HS fE;have xe:=Lh eR.lens;have lS:=eR.ba;have cD:=eR.bb;have HIL:=Lh eR.il;have HIK:=Lh eR.ik;have xu:=Lh eR.dr;have xi:=Lh eR.jk;have j4:=eR.na;have j3:=eR.nb;have mu:=Lh eR.kl;have ns:=eR.sz;have yf:=Lh wF;have lW:N<=wr.heap.size:=leT jK ns;dsimp only at lS cD
 clear eR wF;obtain⟨n1,eo⟩:=exq (r1.length);obtain⟨n2,ji⟩:=exq (r2.length);have la:=Lh eo;have tc:=Lh ji;rw[eo] at lS;rw[ji] at cD;have wa0:wr.cell? ⟨Pa,0,none⟩=some (.slice A1 n1 c1):=jza lS 0 _ rfl;have wb0:wr.cell? ⟨Pb,0,none⟩=some (.slice A2 n2 c2):=jza cD 0 _ rfl;by_cases iO:n1=0/\n2=0
 ·(
 obtain⟨rfl,rfl⟩:=iO;clear eo ji;gi_wp2_with fail
 go_end0
 have e1:=List.eq_nil_of_length_eq_zero la.out;have e2:=List.eq_nil_of_length_eq_zero tc.out;have:=xu.out;rw[e1,e2,jdw,List.drop_eq_nil_iff] at this;have hk:k=zs.length:=by have:=mu.out;omega
 exact⟨⟨_,rfl⟩,.inl ⟨F,hk▸xi.out⟩⟩)
 ·(
 have cQ:Hid (r1≠[]\/r2≠[]):=by (
 show _\/_
 rcases Nat.eq_zero_or_pos n1 with h | h
 ·exact .inr fun e=>iO ⟨h,by rw[<- ji,e];rfl⟩
 ·exact .inl fun e=>by rw[e] at eo;simp at eo;omega)
 obtain⟨q,hq⟩:=exq (jfu jjh r1 r2);have lf:Hid (∀ W',(LnS.mk A1 c1 B1 d1 r1).In N W'->(LnS.mk A2 c2 B2 d2 r2).In N W'->N<=W'.heap.size->Calls Tryz.prog 119 #[.slice A1 n1 c1,.slice A2 n2 c2,.func (.func 76) #[] #[]] W' (jz6 W' (.int .i64 q))):=by (
 intro W' h1 h2 h3;have:=jo4 _ _ N W' h1 h2 h3;dsimp only at this
 rw[eo,ji,hq] at this;exact this)
 have HQ:=Lh hq;clear hq eo ji;obtain⟨V1,jJ⟩:=exq (wr.alloc (.cells #[.string { data:=#[] },.int .u64 0,.int .u64 0,.slice none 0 0,.slice none 0 0,.slice none 0 0,.int .u64 0,.int .u64 0,.slice none 0 0,.slice none 0 0,.slice none 0 0] 176));have af:Below wr.heap.size wr V1:=by rw[<- jJ];exact jzf _ _
 have cK:Blk V1 wr.heap.size 176 #[.string { data:=#[] },.int .u64 0,.int .u64 0,.slice none 0 0,.slice none 0 0,.slice none 0 0,.int .u64 0,.int .u64 0,.slice none 0 0,.slice none 0 0,.slice none 0 0]:=by rw[<- jJ];exact Blk.new _ _ _
 have cf:=HFB.out V1 (fun b hb=>(af.block b (ltl hb lW)).trans (yf.out b hb));have fr:=lS.below af;have eD:=cD.below af;have ca0:V1.cell? ⟨Pa,0,none⟩=some (.slice A1 n1 c1):=jza fr 0 _ rfl;have cb0:V1.cell? ⟨Pb,0,none⟩=some (.slice A2 n2 c2):=jza eD 0 _ rfl;have iH:=Lh (HIL.out.keep (af.mono lW));have jc:=Lh (HIK.out.keep (af.mono lW));have fw:N<=V1.heap.size:=leT lW af.size;have ig:wr.heap.size≠Pa:=by have:=lS.lt;omega
 have cu:wr.heap.size≠Pb:=by have:=cD.lt;omega
 have hg:decide (0<n1)=true\/(decide (0<n1)=false/\decide (0<n2)=true):=by (
 rcases Nat.eq_zero_or_pos n1 with h | h
 ·exact .inr ⟨decide_eq_false (by omega),decide_eq_true (Nat.pos_of_ne_zero fun h2=>iO ⟨h,h2⟩)⟩
 ·exact .inl (decide_eq_true h))
 clear iO;rcases hg with hz | ⟨hz,db⟩
 all_goals
   gi_upto_region 3 with fail
   gi_wp2_with fail
   first
     | refine⟨trivial,fun h=>absurd h (by simp[Fence.wide]),(callsIn_wide.2 (lf.out V1 iH.out jc.out fw)).mono ?_⟩
     | refine⟨trivial,(callsIn_wide.2 (lf.out V1 iH.out jc.out fw)).mono ?_⟩
   rintro e W1 ⟨rfl,ab⟩
   replace cK:=cK.below ab
   replace fr:=fr.below ab
   replace eD:=eD.below ab
   replace iH:=Lh (iH.out.keep (ab.mono fw))
   replace jc:=Lh (jc.out.keep (ab.mono fw))
   have gD:=Lh (af.trans (ab.mono af.size))
   replace fw:N<=W1.heap.size:=leT fw ab.size
   clear cf ca0 cb0 wa0 wb0 af ab jJ lf
   clear V1
   gi_upto_if 28 with fail
   gi_cut [] from 27 (fun wx=>∃ (A3 B3:Option Addr) (c3 d3:Nat) (r3:List (Str×Vl)) (u:Value) (an aM:Int) (aK:Option Addr) (aL:Nat) (aN:List Str) (aO:Option Addr) (aP:Nat) (aQ:List Ck) (aR:Option Addr) (aS:Nat) (aT:List Vl),Blk wx wr.heap.size 176 #[u,.int .u64 an,.int .u64 aM,.slice aK aN.length aL,.slice aO aQ.length aP,.slice aR aT.length aS,.int .u64 0,.int .u64 0,.slice none 0 0,.slice none 0 0,.slice none 0 0]/\Blk wx Pa 130 #[.slice A3 r3.length c3,.slice B3 r3.length d3]/\Blk wx Pb 130 #[.slice A2 n2 c2,.slice B2 n2 d2]/\(LnS.mk A3 c3 B3 d3 r3).In N wx/\(LnS.mk A2 c2 B2 d2 r2).In N wx/\KJ W.heap.size F wr wx/\wr.heap.size<wx.heap.size/\Hid ((q<=0/\∃ m,u=jyh m/\r1=(m,Vl.mk an aM aK aL aN aO aP aQ aR aS aT) :: r3)\/(0<q/\r3=r1/\Vl.mk an aM aK aL aN aO aP aQ aR aS aT=vlZ)))
   case first =>
     obtain⟨bq,dg⟩:=exq (decide (q<=0))
     simp only[dg]
     cases bq with
     | true =>
       have iz:=Lh (of_decide_eq_true dg)
       clear dg
       obtain⟨x,r3,gi⟩:=low_le (by rw[HQ.out];exact iz.out) cQ.out
       have HR1:=Lh gi
       have nB:Hid (∀ W',(LnS.mk A1 c1 B1 d1 r1).In N W'->N<=W'.heap.size->Calls Tryz.prog 120 #[.agg #[.slice A1 n1 c1,.slice B1 n1 d1]] W' (jt2 N c1 d1 x r3 W')):=by
         intro W' h1 h2
         rw[gi] at h1
         have:=jfi A1 B1 c1 d1 x r3 N W' h1 h2
         rw[<- gi,la.out] at this
         exact this
       clear gi
       obtain⟨q0,q1⟩:=blk2c fr
       gi_wp2_with fail
       first
         | refine⟨trivial,fun h=>absurd h (by simp[Fence.wide]),(callsIn_wide.2 (nB.out W1 iH.out fw)).mono ?_⟩
         | refine⟨trivial,(callsIn_wide.2 (nB.out W1 iH.out fw)).mono ?_⟩
       rintro e W2 ⟨A3,B3,rfl,jL,de⟩
       obtain⟨xm,xn,xM,xK,xL,xN,xO,xP,xQ,xR,xS,xU⟩:=x
       simp only[jzh,jyh]
       have iA:=Lh jL
       have eT:=Lh (gD.out.trans (de.mono gD.out.size))
       replace cK:=cK.below de
       replace fr:=fr.below de
       replace eD:=eD.below de
       replace jc:=Lh (jc.out.keep (de.mono fw))
       have dy:=cK.lt
       clear q0 q1 de jL
       obtain⟨p0,p1,p2,p3,p4⟩:=blk5 cK
       have p5:W2.cell? ⟨wr.heap.size,5,none⟩=some (.slice none 0 0):=jza cK 5 _ rfl
       have p6:W2.cell? ⟨wr.heap.size,6,none⟩=some (.int .u64 0):=jza cK 6 _ rfl
       have p7:W2.cell? ⟨wr.heap.size,7,none⟩=some (.int .u64 0):=jza cK 7 _ rfl
       have p8:W2.cell? ⟨wr.heap.size,8,none⟩=some (.slice none 0 0):=jza cK 8 _ rfl
       have p9:W2.cell? ⟨wr.heap.size,9,none⟩=some (.slice none 0 0):=jza cK 9 _ rfl
       have p10:W2.cell? ⟨wr.heap.size,10,none⟩=some (.slice none 0 0):=jza cK 10 _ rfl
       have f0:W2.frozen? ⟨wr.heap.size,0,none⟩=false:=jzb cK 0
       have f1:W2.frozen? ⟨wr.heap.size,1,none⟩=false:=jzb cK 1
       have f2:W2.frozen? ⟨wr.heap.size,2,none⟩=false:=jzb cK 2
       have f3:W2.frozen? ⟨wr.heap.size,3,none⟩=false:=jzb cK 3
       have f4:W2.frozen? ⟨wr.heap.size,4,none⟩=false:=jzb cK 4
       have f5:W2.frozen? ⟨wr.heap.size,5,none⟩=false:=jzb cK 5
       have f6:W2.frozen? ⟨wr.heap.size,6,none⟩=false:=jzb cK 6
       have f7:W2.frozen? ⟨wr.heap.size,7,none⟩=false:=jzb cK 7
       have f8:W2.frozen? ⟨wr.heap.size,8,none⟩=false:=jzb cK 8
       have f9:W2.frozen? ⟨wr.heap.size,9,none⟩=false:=jzb cK 9
       have f10:W2.frozen? ⟨wr.heap.size,10,none⟩=false:=jzb cK 10
       obtain⟨q0,q1⟩:=blk2c fr
       have g0:W2.frozen? ⟨Pa,0,none⟩=false:=jzb fr 0
       have g1:W2.frozen? ⟨Pa,1,none⟩=false:=jzb fr 1
       gi_wp2_with fail
       gi_meet
       case rel =>
         have kB:Below N W2 (jgg W2 wr.heap.size Pa (.string (S xm)) (.int .u64 xn) (.int .u64 xM) (.slice xK xN.length xL) (.slice xO xQ.length xP) (.slice xR xU.length xS) (.slice A3 r3.length (c1 - 1)) (.slice B3 r3.length (d1 - 1))):=jfg (Below.refl _ _) lW (leT jK sN)
         exact⟨A3,B3,c1 - 1,d1 - 1,r3,_,xn,xM,xK,xL,xN,xO,xP,xQ,xR,xS,xU,jlx cK ig,jlw fr ig,jlv eD cu.symm wG.symm,iA.out.keep kB,jc.out.keep kB,jux (KJ.of_below eT.out ns) (Nat.le_refl _) ns sN j4,by simpa using dy,.inl ⟨iz.out,xm,rfl,HR1.out⟩⟩
     | false =>
       have iz:=Lh (show 0<q by have:=of_decide_eq_false dg;omega)
       clear dg
       gi_wp2_with fail
       gi_meet
       case rel=>exact⟨A1,B1,c1,d1,r1,_,0,0,none,0,[],none,0,[],none,0,[],cK,by rw[la.out];exact fr,eD,iH.out,jc.out,KJ.of_below gD.out ns,cK.lt,.inr ⟨iz.out,rfl,rfl⟩⟩
   case rest =>
     obtain⟨A3,B3,c3,d3,r3,u,an,aM,aK,aL,aN,aO,aP,aQ,aR,aS,aT,cW,np,dt,jL,fX,lX,sK,H1⟩:=hcut
     have iA:=Lh jL
     have mb:=Lh fX
     have tg:=Lh lX
     have jn:N<=wc.heap.size:=by omega
     clear cK fr eD iH jc gD fw jL fX lX
     gi_upto_if 38 with fail
     gi_cut [] from 37 (fun wx=>∃ (A3 B3 A4 B4:Option Addr) (c3 d3 c4 d4:Nat) (r3 r4:List (Str×Vl)) (u:Value) (an aM:Int) (aK:Option Addr) (aL:Nat) (aN:List Str) (aO:Option Addr) (aP:Nat) (aQ:List Ck) (aR:Option Addr) (aS:Nat) (aT:List Vl) (bn bM:Int) (bK:Option Addr) (bL:Nat) (bN:List Str) (bP:Option Addr) (bQ:Nat) (bS:List Ck) (bT:Option Addr) (bU:Nat) (bW:List Vl),Blk wx wr.heap.size 176 #[u,.int .u64 an,.int .u64 aM,.slice aK aN.length aL,.slice aO aQ.length aP,.slice aR aT.length aS,.int .u64 bn,.int .u64 bM,.slice bK bN.length bL,.slice bP bS.length bQ,.slice bT bW.length bU]/\Blk wx Pa 130 #[.slice A3 r3.length c3,.slice B3 r3.length d3]/\Blk wx Pb 130 #[.slice A4 r4.length c4,.slice B4 r4.length d4]/\(LnS.mk A3 c3 B3 d3 r3).In N wx/\(LnS.mk A4 c4 B4 d4 r4).In N wx/\KJ W.heap.size F wr wx/\wr.heap.size<wx.heap.size/\Hid (∃ m,u=jyh m/\mix jjh vlZ r1 r2=(m,Vl.mk an aM aK aL aN aO aP aQ aR aS aT,Vl.mk bn bM bK bL bN bP bQ bS bT bU bW) :: mix jjh vlZ r3 r4/\r3.length+r4.length<r1.length+r2.length))
     case first =>
       obtain⟨bq,dg⟩:=exq (decide (0<=q))
       simp only[dg]
       cases bq with
       | true =>
         have iz:=Lh (of_decide_eq_true dg)
         clear dg
         obtain⟨y,r4,fK⟩:=low_ge (c:=jjh) (r1:=r1) (r2:=r2) (by rw[HQ.out];exact iz.out)
         have a8:=Lh fK
         have nB:Hid (∀ W',(LnS.mk A2 c2 B2 d2 r2).In N W'->N<=W'.heap.size->Calls Tryz.prog 120 #[.agg #[.slice A2 n2 c2,.slice B2 n2 d2]] W' (jt2 N c2 d2 y r4 W')):=by
           intro W' h1 h2
           rw[fK] at h1
           have:=jfi A2 B2 c2 d2 y r4 N W' h1 h2
           rw[<- fK,tc.out] at this
           exact this
         clear fK
         obtain⟨q0,q1⟩:=blk2c dt
         gi_wp2_with fail
         first
           | refine⟨trivial,fun h=>absurd h (by simp[Fence.wide]),(callsIn_wide.2 (nB.out wc mb.out jn)).mono ?_⟩
           | refine⟨trivial,(callsIn_wide.2 (nB.out wc mb.out jn)).mono ?_⟩
         rintro e W2 ⟨A4,B4,rfl,nu,de⟩
         obtain⟨ym,yn,yM,yK,yL,yN,yO,yP,yQ,yR,yS,yT⟩:=y
         simp only[jzh,jyh]
         have ti:=Lh nu
         have tf:=Lh (tg.out.later de (by omega))
         replace cW:=cW.below de
         replace np:=np.below de
         replace dt:=dt.below de
         replace iA:=Lh (iA.out.keep (de.mono jn))
         have dy:=cW.lt
         clear q0 q1 de nu
         obtain⟨p0,p1,p2,p3,p4⟩:=blk5 cW
         have p5:W2.cell? ⟨wr.heap.size,5,none⟩=some (.slice aR aT.length aS):=jza cW 5 _ rfl
         have p6:W2.cell? ⟨wr.heap.size,6,none⟩=some (.int .u64 0):=jza cW 6 _ rfl
         have p7:W2.cell? ⟨wr.heap.size,7,none⟩=some (.int .u64 0):=jza cW 7 _ rfl
         have p8:W2.cell? ⟨wr.heap.size,8,none⟩=some (.slice none 0 0):=jza cW 8 _ rfl
         have p9:W2.cell? ⟨wr.heap.size,9,none⟩=some (.slice none 0 0):=jza cW 9 _ rfl
         have p10:W2.cell? ⟨wr.heap.size,10,none⟩=some (.slice none 0 0):=jza cW 10 _ rfl
         have f0:W2.frozen? ⟨wr.heap.size,0,none⟩=false:=jzb cW 0
         have f1:W2.frozen? ⟨wr.heap.size,1,none⟩=false:=jzb cW 1
         have f2:W2.frozen? ⟨wr.heap.size,2,none⟩=false:=jzb cW 2
         have f3:W2.frozen? ⟨wr.heap.size,3,none⟩=false:=jzb cW 3
         have f4:W2.frozen? ⟨wr.heap.size,4,none⟩=false:=jzb cW 4
         have f5:W2.frozen? ⟨wr.heap.size,5,none⟩=false:=jzb cW 5
         have f6:W2.frozen? ⟨wr.heap.size,6,none⟩=false:=jzb cW 6
         have f7:W2.frozen? ⟨wr.heap.size,7,none⟩=false:=jzb cW 7
         have f8:W2.frozen? ⟨wr.heap.size,8,none⟩=false:=jzb cW 8
         have f9:W2.frozen? ⟨wr.heap.size,9,none⟩=false:=jzb cW 9
         have f10:W2.frozen? ⟨wr.heap.size,10,none⟩=false:=jzb cW 10
         obtain⟨q0,q1⟩:=blk2c dt
         have g0:W2.frozen? ⟨Pb,0,none⟩=false:=jzb dt 0
         have g1:W2.frozen? ⟨Pb,1,none⟩=false:=jzb dt 1
         gi_wp2_with fail
         gi_meet
         case rel =>
           have kB:Below N W2 (jgf W2 wr.heap.size Pb (.string (S ym)) (.int .u64 yn) (.int .u64 yM) (.slice yK yN.length yL) (.slice yO yQ.length yP) (.slice yR yT.length yS) (.slice A4 r4.length (c2 - 1)) (.slice B4 r4.length (d2 - 1))):=jff (Below.refl _ _) lW (leT jK sM)
           refine⟨A3,B3,A4,B4,c3,d3,c2 - 1,d2 - 1,r3,r4,_,an,aM,aK,aL,aN,aO,aP,aQ,aR,aS,aT,yn,yM,yK,yL,yN,yO,yP,yQ,yR,yS,yT,jlu cW cu,jls np ig.symm wG,jlt dt cu,iA.out.keep kB,ti.out.keep kB,juw tf.out (Nat.le_refl _) ns sM j3,by simpa using dy,ym,rfl,?_,?_⟩
           rotate_left
           · have h2:=congrArg List.length a8.out
             simp only[List.length_cons] at h2
             rcases H1.out with ⟨_,m,_,h3⟩ | ⟨_,h3,_⟩
             · have h4:=congrArg List.length h3
               simp only[List.length_cons] at h4
               omega
             · rw[h3];omega
           rw[a8.out]
           rcases H1.out with ⟨h1,m,_,h3⟩ | ⟨h1,h2,h3⟩
           · rw[h3]
             refine jva _ _ _ _ ?_
             have:=HQ.out
             rw[h3,a8.out,jfu] at this
             have:=iz.out
             dsimp only at *
             omega
           · rw[h2,h3]
             exact mixBS (by rw[<- a8.out,HQ.out];exact h1)
       | false =>
         have iz:=Lh (show q<0 by have:=of_decide_eq_false dg;omega)
         clear dg
         gi_wp2_with fail
         gi_meet
         case rel =>
           rcases H1.out with ⟨h1,m,h2,h3⟩ | ⟨h1,_⟩
           · refine⟨A3,B3,A2,B2,c3,d3,c2,d2,r3,r2,u,an,aM,aK,aL,aN,aO,aP,aQ,aR,aS,aT,0,0,none,0,[],none,0,[],none,0,[],cW,np,by rw[tc.out];exact dt,iA.out,mb.out,tg.out,sK,m,h2,?_,?_⟩
             rotate_left
             · have h4:=congrArg List.length h3
               simp only[List.length_cons] at h4
               omega
             rw[h3]
             exact mixAS (by rw[<- h3,HQ.out];exact iz.out)
           · exact absurd iz.out (by omega)
     case rest =>
       clear cW np dt iA mb tg sK H1 jn
       obtain⟨A3,B3,A4,B4,c3,d3,c4,d4,r3,r4,u,an,aM,aK,aL,aN,aO,aP,aQ,aR,aS,aT,bn,bM,bK,bL,bN,bP,bQ,bS,bT,bU,bW,gA,wH,ng,jL,nu,lX,sK,m,uC,j6,aq⟩:=hcut
       have HL5:=Lh aq
       obtain⟨jC,fC,cG⟩:=jcx (xu.out.trans j6)
       obtain⟨fn,tmps,assign,body,hy,hR⟩:=jqh (m':=5) (HY.out k F _ wc jC (HJ.out _ _ _ _ xi.out lX) (by omega))
       unfold jcw jx4 at hy
       simp only[V4.Vl.n,V4.Vl.m,V4.Vl.s1,V4.Vl.c1,V4.Vl.v1,<- uC] at hy
       have fN:=hR.mono fun e W' h=>jwf h
       have iA:=Lh jL
       have ti:=Lh nu
       have ja:=Lh j6
       have mb:=Lh fC
       have xh:=Lh cG
       have sO:N<=wc.heap.size:=by omega
       have HBc:Hid (∀ b,b<N->wc.heap[b]?=W.heap[b]?):=fun b hb=>(lX.bel.block b (ltl hb jK)).trans (yf.out b hb)
       clear hR jC jL nu j6 fC cG uC lX aq
       obtain⟨p0,p1,p2,p3,p4⟩:=blk5 gA
       have p5:wc.cell? ⟨wr.heap.size,5,none⟩=some (.slice aR aT.length aS):=jza gA 5 _ rfl
       have p6:wc.cell? ⟨wr.heap.size,6,none⟩=some (.int .u64 bn):=jza gA 6 _ rfl
       have p7:wc.cell? ⟨wr.heap.size,7,none⟩=some (.int .u64 bM):=jza gA 7 _ rfl
       have p8:wc.cell? ⟨wr.heap.size,8,none⟩=some (.slice bK bN.length bL):=jza gA 8 _ rfl
       have p9:wc.cell? ⟨wr.heap.size,9,none⟩=some (.slice bP bS.length bQ):=jza gA 9 _ rfl
       have p10:wc.cell? ⟨wr.heap.size,10,none⟩=some (.slice bT bW.length bU):=jza gA 10 _ rfl
       gi_wp2_with fail
       refine fN.mono ?_
       clear hy fN p0 p1 p2 p3 p4 p5 p6 p7 p8 p9 p10
       rintro e W5 ⟨r,rfl,hr⟩
       cases r with
       | true =>
         obtain⟨F',nV,fJ,dD⟩:=hr
         have mM:¬ F' Pa:=fun h=>by
           rcases nV _ h with h | h
           · exact j4 h
           · have:=wH.lt;omega
         have mL:¬ F' Pb:=fun h=>by
           rcases nV _ h with h | h
           · exact j3 h
           · have:=ng.lt;omega
         have HA:Hid (AtS w W N Pa Pb zs (k+1) F' ⟨A3,c3,B3,d3,r3⟩ ⟨A4,c4,B4,d4,r4⟩ J W5):=⟨wH.kp dD sN j4,ng.kp dD sM j3,iA.out.kp dD sO,ti.out.kp dD sO,mb.out,xh.out,fJ,mM,mL,leT (by omega) dD.size⟩
         have HB5:Hid (∀ b,b<N->W5.heap[b]?=wc.heap[b]?):=fun b hb=>dD.low hb (ltl hb sO)
         gi_wp2_with fail
         go_roundw
         case rel=>exact⟨k+1,_,_,_,HA.out,fun b hb=>(HB5.out b hb).trans (HBc.out b hb)⟩
         case measure=>rw[HA.out.lens.1,HA.out.lens.2,xe.out.1,xe.out.2];exact HL5.out
       | false =>
         gi_wp2_with fail
         refine bodyPost_ret (results_none rfl _ _ _) rfl ?_
         exact⟨⟨_,rfl⟩,.inr ⟨k,by have:=xh.out;omega,hr.1⟩⟩)))
theorem OkS.up{N N':Nat}{w:World}{x:Str}(h:OkS N w x)(hN:N<=N'):OkS N' w x:=(fun _ _=>trivial) h hN
theorem LnS.In.up{N N':Nat}{w:World}{L:LnS}(h:L.In N w)(hN:N<=N'):L.In N' w :=
  ⟨h.ml.mono fun _ hb=>ltl hb hN,h.vl.mono fun _ hb=>ltl hb hN,h.cap,h.top,h.dap,h.dop,fun p hp=>(h.mo p hp).up hN,fun p hp=>(h.vk p hp).mono fun _ hb=>ltl hb hN⟩
def jil(zs:List (Str×Vl×Vl))(w:World)(e:Ending)(w':World):Prop :=
  ∃ b1 b2 b3,e = .returned (.func (.func 118) #[] #[.pointer (some ⟨b1,0,none⟩),.pointer (some ⟨b2,0,none⟩),.pointer (some ⟨b3,0,none⟩)])/\Below w.heap.size w w' /\
    ∀ N w2,Below w'.heap.size w' w2->w'.heap.size<=N->N<=w2.heap.size->jrz Tryz.prog 118 #[.pointer (some ⟨b1,0,none⟩),.pointer (some ⟨b2,0,none⟩),.pointer (some ⟨b3,0,none⟩)] jcw N zs w2
theorem jlk(L K:LnS)(w:World)(hL:L.In w.heap.size w)(hK:K.In w.heap.size w):Calls Tryz.prog 75 #[L.val,K.val,.func (.func 76) #[] #[]] w (jil (mix jjh vlZ L.l K.l) w):=by
 obtain⟨V,hV⟩:=exq (((w.alloc (.cells #[.slice L.A L.l.length L.c,.slice L.B L.l.length L.d] 130)).alloc (.cells #[.slice K.A K.l.length K.c,.slice K.B K.l.length K.d] 130)).alloc (.cells #[.func (.func 76) #[] #[]] 132));have hb:Below w.heap.size w V:=by rw[<- hV];exact jzk (jzk (jzk (Below.refl _ _)))
 have h1:Blk V w.heap.size 130 #[.slice L.A L.l.length L.c,.slice L.B L.l.length L.d]:=by rw[<- hV];exact ((Blk.new w _ _).below (jzf _ _)).below (jzf _ _)
 have h2:Blk V (w.heap.size+1) 130 #[.slice K.A K.l.length K.c,.slice K.B K.l.length K.d]:=by (rw[<- hV];have:=Blk.new (w.alloc (.cells #[.slice L.A L.l.length L.c,.slice L.B L.l.length L.d] 130)) 130 #[.slice K.A K.l.length K.c,.slice K.B K.l.length K.d];rw[World.size_alloc] at this;exact this.below (jzf _ _))
 have h3:Blk V (w.heap.size+1+1) 132 #[.func (.func 76) #[] #[]]:=by (rw[<- hV];have:=Blk.new ((w.alloc (.cells #[.slice L.A L.l.length L.c,.slice L.B L.l.length L.d] 130)).alloc (.cells #[.slice K.A K.l.length K.c,.slice K.B K.l.length K.d] 130)) 132 #[.func (.func 76) #[] #[]];rw[World.size_alloc,World.size_alloc] at this;exact this)
 have HG:Hid (jil (mix jjh vlZ L.l K.l) w (.returned (.func (.func 118) #[] #[.pointer (some ⟨w.heap.size,0,none⟩),.pointer (some ⟨w.heap.size+1,0,none⟩),.pointer (some ⟨w.heap.size+1+1,0,none⟩)])) V):=by (refine⟨_,_,_,rfl,hb,fun N w2 ab fw jn=>?_⟩;have ar:Below w.heap.size w w2:=hb.trans (ab.mono hb.size);have wJ:w.heap.size<=N:=leT hb.size fw;exact jc4 _ _ _ L K N w2 ((hL.keep ar).up wJ) ((hK.keep ar).up wJ) jn (h1.below ab) (h2.below ab) (h3.below ab) (ltl h3.lt fw))
 rw[<- hV] at HG;clear hL hK h1 h2 h3 hb hV V;unfold LnS.val;go_enter Tryz.func75,Tryz.ntmps75;go_wp2_with fail;go_ret;exact HG.out
end J5
end Go.Proofs.YtobggoephhjofaaGreatDoor
