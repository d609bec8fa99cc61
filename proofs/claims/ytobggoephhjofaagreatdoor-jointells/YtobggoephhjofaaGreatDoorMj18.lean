/- A part. No condition. -/
import Derived.Test.YtobggoephhjofaaGreatDoorMj17
import Derived.Sort.CutIn
set_option maxRecDepth 100000
set_option maxHeartbeats 16000000
namespace Go.Proofs.YtobggoephhjofaaGreatDoor
namespace J5
open Go.RowKit Go.Shelf
open C3 (Tk In jzj jzf)
open V4 (Va Vl Ck jzr jzk jzh jql jkf)
attribute [local go_sem] Oper.semAt_some
def vlZ:Vl := .mk 0 0 none 0 [] none 0 [] none 0 []
def Blk(W:World)(X:Nat)(t:TypeId)(cs:Array Value):Prop:=W.heap[X]?=some (.cells cs t (0,0))
theorem Blk.lt{W:World}{X:Nat}{t:TypeId}{cs:Array Value}(h:Blk W X t cs):X<W.heap.size:=(Array.getElem?_eq_some_iff.1 h).1
theorem Blk.below{W W':World}{X:Nat}{t:TypeId}{cs:Array Value}(h:Blk W X t cs)(hb:Below W.heap.size W W'):Blk W' X t cs:=(hb.block X h.lt).trans h
theorem Blk.new(W:World)(t:TypeId)(cs:Array Value):Blk (W.alloc (.cells cs t)) W.heap.size t cs:=World.alloc_heap_new W _
theorem Blk.other{W:World}{X b:Nat}{t:TypeId}{cs:Array Value}(h:Blk W X t cs)(hne:X≠b)(i:Nat)(v:Value):Blk (W.setCell ⟨b,i,none⟩ v) X t cs:=(Below.heap_setCell _ _ _ _ (by simpa using hne)).trans h
theorem Blk.set{W:World}{X:Nat}{t:TypeId}{cs:Array Value}(h:Blk W X t cs)(i:Nat)(v:Value):Blk (W.setCell ⟨X,i,none⟩ v) X t (cs.setIfInBounds i v):=by
 obtain⟨hlt,hk⟩:=Array.getElem?_eq_some_iff.1 h;show (W.heap.modify X _)[X]?=_
 rw[Array.getElem?_eq_getElem (by rw[Array.size_modify];exact hlt),Array.getElem_modify_self,hk];rfl
theorem Blk.drew{W:World}{X:Nat}{t:TypeId}{cs:Array Value}(h:Blk W X t cs):Blk W.drew X t cs:=h
theorem low_le{M V:Type}{c:M->M->Int}{r1 r2:List (M×V)}(h:jfm c r1 r2<=0)(hne:r1≠[]\/r2≠[]):∃ x r3,r1=x :: r3:=by
 cases r1 with
 | cons x r=>exact⟨x,r,rfl⟩
 | nil=>(
 cases r2 with
 | nil=>rcases hne with h | h <;> exact absurd rfl h
 | cons y r=>rw[jfm] at h;omega)
theorem low_ge{M V:Type}{c:M->M->Int}{r1 r2:List (M×V)}(h:0<=jfm c r1 r2):∃ y r4,r2=y :: r4:=by
 cases r2 with
 | cons y r=>exact⟨y,r,rfl⟩
 | nil=>(
 have:jfm c r1 [] = -1:=by cases r1 <;> rfl
 omega)
theorem jcr{α:Type}{zs r:List α}{k:Nat}{a:α}(h:zs.drop k=a :: r):zs[k]?=some a/\zs.drop (k+1)=r/\k+1<=zs.length:=by
 have hk:k<zs.length:=by (
 rcases Nat.lt_or_ge k zs.length with h1 | h1
 ·exact h1
 ·rw[List.drop_of_length_le h1] at h;cases h)
 rw[List.drop_eq_getElem_cons hk] at h;injection h with h1 h2
 exact⟨by rw[List.getElem?_eq_getElem hk,h1],h2,hk⟩
theorem KJ.set{B:Nat}{F:Nat->Prop}{W:World}{X i:Nat}{v:Value}(h:¬ F X)(hB:B<=X):KJ B F W (W.setCell ⟨X,i,none⟩ v) :=
  ⟨(Below.refl _ _).setCell hB v,fun b o h1 h2=>(Below.heap_setCell _ _ _ _ (fun e=>h (by simp only at e;rw[<- e];exact h2))).trans h1⟩
def jgb(W:World)(P Q:Nat)(u v0 v1 v2 v3 v4 t0 t1:Value):World:=(((((((W.setCell ⟨P,0,none⟩ u).setCell ⟨P,1,none⟩ v0).setCell ⟨P,2,none⟩ v1).setCell ⟨P,3,none⟩ v2).setCell ⟨P,4,none⟩ v3).setCell ⟨P,5,none⟩ v4).setCell ⟨Q,0,none⟩ t0).setCell ⟨Q,1,none⟩ t1
def jga(W:World)(P Q:Nat)(u v0 v1 v2 v3 v4 t0 t1:Value):World:=(((((((W.setCell ⟨P,0,none⟩ u).setCell ⟨P,6,none⟩ v0).setCell ⟨P,7,none⟩ v1).setCell ⟨P,8,none⟩ v2).setCell ⟨P,9,none⟩ v3).setCell ⟨P,10,none⟩ v4).setCell ⟨Q,0,none⟩ t0).setCell ⟨Q,1,none⟩ t1
section
variable {W wr:World} {P Q R N B:Nat} {u v0 v1 v2 v3 v4 t0 t1:Value} {F:Nat->Prop} {t st lt:TypeId} {cs:Array Value} {z0 z1 z2 z3 z4 z5 z6 z7 z8 z9 z10 p0 p1:Value}
theorem jlm(h:Blk W P st #[z0,z1,z2,z3,z4,z5,z6,z7,z8,z9,z10])(hpq:P≠Q):Blk (jgb W P Q u v0 v1 v2 v3 v4 t0 t1) P st #[u,v0,v1,v2,v3,v4,z6,z7,z8,z9,z10] :=
  (((((((h.set 0 u).set 1 v0).set 2 v1).set 3 v2).set 4 v3).set 5 v4).other hpq 0 t0).other hpq 1 t1
theorem jlj(h:Blk W P st #[z0,z1,z2,z3,z4,z5,z6,z7,z8,z9,z10])(hpq:P≠Q):Blk (jga W P Q u v0 v1 v2 v3 v4 t0 t1) P st #[u,z1,z2,z3,z4,z5,v0,v1,v2,v3,v4] :=
  (((((((h.set 0 u).set 6 v0).set 7 v1).set 8 v2).set 9 v3).set 10 v4).other hpq 0 t0).other hpq 1 t1
theorem jll(h:Blk W Q lt #[p0,p1])(hpq:P≠Q):Blk (jgb W P Q u v0 v1 v2 v3 v4 t0 t1) Q lt #[t0,t1] :=
  (((((((h.other hpq.symm 0 u).other hpq.symm 1 v0).other hpq.symm 2 v1).other hpq.symm 3 v2).other hpq.symm 4 v3).other hpq.symm 5 v4).set 0 t0).set 1 t1
theorem jli(h:Blk W Q lt #[p0,p1])(hpq:P≠Q):Blk (jga W P Q u v0 v1 v2 v3 v4 t0 t1) Q lt #[t0,t1] :=
  (((((((h.other hpq.symm 0 u).other hpq.symm 6 v0).other hpq.symm 7 v1).other hpq.symm 8 v2).other hpq.symm 9 v3).other hpq.symm 10 v4).set 0 t0).set 1 t1
theorem jlk(h:Blk W R t cs)(h1:R≠P)(h2:R≠Q):Blk (jgb W P Q u v0 v1 v2 v3 v4 t0 t1) R t cs :=
  (((((((h.other h1 0 u).other h1 1 v0).other h1 2 v1).other h1 3 v2).other h1 4 v3).other h1 5 v4).other h2 0 t0).other h2 1 t1
theorem jlh(h:Blk W R t cs)(h1:R≠P)(h2:R≠Q):Blk (jga W P Q u v0 v1 v2 v3 v4 t0 t1) R t cs :=
  (((((((h.other h1 0 u).other h1 6 v0).other h1 7 v1).other h1 8 v2).other h1 9 v3).other h1 10 v4).other h2 0 t0).other h2 1 t1
theorem jp7(h:Below N wr W)(h1:N<=P)(h2:N<=Q):Below N wr (jgb W P Q u v0 v1 v2 v3 v4 t0 t1) :=
  (((((((h.setCell h1 u).setCell h1 v0).setCell h1 v1).setCell h1 v2).setCell h1 v3).setCell h1 v4).setCell h2 t0).setCell h2 t1
theorem jp6(h:Below N wr W)(h1:N<=P)(h2:N<=Q):Below N wr (jga W P Q u v0 v1 v2 v3 v4 t0 t1) :=
  (((((((h.setCell h1 u).setCell h1 v0).setCell h1 v1).setCell h1 v2).setCell h1 v3).setCell h1 v4).setCell h2 t0).setCell h2 t1
theorem juq(h:KJ B F wr W)(hP:wr.heap.size<=P)(hB:B<=wr.heap.size)(hQ:B<=Q)(hq:¬ F Q):KJ B F wr (jgb W P Q u v0 v1 v2 v3 v4 t0 t1):=by
 have h6:KJ B F wr ((((((W.setCell ⟨P,0,none⟩ u).setCell ⟨P,1,none⟩ v0).setCell ⟨P,2,none⟩ v1).setCell ⟨P,3,none⟩ v2).setCell ⟨P,4,none⟩ v3).setCell ⟨P,5,none⟩ v4):=by (
 refine⟨(((((h.bel.setCell (by simp only;omega) u).setCell (by simp only;omega) v0).setCell (by simp only;omega) v1).setCell (by simp only;omega) v2).setCell (by simp only;omega) v3).setCell (by simp only;omega) v4,fun b o h1 h2=>?_⟩;have hb:b≠P:=by have:=(Array.getElem?_eq_some_iff.1 h1).1;omega
 iterate 6 rw[Below.heap_setCell _ _ _ _ (by simpa using hb)]
 exact h.same b o h1 h2)
 exact (h6.trans (KJ.set hq hQ)).trans (KJ.set hq hQ)
theorem jup(h:KJ B F wr W)(hP:wr.heap.size<=P)(hB:B<=wr.heap.size)(hQ:B<=Q)(hq:¬ F Q):KJ B F wr (jga W P Q u v0 v1 v2 v3 v4 t0 t1):=by
 have h6:KJ B F wr ((((((W.setCell ⟨P,0,none⟩ u).setCell ⟨P,6,none⟩ v0).setCell ⟨P,7,none⟩ v1).setCell ⟨P,8,none⟩ v2).setCell ⟨P,9,none⟩ v3).setCell ⟨P,10,none⟩ v4):=by (
 refine⟨(((((h.bel.setCell (by simp only;omega) u).setCell (by simp only;omega) v0).setCell (by simp only;omega) v1).setCell (by simp only;omega) v2).setCell (by simp only;omega) v3).setCell (by simp only;omega) v4,fun b o h1 h2=>?_⟩;have hb:b≠P:=by have:=(Array.getElem?_eq_some_iff.1 h1).1;omega
 iterate 6 rw[Below.heap_setCell _ _ _ _ (by simpa using hb)]
 exact h.same b o h1 h2)
 exact (h6.trans (KJ.set hq hQ)).trans (KJ.set hq hQ)
end
theorem Blk.kp{N B:Nat}{F:Nat->Prop}{t:TypeId}{W W':World}{X:Nat}{cs:Array Value}(h:Blk W X t cs)(hk:KP N B F W W')(hB:B<=X)(hX:¬ F X):Blk W' X t cs:=hk.same _ _ h (.inr ⟨hB,hX⟩)
def jxu(x:Str×Vl×Vl):Array Value:=#[jya x.1,.int .u64 x.2.1.n,.int .u64 x.2.1.m,x.2.1.s1,x.2.1.c1,x.2.1.v1,.int .u64 x.2.2.n,.int .u64 x.2.2.m,x.2.2.s1,x.2.2.c1,x.2.2.v1]
def jcq(x:Str×Vl×Vl):Array Value:=#[.agg (jxu x)]
theorem LnS.In.kp{N B:Nat}{F:Nat->Prop}{w w':World}{L:LnS}(h:L.In N w)(hk:KP N B F w w')(hN:N<=w.heap.size):L.In N w' :=
  ⟨h.ml.keep fun b hlt=>hk.low hlt (by omega),h.vl.keep fun b hlt=>hk.low hlt (by omega),h.cap,h.top,h.dap,h.dop,fun p hp=>(fun _=>trivial) hp,fun p hp=>(h.vk p hp).keep fun b hlt=>hk.low hlt (by omega)⟩
theorem mixAS{x:Str×Vl}{l1 l2:List (Str×Vl)}(h:jfm jx7 (x :: l1) l2<0):mix jx7 vlZ (x :: l1) l2=(x.1,x.2,vlZ) :: mix jx7 vlZ l1 l2:=by
 cases l2 with
 | nil=>exact jl5 _ _ _ _
 | cons y l2=>exact jvw _ _ _ _ h
theorem mixBS{y:Str×Vl}{l1 l2:List (Str×Vl)}(h:0<jfm jx7 l1 (y :: l2)):mix jx7 vlZ l1 (y :: l2)=(y.1,vlZ,y.2) :: mix jx7 vlZ l1 l2:=by
 cases l1 with
 | nil=>exact jgr _ _ _ _
 | cons x l1=>exact jbb _ _ _ _ h
structure AtS (w W:World) (N Pa Pb:Nat) (zs:List (Str×Vl×Vl)) (k:Nat) (F:Nat->Prop) (L K:LnS) (J:Nat->(Nat->Prop)->World->Prop) (wr:World):Prop where
  ba:Blk wr Pa 130 #[.slice L.A L.l.length L.c,.slice L.B L.l.length L.d]
  bb:Blk wr Pb 130 #[.slice K.A K.l.length K.c,.slice K.B K.l.length K.d]
  il:L.In N wr
  ik:K.In N wr
  dr:zs.drop k=mix jx7 vlZ L.l K.l
  kl:k<=zs.length
  jk:J k F wr
  na:¬ F Pa
  nb:¬ F Pb
  sz:W.heap.size<=wr.heap.size
def jpt(wr:World)(P:Nat):Nat:=match wr.cell? ⟨P,0,none⟩ with | some (.slice _ n _)=>n | _=>0
theorem AtS.lens{w W:World}{N Pa Pb:Nat}{zs:List (Str×Vl×Vl)}{k:Nat}{F:Nat->Prop}{L K:LnS}{J:Nat->(Nat->Prop)->World->Prop}{wr:World}(h:AtS w W N Pa Pb zs k F L K J wr):jpt wr Pa=L.l.length/\jpt wr Pb=K.l.length:=by
 unfold jpt;rw[jza h.ba 0 _ rfl,jza h.bb 0 _ rfl];exact⟨rfl,rfl⟩
theorem jcy(Bl Bo Bf:Nat)(L K:LnS)(N:Nat)(w:World)(hL:L.In N w)(hK:K.In N w)(hN:N<=w.heap.size)(hl:Blk w Bl 130 #[.slice L.A L.l.length L.c,.slice L.B L.l.length L.d])(ho:Blk w Bo 130 #[.slice K.A K.l.length K.c,.slice K.B K.l.length K.d])(hf:Blk w Bf 132 #[.func (.func 76) #[] #[]])(hfN:Bf<N):jrn Tryz.prog 118 #[.pointer (some ⟨Bl,0,none⟩),.pointer (some ⟨Bo,0,none⟩),.pointer (some ⟨Bf,0,none⟩)] jcq N (mix jx7 vlZ L.l K.l) w:=by
 intro l J Jx W hW hJ hJx hY h0;have hNW:=leT hN hW.size;have hL:=hL.keep (hW.mono hN);have hK:=hK.keep (hW.mono hN);have hl:=hl.below hW;have ho:=ho.below hW;have hf:=hf.below hW;have hfc:W.cell? ⟨Bf,0,none⟩=some (.func (.func 76) #[] #[]):=jza hf 0 _ rfl;obtain⟨zs,hzs⟩:=exq (mix jx7 vlZ L.l K.l);rw[hzs] at hY ⊢;have HJ:=Lh hJ;have HJX:=Lh hJx;have HY:=Lh hY;have HL:=Lh hL;have HK:=Lh hK;have HZ:=Lh hzs;have H0:=Lh h0;have HFB:Hid (∀ W':World,(∀ b,b<N->W'.heap[b]?=W.heap[b]?)->W'.cell? ⟨Bf,0,none⟩=some (.func (.func 76) #[] #[])):=fun W' hb=>(World.cell?_of_block (a:=⟨Bf,0,none⟩) (hb Bf hfN)).trans hfc
 clear hJ hJx hY hL hK hzs h0 hf hW;obtain⟨A,c,B,d,l1⟩:=L;obtain⟨A',c',B',d',l2⟩:=K;obtain⟨hl0,hl1⟩:=blk2c hl;obtain⟨ho0,ho1⟩:=blk2c ho;have hBl:=hl.lt;have hBo:=ho.lt;clear hl ho;refine (callsIn_wide (n:=6)).1 (callsIn_of_wp Tryz.func118 rfl trivial ?_ rfl);simp only[Tryz.ntmps118,List.size_toArray,List.length_cons,List.length_nil,Nat.reduceAdd,Nat.reduceSub,Array.replicate_succ,Array.replicate_zero,List.push_toArray,List.append_toArray,List.nil_append,List.cons_append];have hmx:Tryz.prog.follows .mixedOrders=true:=by kernel_rfl
 gi_wp2_with fail
 gi_cut [5,6] from 9 (fun p q wc=>∃ Pa Pb,p = .pointer (some ⟨Pa,0,none⟩)/\q = .pointer (some ⟨Pb,0,none⟩)/\Pa≠Pb/\W.heap.size<=Pa/\W.heap.size<=Pb/\Below W.heap.size W wc/\Blk wc Pa 130 #[.slice A l1.length c,.slice B l1.length d]/\Blk wc Pb 130 #[.slice A' l2.length c',.slice B' l2.length d'])
 case first=>(
 gi_region_o
 all_goals
   gi_wp2_with fail
   gi_meet
   case rel =>
     refine⟨_,_,rfl,rfl,?_,?_,?_,?_,?_,?_⟩
     · simp
     · simp
     · simp
     · exact ((jzf _ _).trans ((jzf _ _).mono (by simp))).drew
     · first
         | exact (Blk.below (Blk.new _ _ _) (jzf _ _)).drew
         | exact (show Blk _ _ _ _ from by have:=Blk.new (W.alloc (.cells #[.slice A l1.length c,.slice B l1.length d] 130)) 130 #[.slice A' l2.length c',.slice B' l2.length d'];rw[World.size_alloc] at this;exact this)
         | exact (show Blk _ _ _ _ from by have:=Blk.new (W.alloc (.cells #[.slice A' l2.length c',.slice B' l2.length d'] 130)) 130 #[.slice A l1.length c,.slice B l1.length d];rw[World.size_alloc] at this;exact this)
     · first
         | exact (Blk.below (Blk.new _ _ _) (jzf _ _)).drew
         | exact (show Blk _ _ _ _ from by have:=Blk.new (W.alloc (.cells #[.slice A l1.length c,.slice B l1.length d] 130)) 130 #[.slice A' l2.length c',.slice B' l2.length d'];rw[World.size_alloc] at this;exact this)
         | exact (show Blk _ _ _ _ from by have:=Blk.new (W.alloc (.cells #[.slice A' l2.length c',.slice B' l2.length d'] 130)) 130 #[.slice A l1.length c,.slice B l1.length d];rw[World.size_alloc] at this;exact this))
 case rest=>(
 obtain⟨Pa,Pb,rfl,rfl,hab,hPa,hPb,hbc,hba0,hbb0⟩:=hcut;clear hl0 hl1 ho0 ho1 hBl hBo hfc;have HS:Hid (AtS w W N Pa Pb zs 0 (fun _=>False) ⟨A,c,B,d,l1⟩ ⟨A',c',B',d',l2⟩ J wc):=⟨hba0,hbb0,HL.out.keep (hbc.mono hNW),HK.out.keep (hbc.mono hNW),by rw[List.drop_zero];exact HZ.out.symm,Nat.zero_le _,HJ.out _ _ _ _ H0.out (KJ.of_below hbc (Nat.le_refl _)),id,id,hbc.size⟩;have HSB:Hid (∀ b,b<N->wc.heap[b]?=W.heap[b]?):=fun b hb=>hbc.block b (ltl hb hNW)
 clear hba0 hbb0 hbc HL HK HZ H0;gi_wp2_with fail
 gi_loopw [] (fun wr=>∃ k F L K,AtS w W N Pa Pb zs k F L K J wr/\∀ b,b<N->wr.heap[b]?=W.heap[b]?) (fun wr=>jpt wr Pa+jpt wr Pb)
 case atStart=>exact⟨0,_,_,_,HS.out,HSB.out⟩
 case round=>(
 obtain⟨k,F,⟨A1,c1,B1,d1,r1⟩,⟨A2,c2,B2,d2,r2⟩,hat,hbN⟩:=hrel;clear HS HSB;have HLE:=Lh hat.lens;have hba:=hat.ba;have hbb:=hat.bb;have HIL:=Lh hat.il;have HIK:=Lh hat.ik;have HDR:=Lh hat.dr;have HJK:=Lh hat.jk;have hnFa:=hat.na;have hnFb:=hat.nb;have HKL:=Lh hat.kl;have hWs:=hat.sz;have HBN:=Lh hbN;have hNr:N<=wr.heap.size:=leT hNW hWs;dsimp only at hba hbb
 clear hat hbN;obtain⟨n1,hn1⟩:=exq (r1.length);obtain⟨n2,hn2⟩:=exq (r2.length);have HN1:=Lh hn1;have HN2:=Lh hn2;rw[hn1] at hba;rw[hn2] at hbb;have wa0:wr.cell? ⟨Pa,0,none⟩=some (.slice A1 n1 c1):=jza hba 0 _ rfl;have wb0:wr.cell? ⟨Pb,0,none⟩=some (.slice A2 n2 c2):=jza hbb 0 _ rfl;by_cases hend:n1=0/\n2=0
 ·(
 obtain⟨rfl,rfl⟩:=hend;clear hn1 hn2;gi_wp2_with fail
 go_end0
 have e1:=List.eq_nil_of_length_eq_zero HN1.out;have e2:=List.eq_nil_of_length_eq_zero HN2.out;have:=HDR.out;rw[e1,e2,jmo,List.drop_eq_nil_iff] at this;have hk:k=zs.length:=by have:=HKL.out;omega
 exact⟨⟨_,rfl⟩,.inl ⟨F,hk▸HJK.out⟩⟩)
 ·(
 have HNE:Hid (r1≠[]\/r2≠[]):=by (
 show _\/_
 rcases Nat.eq_zero_or_pos n1 with h | h
 ·exact .inr fun e=>hend ⟨h,by rw[<- hn2,e];rfl⟩
 ·exact .inl fun e=>by rw[e] at hn1;simp at hn1;omega)
 obtain⟨q,hq⟩:=exq (jfm jx7 r1 r2);have HLOW:Hid (∀ W',(LnS.mk A1 c1 B1 d1 r1).In N W'->(LnS.mk A2 c2 B2 d2 r2).In N W'->N<=W'.heap.size->Calls Tryz.prog 119 #[.slice A1 n1 c1,.slice A2 n2 c2,.func (.func 76) #[] #[]] W' (jqd W' (.int .i64 q))):=by (
 intro W' h1 h2 h3;have:=jov _ _ N W' h1 h2 h3;dsimp only at this
 rw[hn1,hn2,hq] at this;exact this)
 have HQ:=Lh hq;clear hq hn1 hn2;obtain⟨V1,hV1⟩:=exq (wr.alloc (.cells #[.string { data:=#[] },.int .u64 0,.int .u64 0,.slice none 0 0,.slice none 0 0,.slice none 0 0,.int .u64 0,.int .u64 0,.slice none 0 0,.slice none 0 0,.slice none 0 0] 176));have hb1:Below wr.heap.size wr V1:=by rw[<- hV1];exact jzf _ _
 have hP1:Blk V1 wr.heap.size 176 #[.string { data:=#[] },.int .u64 0,.int .u64 0,.slice none 0 0,.slice none 0 0,.slice none 0 0,.int .u64 0,.int .u64 0,.slice none 0 0,.slice none 0 0,.slice none 0 0]:=by rw[<- hV1];exact Blk.new _ _ _
 have cf:=HFB.out V1 (fun b hb=>(hb1.block b (ltl hb hNr)).trans (HBN.out b hb));have ha1:=hba.below hb1;have hbb1:=hbb.below hb1;have ca0:V1.cell? ⟨Pa,0,none⟩=some (.slice A1 n1 c1):=jza ha1 0 _ rfl;have cb0:V1.cell? ⟨Pb,0,none⟩=some (.slice A2 n2 c2):=jza hbb1 0 _ rfl;have HI1:=Lh (HIL.out.keep (hb1.mono hNr));have HK1:=Lh (HIK.out.keep (hb1.mono hNr));have hN1:N<=V1.heap.size:=leT hNr hb1.size;have hpa:wr.heap.size≠Pa:=by have:=hba.lt;omega
 have hpb:wr.heap.size≠Pb:=by have:=hbb.lt;omega
 have hg:decide (0<n1)=true\/(decide (0<n1)=false/\decide (0<n2)=true):=by (
 rcases Nat.eq_zero_or_pos n1 with h | h
 ·exact .inr ⟨decide_eq_false (by omega),decide_eq_true (Nat.pos_of_ne_zero fun h2=>hend ⟨h,h2⟩)⟩
 ·exact .inl (decide_eq_true h))
 clear hend;rcases hg with hz | ⟨hz,hz2⟩
 all_goals
   gi_upto_region 3 with fail
   gi_wp2_with fail
   first
     | refine⟨trivial,fun h=>absurd h (by simp[Fence.wide]),(callsIn_wide.2 (HLOW.out V1 HI1.out HK1.out hN1)).mono ?_⟩
     | refine⟨trivial,(callsIn_wide.2 (HLOW.out V1 HI1.out HK1.out hN1)).mono ?_⟩
   rintro e W1 ⟨rfl,hb2⟩
   replace hP1:=hP1.below hb2
   replace ha1:=ha1.below hb2
   replace hbb1:=hbb1.below hb2
   replace HI1:=Lh (HI1.out.keep (hb2.mono hN1))
   replace HK1:=Lh (HK1.out.keep (hb2.mono hN1))
   have HB1:=Lh (hb1.trans (hb2.mono hb1.size))
   replace hN1:N<=W1.heap.size:=leT hN1 hb2.size
   clear cf ca0 cb0 wa0 wb0 hb1 hb2 hV1 HLOW
   clear V1
   gi_upto_if 28 with fail
   gi_cut [] from 27 (fun wx=>∃ (A3 B3:Option Addr) (c3 d3:Nat) (r3:List (Str×Vl)) (u:Value) (an aM:Int) (aK:Option Addr) (aL:Nat) (aN:List Str) (aO:Option Addr) (aP:Nat) (aQ:List Ck) (aR:Option Addr) (aS:Nat) (aT:List Vl),Blk wx wr.heap.size 176 #[u,.int .u64 an,.int .u64 aM,.slice aK aN.length aL,.slice aO aQ.length aP,.slice aR aT.length aS,.int .u64 0,.int .u64 0,.slice none 0 0,.slice none 0 0,.slice none 0 0]/\Blk wx Pa 130 #[.slice A3 r3.length c3,.slice B3 r3.length d3]/\Blk wx Pb 130 #[.slice A2 n2 c2,.slice B2 n2 d2]/\(LnS.mk A3 c3 B3 d3 r3).In N wx/\(LnS.mk A2 c2 B2 d2 r2).In N wx/\KJ W.heap.size F wr wx/\wr.heap.size<wx.heap.size/\Hid ((q<=0/\∃ m,u=jya m/\r1=(m,Vl.mk an aM aK aL aN aO aP aQ aR aS aT) :: r3)\/(0<q/\r3=r1/\Vl.mk an aM aK aL aN aO aP aQ aR aS aT=vlZ)))
   case first =>
     obtain⟨bq,hbq⟩:=exq (decide (q<=0))
     simp only[hbq]
     cases bq with
     | true =>
       have HQ0:=Lh (of_decide_eq_true hbq)
       clear hbq
       obtain⟨x,r3,hr1⟩:=low_le (by rw[HQ.out];exact HQ0.out) HNE.out
       have HR1:=Lh hr1
       have HSP:Hid (∀ W',(LnS.mk A1 c1 B1 d1 r1).In N W'->N<=W'.heap.size->Calls Tryz.prog 120 #[.agg #[.slice A1 n1 c1,.slice B1 n1 d1]] W' (jtw N c1 d1 x r3 W')):=by
         intro W' h1 h2
         rw[hr1] at h1
         have:=jp9 A1 B1 c1 d1 x r3 N W' h1 h2
         rw[<- hr1,HN1.out] at this
         exact this
       clear hr1
       obtain⟨q0,q1⟩:=blk2c ha1
       gi_wp2_with fail
       first
         | refine⟨trivial,fun h=>absurd h (by simp[Fence.wide]),(callsIn_wide.2 (HSP.out W1 HI1.out hN1)).mono ?_⟩
         | refine⟨trivial,(callsIn_wide.2 (HSP.out W1 HI1.out hN1)).mono ?_⟩
       rintro e W2 ⟨A3,B3,rfl,hI3,hs2⟩
       obtain⟨xm,xn,xM,xK,xL,xN,xO,xP,xQ,xR,xS,xU⟩:=x
       simp only[jzh,jya]
       have HI3:=Lh hI3
       have HB2:=Lh (HB1.out.trans (hs2.mono HB1.out.size))
       replace hP1:=hP1.below hs2
       replace ha1:=ha1.below hs2
       replace hbb1:=hbb1.below hs2
       replace HK1:=Lh (HK1.out.keep (hs2.mono hN1))
       have hW2:=hP1.lt
       clear q0 q1 hs2 hI3
       obtain⟨p0,p1,p2,p3,p4⟩:=blk5 hP1
       have p5:W2.cell? ⟨wr.heap.size,5,none⟩=some (.slice none 0 0):=jza hP1 5 _ rfl
       have p6:W2.cell? ⟨wr.heap.size,6,none⟩=some (.int .u64 0):=jza hP1 6 _ rfl
       have p7:W2.cell? ⟨wr.heap.size,7,none⟩=some (.int .u64 0):=jza hP1 7 _ rfl
       have p8:W2.cell? ⟨wr.heap.size,8,none⟩=some (.slice none 0 0):=jza hP1 8 _ rfl
       have p9:W2.cell? ⟨wr.heap.size,9,none⟩=some (.slice none 0 0):=jza hP1 9 _ rfl
       have p10:W2.cell? ⟨wr.heap.size,10,none⟩=some (.slice none 0 0):=jza hP1 10 _ rfl
       have f0:W2.frozen? ⟨wr.heap.size,0,none⟩=false:=jzb hP1 0
       have f1:W2.frozen? ⟨wr.heap.size,1,none⟩=false:=jzb hP1 1
       have f2:W2.frozen? ⟨wr.heap.size,2,none⟩=false:=jzb hP1 2
       have f3:W2.frozen? ⟨wr.heap.size,3,none⟩=false:=jzb hP1 3
       have f4:W2.frozen? ⟨wr.heap.size,4,none⟩=false:=jzb hP1 4
       have f5:W2.frozen? ⟨wr.heap.size,5,none⟩=false:=jzb hP1 5
       have f6:W2.frozen? ⟨wr.heap.size,6,none⟩=false:=jzb hP1 6
       have f7:W2.frozen? ⟨wr.heap.size,7,none⟩=false:=jzb hP1 7
       have f8:W2.frozen? ⟨wr.heap.size,8,none⟩=false:=jzb hP1 8
       have f9:W2.frozen? ⟨wr.heap.size,9,none⟩=false:=jzb hP1 9
       have f10:W2.frozen? ⟨wr.heap.size,10,none⟩=false:=jzb hP1 10
       obtain⟨q0,q1⟩:=blk2c ha1
       have g0:W2.frozen? ⟨Pa,0,none⟩=false:=jzb ha1 0
       have g1:W2.frozen? ⟨Pa,1,none⟩=false:=jzb ha1 1
       gi_wp2_with fail
       gi_meet
       case rel =>
         have kB:Below N W2 (jgb W2 wr.heap.size Pa (.string (S xm)) (.int .u64 xn) (.int .u64 xM) (.slice xK xN.length xL) (.slice xO xQ.length xP) (.slice xR xU.length xS) (.slice A3 r3.length (c1 - 1)) (.slice B3 r3.length (d1 - 1))):=jp7 (Below.refl _ _) hNr (leT hNW hPa)
         exact⟨A3,B3,c1 - 1,d1 - 1,r3,_,xn,xM,xK,xL,xN,xO,xP,xQ,xR,xS,xU,jlm hP1 hpa,jll ha1 hpa,jlk hbb1 hpb.symm hab.symm,HI3.out.keep kB,HK1.out.keep kB,juq (KJ.of_below HB2.out hWs) (Nat.le_refl _) hWs hPa hnFa,by simpa using hW2,.inl ⟨HQ0.out,xm,rfl,HR1.out⟩⟩
     | false =>
       have HQ0:=Lh (show 0<q by have:=of_decide_eq_false hbq;omega)
       clear hbq
       gi_wp2_with fail
       gi_meet
       case rel=>exact⟨A1,B1,c1,d1,r1,_,0,0,none,0,[],none,0,[],none,0,[],hP1,by rw[HN1.out];exact ha1,hbb1,HI1.out,HK1.out,KJ.of_below HB1.out hWs,hP1.lt,.inr ⟨HQ0.out,rfl,rfl⟩⟩
   case rest =>
     obtain⟨A3,B3,c3,d3,r3,u,an,aM,aK,aL,aN,aO,aP,aQ,aR,aS,aT,hP2,ha2,hbb2,hI3,hK2,hKJ,hWx,H1⟩:=hcut
     have HI3:=Lh hI3
     have HK2:=Lh hK2
     have HKJ:=Lh hKJ
     have hN2:N<=wc.heap.size:=by omega
     clear hP1 ha1 hbb1 HI1 HK1 HB1 hN1 hI3 hK2 hKJ
     gi_upto_if 38 with fail
     gi_cut [] from 37 (fun wx=>∃ (A3 B3 A4 B4:Option Addr) (c3 d3 c4 d4:Nat) (r3 r4:List (Str×Vl)) (u:Value) (an aM:Int) (aK:Option Addr) (aL:Nat) (aN:List Str) (aO:Option Addr) (aP:Nat) (aQ:List Ck) (aR:Option Addr) (aS:Nat) (aT:List Vl) (bn bM:Int) (bK:Option Addr) (bL:Nat) (bN:List Str) (bP:Option Addr) (bQ:Nat) (bS:List Ck) (bT:Option Addr) (bU:Nat) (bW:List Vl),Blk wx wr.heap.size 176 #[u,.int .u64 an,.int .u64 aM,.slice aK aN.length aL,.slice aO aQ.length aP,.slice aR aT.length aS,.int .u64 bn,.int .u64 bM,.slice bK bN.length bL,.slice bP bS.length bQ,.slice bT bW.length bU]/\Blk wx Pa 130 #[.slice A3 r3.length c3,.slice B3 r3.length d3]/\Blk wx Pb 130 #[.slice A4 r4.length c4,.slice B4 r4.length d4]/\(LnS.mk A3 c3 B3 d3 r3).In N wx/\(LnS.mk A4 c4 B4 d4 r4).In N wx/\KJ W.heap.size F wr wx/\wr.heap.size<wx.heap.size/\Hid (∃ m,u=jya m/\mix jx7 vlZ r1 r2=(m,Vl.mk an aM aK aL aN aO aP aQ aR aS aT,Vl.mk bn bM bK bL bN bP bQ bS bT bU bW) :: mix jx7 vlZ r3 r4/\r3.length+r4.length<r1.length+r2.length))
     case first =>
       obtain⟨bq,hbq⟩:=exq (decide (0<=q))
       simp only[hbq]
       cases bq with
       | true =>
         have HQ0:=Lh (of_decide_eq_true hbq)
         clear hbq
         obtain⟨y,r4,hr2⟩:=low_ge (c:=jx7) (r1:=r1) (r2:=r2) (by rw[HQ.out];exact HQ0.out)
         have HR2:=Lh hr2
         have HSP:Hid (∀ W',(LnS.mk A2 c2 B2 d2 r2).In N W'->N<=W'.heap.size->Calls Tryz.prog 120 #[.agg #[.slice A2 n2 c2,.slice B2 n2 d2]] W' (jtw N c2 d2 y r4 W')):=by
           intro W' h1 h2
           rw[hr2] at h1
           have:=jp9 A2 B2 c2 d2 y r4 N W' h1 h2
           rw[<- hr2,HN2.out] at this
           exact this
         clear hr2
         obtain⟨q0,q1⟩:=blk2c hbb2
         gi_wp2_with fail
         first
           | refine⟨trivial,fun h=>absurd h (by simp[Fence.wide]),(callsIn_wide.2 (HSP.out wc HK2.out hN2)).mono ?_⟩
           | refine⟨trivial,(callsIn_wide.2 (HSP.out wc HK2.out hN2)).mono ?_⟩
         rintro e W2 ⟨A4,B4,rfl,hI4,hs2⟩
         obtain⟨ym,yn,yM,yK,yL,yN,yO,yP,yQ,yR,yS,yT⟩:=y
         simp only[jzh,jya]
         have HI4:=Lh hI4
         have HKJ2:=Lh (HKJ.out.later hs2 (by omega))
         replace hP2:=hP2.below hs2
         replace ha2:=ha2.below hs2
         replace hbb2:=hbb2.below hs2
         replace HI3:=Lh (HI3.out.keep (hs2.mono hN2))
         have hW2:=hP2.lt
         clear q0 q1 hs2 hI4
         obtain⟨p0,p1,p2,p3,p4⟩:=blk5 hP2
         have p5:W2.cell? ⟨wr.heap.size,5,none⟩=some (.slice aR aT.length aS):=jza hP2 5 _ rfl
         have p6:W2.cell? ⟨wr.heap.size,6,none⟩=some (.int .u64 0):=jza hP2 6 _ rfl
         have p7:W2.cell? ⟨wr.heap.size,7,none⟩=some (.int .u64 0):=jza hP2 7 _ rfl
         have p8:W2.cell? ⟨wr.heap.size,8,none⟩=some (.slice none 0 0):=jza hP2 8 _ rfl
         have p9:W2.cell? ⟨wr.heap.size,9,none⟩=some (.slice none 0 0):=jza hP2 9 _ rfl
         have p10:W2.cell? ⟨wr.heap.size,10,none⟩=some (.slice none 0 0):=jza hP2 10 _ rfl
         have f0:W2.frozen? ⟨wr.heap.size,0,none⟩=false:=jzb hP2 0
         have f1:W2.frozen? ⟨wr.heap.size,1,none⟩=false:=jzb hP2 1
         have f2:W2.frozen? ⟨wr.heap.size,2,none⟩=false:=jzb hP2 2
         have f3:W2.frozen? ⟨wr.heap.size,3,none⟩=false:=jzb hP2 3
         have f4:W2.frozen? ⟨wr.heap.size,4,none⟩=false:=jzb hP2 4
         have f5:W2.frozen? ⟨wr.heap.size,5,none⟩=false:=jzb hP2 5
         have f6:W2.frozen? ⟨wr.heap.size,6,none⟩=false:=jzb hP2 6
         have f7:W2.frozen? ⟨wr.heap.size,7,none⟩=false:=jzb hP2 7
         have f8:W2.frozen? ⟨wr.heap.size,8,none⟩=false:=jzb hP2 8
         have f9:W2.frozen? ⟨wr.heap.size,9,none⟩=false:=jzb hP2 9
         have f10:W2.frozen? ⟨wr.heap.size,10,none⟩=false:=jzb hP2 10
         obtain⟨q0,q1⟩:=blk2c hbb2
         have g0:W2.frozen? ⟨Pb,0,none⟩=false:=jzb hbb2 0
         have g1:W2.frozen? ⟨Pb,1,none⟩=false:=jzb hbb2 1
         gi_wp2_with fail
         gi_meet
         case rel =>
           have kB:Below N W2 (jga W2 wr.heap.size Pb (.string (S ym)) (.int .u64 yn) (.int .u64 yM) (.slice yK yN.length yL) (.slice yO yQ.length yP) (.slice yR yT.length yS) (.slice A4 r4.length (c2 - 1)) (.slice B4 r4.length (d2 - 1))):=jp6 (Below.refl _ _) hNr (leT hNW hPb)
           refine⟨A3,B3,A4,B4,c3,d3,c2 - 1,d2 - 1,r3,r4,_,an,aM,aK,aL,aN,aO,aP,aQ,aR,aS,aT,yn,yM,yK,yL,yN,yO,yP,yQ,yR,yS,yT,jlj hP2 hpb,jlh ha2 hpa.symm hab,jli hbb2 hpb,HI3.out.keep kB,HI4.out.keep kB,jup HKJ2.out (Nat.le_refl _) hWs hPb hnFb,by simpa using hW2,ym,rfl,?_,?_⟩
           rotate_left
           · have h2:=congrArg List.length HR2.out
             simp only[List.length_cons] at h2
             rcases H1.out with ⟨_,m,_,h3⟩ | ⟨_,h3,_⟩
             · have h4:=congrArg List.length h3
               simp only[List.length_cons] at h4
               omega
             · rw[h3];omega
           rw[HR2.out]
           rcases H1.out with ⟨h1,m,_,h3⟩ | ⟨h1,h2,h3⟩
           · rw[h3]
             refine jbc _ _ _ _ ?_
             have:=HQ.out
             rw[h3,HR2.out,jfm] at this
             have:=HQ0.out
             dsimp only at *
             omega
           · rw[h2,h3]
             exact mixBS (by rw[<- HR2.out,HQ.out];exact h1)
       | false =>
         have HQ0:=Lh (show q<0 by have:=of_decide_eq_false hbq;omega)
         clear hbq
         gi_wp2_with fail
         gi_meet
         case rel =>
           rcases H1.out with ⟨h1,m,h2,h3⟩ | ⟨h1,_⟩
           · refine⟨A3,B3,A2,B2,c3,d3,c2,d2,r3,r2,u,an,aM,aK,aL,aN,aO,aP,aQ,aR,aS,aT,0,0,none,0,[],none,0,[],none,0,[],hP2,ha2,by rw[HN2.out];exact hbb2,HI3.out,HK2.out,HKJ.out,hWx,m,h2,?_,?_⟩
             rotate_left
             · have h4:=congrArg List.length h3
               simp only[List.length_cons] at h4
               omega
             rw[h3]
             exact mixAS (by rw[<- h3,HQ.out];exact HQ0.out)
           · exact absurd HQ0.out (by omega)
     case rest =>
       clear hP2 ha2 hbb2 HI3 HK2 HKJ hWx H1 hN2
       obtain⟨A3,B3,A4,B4,c3,d3,c4,d4,r3,r4,u,an,aM,aK,aL,aN,aO,aP,aQ,aR,aS,aT,bn,bM,bK,bL,bN,bP,bQ,bS,bT,bU,bW,hP3,ha3,hbb3,hI3,hI4,hKJ,hWx,m,hum,hmix,hlen⟩:=hcut
       have HL5:=Lh hlen
       obtain⟨hk1,hk2,hk3⟩:=jcr (HDR.out.trans hmix)
       obtain⟨fn,tmps,assign,body,hy,hR⟩:=jql (m':=5) (HY.out k F _ wc hk1 (HJ.out _ _ _ _ HJK.out hKJ) (by omega))
       unfold jcq jxu at hy
       simp only[V4.Vl.n,V4.Vl.m,V4.Vl.s1,V4.Vl.c1,V4.Vl.v1,<- hum] at hy
       have hR2:=hR.mono fun e W' h=>jkf h
       have HI3:=Lh hI3
       have HI4:=Lh hI4
       have HMX:=Lh hmix
       have HK2:=Lh hk2
       have HK3:=Lh hk3
       have hNc:N<=wc.heap.size:=by omega
       have HBc:Hid (∀ b,b<N->wc.heap[b]?=W.heap[b]?):=fun b hb=>(hKJ.bel.block b (ltl hb hNW)).trans (HBN.out b hb)
       clear hR hk1 hI3 hI4 hmix hk2 hk3 hum hKJ hlen
       obtain⟨p0,p1,p2,p3,p4⟩:=blk5 hP3
       have p5:wc.cell? ⟨wr.heap.size,5,none⟩=some (.slice aR aT.length aS):=jza hP3 5 _ rfl
       have p6:wc.cell? ⟨wr.heap.size,6,none⟩=some (.int .u64 bn):=jza hP3 6 _ rfl
       have p7:wc.cell? ⟨wr.heap.size,7,none⟩=some (.int .u64 bM):=jza hP3 7 _ rfl
       have p8:wc.cell? ⟨wr.heap.size,8,none⟩=some (.slice bK bN.length bL):=jza hP3 8 _ rfl
       have p9:wc.cell? ⟨wr.heap.size,9,none⟩=some (.slice bP bS.length bQ):=jza hP3 9 _ rfl
       have p10:wc.cell? ⟨wr.heap.size,10,none⟩=some (.slice bT bW.length bU):=jza hP3 10 _ rfl
       gi_wp2_with fail
       refine hR2.mono ?_
       clear hy hR2 p0 p1 p2 p3 p4 p5 p6 p7 p8 p9 p10
       rintro e W5 ⟨r,rfl,hr⟩
       cases r with
       | true =>
         obtain⟨F',hgr,hJ5,hk5⟩:=hr
         have hnFa':¬ F' Pa:=fun h=>by
           rcases hgr _ h with h | h
           · exact hnFa h
           · have:=ha3.lt;omega
         have hnFb':¬ F' Pb:=fun h=>by
           rcases hgr _ h with h | h
           · exact hnFb h
           · have:=hbb3.lt;omega
         have HA:Hid (AtS w W N Pa Pb zs (k+1) F' ⟨A3,c3,B3,d3,r3⟩ ⟨A4,c4,B4,d4,r4⟩ J W5):=⟨ha3.kp hk5 hPa hnFa,hbb3.kp hk5 hPb hnFb,HI3.out.kp hk5 hNc,HI4.out.kp hk5 hNc,HK2.out,HK3.out,hJ5,hnFa',hnFb',leT (by omega) hk5.size⟩
         have HB5:Hid (∀ b,b<N->W5.heap[b]?=wc.heap[b]?):=fun b hb=>hk5.low hb (ltl hb hNc)
         gi_wp2_with fail
         go_roundw
         case rel=>exact⟨k+1,_,_,_,HA.out,fun b hb=>(HB5.out b hb).trans (HBc.out b hb)⟩
         case measure=>rw[HA.out.lens.1,HA.out.lens.2,HLE.out.1,HLE.out.2];exact HL5.out
       | false =>
         gi_wp2_with fail
         refine bodyPost_ret (results_none rfl _ _ _) rfl ?_
         exact⟨⟨_,rfl⟩,.inr ⟨k,by have:=HK3.out;omega,hr.1⟩⟩)))
theorem OkS.up{N N':Nat}{w:World}{x:Str}(h:OkS N w x)(hN:N<=N'):OkS N' w x:=(fun _ _=>trivial) h hN
theorem LnS.In.up{N N':Nat}{w:World}{L:LnS}(h:L.In N w)(hN:N<=N'):L.In N' w :=
  ⟨h.ml.mono fun _ hb=>ltl hb hN,h.vl.mono fun _ hb=>ltl hb hN,h.cap,h.top,h.dap,h.dop,fun p hp=>(h.mo p hp).up hN,fun p hp=>(h.vk p hp).mono fun _ hb=>ltl hb hN⟩
def jn4(zs:List (Str×Vl×Vl))(w:World)(e:Ending)(w':World):Prop :=
  ∃ b1 b2 b3,e = .returned (.func (.func 118) #[] #[.pointer (some ⟨b1,0,none⟩),.pointer (some ⟨b2,0,none⟩),.pointer (some ⟨b3,0,none⟩)])/\Below w.heap.size w w' /\
    ∀ N w2,Below w'.heap.size w' w2->w'.heap.size<=N->N<=w2.heap.size->jrn Tryz.prog 118 #[.pointer (some ⟨b1,0,none⟩),.pointer (some ⟨b2,0,none⟩),.pointer (some ⟨b3,0,none⟩)] jcq N zs w2
theorem jd9(L K:LnS)(w:World)(hL:L.In w.heap.size w)(hK:K.In w.heap.size w):Calls Tryz.prog 75 #[L.val,K.val,.func (.func 76) #[] #[]] w (jn4 (mix jx7 vlZ L.l K.l) w):=by
 obtain⟨V,hV⟩:=exq (((w.alloc (.cells #[.slice L.A L.l.length L.c,.slice L.B L.l.length L.d] 130)).alloc (.cells #[.slice K.A K.l.length K.c,.slice K.B K.l.length K.d] 130)).alloc (.cells #[.func (.func 76) #[] #[]] 132));have hb:Below w.heap.size w V:=by rw[<- hV];exact jzj (jzj (jzj (Below.refl _ _)))
 have h1:Blk V w.heap.size 130 #[.slice L.A L.l.length L.c,.slice L.B L.l.length L.d]:=by rw[<- hV];exact ((Blk.new w _ _).below (jzf _ _)).below (jzf _ _)
 have h2:Blk V (w.heap.size+1) 130 #[.slice K.A K.l.length K.c,.slice K.B K.l.length K.d]:=by (
 rw[<- hV];have:=Blk.new (w.alloc (.cells #[.slice L.A L.l.length L.c,.slice L.B L.l.length L.d] 130)) 130 #[.slice K.A K.l.length K.c,.slice K.B K.l.length K.d];rw[World.size_alloc] at this;exact this.below (jzf _ _))
 have h3:Blk V (w.heap.size+1+1) 132 #[.func (.func 76) #[] #[]]:=by (
 rw[<- hV];have:=Blk.new ((w.alloc (.cells #[.slice L.A L.l.length L.c,.slice L.B L.l.length L.d] 130)).alloc (.cells #[.slice K.A K.l.length K.c,.slice K.B K.l.length K.d] 130)) 132 #[.func (.func 76) #[] #[]];rw[World.size_alloc,World.size_alloc] at this;exact this)
 have HG:Hid (jn4 (mix jx7 vlZ L.l K.l) w (.returned (.func (.func 118) #[] #[.pointer (some ⟨w.heap.size,0,none⟩),.pointer (some ⟨w.heap.size+1,0,none⟩),.pointer (some ⟨w.heap.size+1+1,0,none⟩)])) V):=by (
 refine⟨_,_,_,rfl,hb,fun N w2 hb2 hN1 hN2=>?_⟩;have hbw:Below w.heap.size w w2:=hb.trans (hb2.mono hb.size);have hNw:w.heap.size<=N:=leT hb.size hN1;exact jcy _ _ _ L K N w2 ((hL.keep hbw).up hNw) ((hK.keep hbw).up hNw) hN2 (h1.below hb2) (h2.below hb2) (h3.below hb2) (ltl h3.lt hN1))
 rw[<- hV] at HG;clear hL hK h1 h2 h3 hb hV V;unfold LnS.val;go_enter Tryz.func75,Tryz.ntmps75;go_wp2_with fail;go_ret;exact HG.out
end J5
end Go.Proofs.YtobggoephhjofaaGreatDoor
