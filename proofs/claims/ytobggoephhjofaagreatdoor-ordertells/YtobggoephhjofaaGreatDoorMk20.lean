/- A part. No condition. -/
import Derived.Test.YtobggoephhjofaaGreatDoorMk19
set_option maxRecDepth 100000
set_option maxHeartbeats 16000000
namespace Go.Proofs.YtobggoephhjofaaGreatDoor
namespace J5
open Go.RowKit Go.Shelf
open C3 (Tk In jzk jzf)
open V4 (Va Vl Ck jzt jzj jzh jqh jwf)
attribute [local go_sem] Oper.semAt_some
def jzx(x:Ck×Vl×Vl):Array Value:=#[jjk x.1,.int .u64 x.2.1.n,.int .u64 x.2.1.m,x.2.1.s1,x.2.1.c1,x.2.1.v1,.int .u64 x.2.2.n,.int .u64 x.2.2.m,x.2.2.s1,x.2.2.c1,x.2.2.v1]
def jyb(x:Ck×Vl×Vl):Array Value:=#[.agg (jzx x)]
theorem LnT.In.kp{N B:Nat}{F:Nat->Prop}{w w':World}{L:LnT}(h:L.In N w)(hk:KP N B F w w')(hN:N<=w.heap.size):L.In N w' :=
  ⟨h.ml.keep fun b hlt=>hk.low hlt (by omega),h.vl.keep fun b hlt=>hk.low hlt (by omega),h.cap,h.top,h.dap,h.dop,fun p hp=>V4.Ck.Inp.keep (h.mo p hp) fun b hlt=>hk.low hlt (by omega),fun p hp=>(h.vk p hp).keep fun b hlt=>hk.low hlt (by omega)⟩
theorem mixAT{x:Ck×Vl}{l1 l2:List (Ck×Vl)}(h:jfu jja (x :: l1) l2<0):mix jja vlZ (x :: l1) l2=(x.1,x.2,vlZ) :: mix jja vlZ l1 l2:=by
 cases l2 with
 | nil=>exact jtc _ _ _ _
 | cons y l2=>exact jk8 _ _ _ _ h
theorem mixBT{y:Ck×Vl}{l1 l2:List (Ck×Vl)}(h:0<jfu jja l1 (y :: l2)):mix jja vlZ l1 (y :: l2)=(y.1,vlZ,y.2) :: mix jja vlZ l1 l2:=by
 cases l1 with
 | nil=>exact jcj _ _ _ _
 | cons x l1=>exact jk9 _ _ _ _ h
structure AtT (w W:World) (N Pa Pb:Nat) (zs:List (Ck×Vl×Vl)) (k:Nat) (F:Nat->Prop) (L K:LnT) (J:Nat->(Nat->Prop)->World->Prop) (wr:World):Prop where
  ba:Blk wr Pa 143 #[.slice L.A L.l.length L.c,.slice L.B L.l.length L.d]
  bb:Blk wr Pb 143 #[.slice K.A K.l.length K.c,.slice K.B K.l.length K.d]
  il:L.In N wr
  ik:K.In N wr
  dr:zs.drop k=mix jja vlZ L.l K.l
  kl:k<=zs.length
  jk:J k F wr
  na:¬ F Pa
  nb:¬ F Pb
  sz:W.heap.size<=wr.heap.size
theorem AtT.lens{w W:World}{N Pa Pb:Nat}{zs:List (Ck×Vl×Vl)}{k:Nat}{F:Nat->Prop}{L K:LnT}{J:Nat->(Nat->Prop)->World->Prop}{wr:World}(h:AtT w W N Pa Pb zs k F L K J wr):jpy wr Pa=L.l.length/\jpy wr Pb=K.l.length:=by
 unfold jpy;rw[jza h.ba 0 _ rfl,jza h.bb 0 _ rfl];exact⟨rfl,rfl⟩
theorem jc3(Bl Bo Bf:Nat)(L K:LnT)(N:Nat)(w:World)(hL:L.In N w)(hK:K.In N w)(hN:N<=w.heap.size)(hl:Blk w Bl 143 #[.slice L.A L.l.length L.c,.slice L.B L.l.length L.d])(ho:Blk w Bo 143 #[.slice K.A K.l.length K.c,.slice K.B K.l.length K.d])(hf:Blk w Bf 145 #[.func (.func 85) #[] #[]])(hfN:Bf<N):jrz Tryz.prog 129 #[.pointer (some ⟨Bl,0,none⟩),.pointer (some ⟨Bo,0,none⟩),.pointer (some ⟨Bf,0,none⟩)] jyb N (mix jja vlZ L.l K.l) w:=by
 intro l J Jx W hW hJ eJ hY h0;have jK:=leT hN hW.size;have hL:=hL.keep (hW.mono hN);have hK:=hK.keep (hW.mono hN);have hl:=hl.below hW;have ho:=ho.below hW;have hf:=hf.below hW;have wo:W.cell? ⟨Bf,0,none⟩=some (.func (.func 85) #[] #[]):=jza hf 0 _ rfl;obtain⟨zs,fS⟩:=exq (mix jja vlZ L.l K.l);rw[fS] at hY ⊢;have HJ:=Lh hJ;have lF:=Lh eJ;have HY:=Lh hY;have HL:=Lh hL;have HK:=Lh hK;have HZ:=Lh fS;have H0:=Lh h0;have HFB:Hid (∀ W':World,(∀ b,b<N->W'.heap[b]?=W.heap[b]?)->W'.cell? ⟨Bf,0,none⟩=some (.func (.func 85) #[] #[])):=fun W' hb=>(World.cell?_of_block (a:=⟨Bf,0,none⟩) (hb Bf hfN)).trans wo
 clear hJ eJ hY hL hK fS h0 hf hW;obtain⟨A,c,B,d,l1⟩:=L;obtain⟨A',c',B',d',l2⟩:=K;obtain⟨gl,fU⟩:=blk2c hl;obtain⟨ry,d6⟩:=blk2c ho;have hBl:=hl.lt;have hBo:=ho.lt;clear hl ho;refine (callsIn_wide (n:=6)).1 (callsIn_of_wp Tryz.func129 rfl trivial ?_ rfl);simp only[Tryz.ntmps129,List.size_toArray,List.length_cons,List.length_nil,Nat.reduceAdd,Nat.reduceSub,Array.replicate_succ,Array.replicate_zero,List.push_toArray,List.append_toArray,List.nil_append,List.cons_append];have fj:Tryz.prog.follows .mixedOrders=true:=by kernel_rfl
 gi_wp2_with fail
 gi_cut [5,6] from 9 (fun p q wc=>∃ Pa Pb,p = .pointer (some ⟨Pa,0,none⟩)/\q = .pointer (some ⟨Pb,0,none⟩)/\Pa≠Pb/\W.heap.size<=Pa/\W.heap.size<=Pb/\Below W.heap.size W wc/\Blk wc Pa 143 #[.slice A l1.length c,.slice B l1.length d]/\Blk wc Pb 143 #[.slice A' l2.length c',.slice B' l2.length d'])
 case first=>(
 gi_region_o
 all_goals
   gi_wp2_with fail
   gi_meet
   case rel =>
     refine⟨_,_,rfl,rfl,?_,?_,?_,?_,?_,?_⟩
     · simp
     · simp
     · simp
     · exact ((jzf _ _).trans ((jzf _ _).mono (by simp))).drew
     · first
         | exact (Blk.below (Blk.new _ _ _) (jzf _ _)).drew
         | exact (show Blk _ _ _ _ from by have:=Blk.new (W.alloc (.cells #[.slice A l1.length c,.slice B l1.length d] 143)) 143 #[.slice A' l2.length c',.slice B' l2.length d'];rw[World.size_alloc] at this;exact this)
         | exact (show Blk _ _ _ _ from by have:=Blk.new (W.alloc (.cells #[.slice A' l2.length c',.slice B' l2.length d'] 143)) 143 #[.slice A l1.length c,.slice B l1.length d];rw[World.size_alloc] at this;exact this)
     · first
         | exact (Blk.below (Blk.new _ _ _) (jzf _ _)).drew
         | exact (show Blk _ _ _ _ from by have:=Blk.new (W.alloc (.cells #[.slice A l1.length c,.slice B l1.length d] 143)) 143 #[.slice A' l2.length c',.slice B' l2.length d'];rw[World.size_alloc] at this;exact this)
         | exact (show Blk _ _ _ _ from by have:=Blk.new (W.alloc (.cells #[.slice A' l2.length c',.slice B' l2.length d'] 143)) 143 #[.slice A l1.length c,.slice B l1.length d];rw[World.size_alloc] at this;exact this))
 case rest=>(
 obtain⟨Pa,Pb,rfl,rfl,wG,sN,sM,fd,ni,nh⟩:=hcut;clear gl fU ry d6 hBl hBo wo;have HS:Hid (AtT w W N Pa Pb zs 0 (fun _=>False) ⟨A,c,B,d,l1⟩ ⟨A',c',B',d',l2⟩ J wc):=⟨ni,nh,HL.out.keep (fd.mono jK),HK.out.keep (fd.mono jK),by rw[List.drop_zero];exact HZ.out.symm,Nat.zero_le _,HJ.out _ _ _ _ H0.out (KJ.of_below fd (Nat.le_refl _)),id,id,fd.size⟩;have fE:Hid (∀ b,b<N->wc.heap[b]?=W.heap[b]?):=fun b hb=>fd.block b (ltl hb jK)
 clear ni nh fd HL HK HZ H0;gi_wp2_with fail
 gi_loopw [] (fun wr=>∃ k F L K,AtT w W N Pa Pb zs k F L K J wr/\∀ b,b<N->wr.heap[b]?=W.heap[b]?) (fun wr=>jpy wr Pa+jpy wr Pb)
 case atStart=>exact⟨0,_,_,_,HS.out,fE.out⟩
 case round=>(
 obtain⟨k,F,⟨A1,c1,B1,d1,r1⟩,⟨A2,c2,B2,d2,r2⟩,eR,wF⟩:=hrel;clear HS fE;have xe:=Lh eR.lens;have lS:=eR.ba;have cD:=eR.bb;have HIL:=Lh eR.il;have HIK:=Lh eR.ik;have xu:=Lh eR.dr;have xi:=Lh eR.jk;have j4:=eR.na;have j3:=eR.nb;have mu:=Lh eR.kl;have ns:=eR.sz;have yf:=Lh wF;have lW:N<=wr.heap.size:=leT jK ns;dsimp only at lS cD
 clear eR wF;obtain⟨n1,eo⟩:=exq (r1.length);obtain⟨n2,ji⟩:=exq (r2.length);have la:=Lh eo;have tc:=Lh ji;rw[eo] at lS;rw[ji] at cD;have wa0:wr.cell? ⟨Pa,0,none⟩=some (.slice A1 n1 c1):=jza lS 0 _ rfl;have wb0:wr.cell? ⟨Pb,0,none⟩=some (.slice A2 n2 c2):=jza cD 0 _ rfl;by_cases iO:n1=0/\n2=0
 ·(
 obtain⟨rfl,rfl⟩:=iO;clear eo ji;gi_wp2_with fail
 go_end0
 have e1:=List.eq_nil_of_length_eq_zero la.out;have e2:=List.eq_nil_of_length_eq_zero tc.out;have:=xu.out;rw[e1,e2,jdw,List.drop_eq_nil_iff] at this;have hk:k=zs.length:=by have:=mu.out;omega
 exact⟨⟨_,rfl⟩,.inl ⟨F,hk▸xi.out⟩⟩)
 ·(
 have cQ:Hid (r1≠[]\/r2≠[]):=by (
 show _\/_
 rcases Nat.eq_zero_or_pos n1 with h | h
 ·exact .inr fun e=>iO ⟨h,by rw[<- ji,e];rfl⟩
 ·exact .inl fun e=>by rw[e] at eo;simp at eo;omega)
 obtain⟨q,hq⟩:=exq (jfu jja r1 r2);have lf:Hid (∀ W',(LnT.mk A1 c1 B1 d1 r1).In N W'->(LnT.mk A2 c2 B2 d2 r2).In N W'->N<=W'.heap.size->Calls Tryz.prog 130 #[.slice A1 n1 c1,.slice A2 n2 c2,.func (.func 85) #[] #[]] W' (jz6 W' (.int .i64 q))):=by (
 intro W' h1 h2 h3;have:=jo3 _ _ N W' h1 h2 h3;dsimp only at this
 rw[eo,ji,hq] at this;exact this)
 have HQ:=Lh hq;clear hq eo ji;obtain⟨V1,jJ⟩:=exq (wr.alloc (.cells #[.slice none 0 0,.int .u64 0,.int .u64 0,.slice none 0 0,.slice none 0 0,.slice none 0 0,.int .u64 0,.int .u64 0,.slice none 0 0,.slice none 0 0,.slice none 0 0] 150));have af:Below wr.heap.size wr V1:=by rw[<- jJ];exact jzf _ _
 have cK:Blk V1 wr.heap.size 150 #[.slice none 0 0,.int .u64 0,.int .u64 0,.slice none 0 0,.slice none 0 0,.slice none 0 0,.int .u64 0,.int .u64 0,.slice none 0 0,.slice none 0 0,.slice none 0 0]:=by rw[<- jJ];exact Blk.new _ _ _
 have cf:=HFB.out V1 (fun b hb=>(af.block b (ltl hb lW)).trans (yf.out b hb));have fr:=lS.below af;have eD:=cD.below af;have ca0:V1.cell? ⟨Pa,0,none⟩=some (.slice A1 n1 c1):=jza fr 0 _ rfl;have cb0:V1.cell? ⟨Pb,0,none⟩=some (.slice A2 n2 c2):=jza eD 0 _ rfl;have iH:=Lh (HIL.out.keep (af.mono lW));have jc:=Lh (HIK.out.keep (af.mono lW));have fw:N<=V1.heap.size:=leT lW af.size;have ig:wr.heap.size≠Pa:=by have:=lS.lt;omega
 have cu:wr.heap.size≠Pb:=by have:=cD.lt;omega
 have hg:decide (0<n1)=true\/(decide (0<n1)=false/\decide (0<n2)=true):=by (
 rcases Nat.eq_zero_or_pos n1 with h | h
 ·exact .inr ⟨decide_eq_false (by omega),decide_eq_true (Nat.pos_of_ne_zero fun h2=>iO ⟨h,h2⟩)⟩
 ·exact .inl (decide_eq_true h))
 clear iO;rcases hg with hz | ⟨hz,db⟩
 all_goals
   gi_upto_region 3 with fail
   gi_wp2_with fail
   first
     | refine⟨trivial,fun h=>absurd h (by simp[Fence.wide]),(callsIn_wide.2 (lf.out V1 iH.out jc.out fw)).mono ?_⟩
     | refine⟨trivial,(callsIn_wide.2 (lf.out V1 iH.out jc.out fw)).mono ?_⟩
   rintro e W1 ⟨rfl,ab⟩
   replace cK:=cK.below ab
   replace fr:=fr.below ab
   replace eD:=eD.below ab
   replace iH:=Lh (iH.out.keep (ab.mono fw))
   replace jc:=Lh (jc.out.keep (ab.mono fw))
   have gD:=Lh (af.trans (ab.mono af.size))
   replace fw:N<=W1.heap.size:=leT fw ab.size
   clear cf ca0 cb0 wa0 wb0 af ab jJ lf
   clear V1
   gi_upto_if 28 with fail
   gi_cut [] from 27 (fun wx=>∃ (A3 B3:Option Addr) (c3 d3:Nat) (r3:List (Ck×Vl)) (u:Value) (an aM:Int) (aK:Option Addr) (aL:Nat) (aN:List Str) (aO:Option Addr) (aP:Nat) (aQ:List Ck) (aR:Option Addr) (aS:Nat) (aT:List Vl),Blk wx wr.heap.size 150 #[u,.int .u64 an,.int .u64 aM,.slice aK aN.length aL,.slice aO aQ.length aP,.slice aR aT.length aS,.int .u64 0,.int .u64 0,.slice none 0 0,.slice none 0 0,.slice none 0 0]/\Blk wx Pa 143 #[.slice A3 r3.length c3,.slice B3 r3.length d3]/\Blk wx Pb 143 #[.slice A2 n2 c2,.slice B2 n2 d2]/\(LnT.mk A3 c3 B3 d3 r3).In N wx/\(LnT.mk A2 c2 B2 d2 r2).In N wx/\KJ W.heap.size F wr wx/\wr.heap.size<wx.heap.size/\Hid ((q<=0/\∃ m,u=jjk m/\r1=(m,Vl.mk an aM aK aL aN aO aP aQ aR aS aT) :: r3)\/(0<q/\r3=r1/\Vl.mk an aM aK aL aN aO aP aQ aR aS aT=vlZ)))
   case first =>
     obtain⟨bq,dg⟩:=exq (decide (q<=0))
     simp only[dg]
     cases bq with
     | true =>
       have iz:=Lh (of_decide_eq_true dg)
       clear dg
       obtain⟨x,r3,gi⟩:=low_le (by rw[HQ.out];exact iz.out) cQ.out
       have HR1:=Lh gi
       have nB:Hid (∀ W',(LnT.mk A1 c1 B1 d1 r1).In N W'->N<=W'.heap.size->Calls Tryz.prog 131 #[.agg #[.slice A1 n1 c1,.slice B1 n1 d1]] W' (jt1 N c1 d1 x r3 W')):=by
         intro W' h1 h2
         rw[gi] at h1
         have:=jfh A1 B1 c1 d1 x r3 N W' h1 h2
         rw[<- gi,la.out] at this
         exact this
       clear gi
       obtain⟨q0,q1⟩:=blk2c fr
       gi_wp2_with fail
       first
         | refine⟨trivial,fun h=>absurd h (by simp[Fence.wide]),(callsIn_wide.2 (nB.out W1 iH.out fw)).mono ?_⟩
         | refine⟨trivial,(callsIn_wide.2 (nB.out W1 iH.out fw)).mono ?_⟩
       rintro e W2 ⟨A3,B3,rfl,jL,de⟩
       obtain⟨⟨xkA,xkc,xkl⟩,xn,xM,xK,xL,xN,xO,xP,xQ,xR,xS,xU⟩:=x
       simp only[jzh,jjk,V4.Ck.v]
       have iA:=Lh jL
       have eT:=Lh (gD.out.trans (de.mono gD.out.size))
       replace cK:=cK.below de
       replace fr:=fr.below de
       replace eD:=eD.below de
       replace jc:=Lh (jc.out.keep (de.mono fw))
       have dy:=cK.lt
       clear q0 q1 de jL
       obtain⟨p0,p1,p2,p3,p4⟩:=blk5 cK
       have p5:W2.cell? ⟨wr.heap.size,5,none⟩=some (.slice none 0 0):=jza cK 5 _ rfl
       have p6:W2.cell? ⟨wr.heap.size,6,none⟩=some (.int .u64 0):=jza cK 6 _ rfl
       have p7:W2.cell? ⟨wr.heap.size,7,none⟩=some (.int .u64 0):=jza cK 7 _ rfl
       have p8:W2.cell? ⟨wr.heap.size,8,none⟩=some (.slice none 0 0):=jza cK 8 _ rfl
       have p9:W2.cell? ⟨wr.heap.size,9,none⟩=some (.slice none 0 0):=jza cK 9 _ rfl
       have p10:W2.cell? ⟨wr.heap.size,10,none⟩=some (.slice none 0 0):=jza cK 10 _ rfl
       have f0:W2.frozen? ⟨wr.heap.size,0,none⟩=false:=jzb cK 0
       have f1:W2.frozen? ⟨wr.heap.size,1,none⟩=false:=jzb cK 1
       have f2:W2.frozen? ⟨wr.heap.size,2,none⟩=false:=jzb cK 2
       have f3:W2.frozen? ⟨wr.heap.size,3,none⟩=false:=jzb cK 3
       have f4:W2.frozen? ⟨wr.heap.size,4,none⟩=false:=jzb cK 4
       have f5:W2.frozen? ⟨wr.heap.size,5,none⟩=false:=jzb cK 5
       have f6:W2.frozen? ⟨wr.heap.size,6,none⟩=false:=jzb cK 6
       have f7:W2.frozen? ⟨wr.heap.size,7,none⟩=false:=jzb cK 7
       have f8:W2.frozen? ⟨wr.heap.size,8,none⟩=false:=jzb cK 8
       have f9:W2.frozen? ⟨wr.heap.size,9,none⟩=false:=jzb cK 9
       have f10:W2.frozen? ⟨wr.heap.size,10,none⟩=false:=jzb cK 10
       obtain⟨q0,q1⟩:=blk2c fr
       have g0:W2.frozen? ⟨Pa,0,none⟩=false:=jzb fr 0
       have g1:W2.frozen? ⟨Pa,1,none⟩=false:=jzb fr 1
       gi_wp2_with fail
       gi_meet
       case rel =>
         have kB:Below N W2 (jgg W2 wr.heap.size Pa (.slice xkA xkl.length xkc) (.int .u64 xn) (.int .u64 xM) (.slice xK xN.length xL) (.slice xO xQ.length xP) (.slice xR xU.length xS) (.slice A3 r3.length (c1 - 1)) (.slice B3 r3.length (d1 - 1))):=jfg (Below.refl _ _) lW (leT jK sN)
         exact⟨A3,B3,c1 - 1,d1 - 1,r3,_,xn,xM,xK,xL,xN,xO,xP,xQ,xR,xS,xU,jlx cK ig,jlw fr ig,jlv eD cu.symm wG.symm,iA.out.keep kB,jc.out.keep kB,jux (KJ.of_below eT.out ns) (Nat.le_refl _) ns sN j4,by simpa using dy,.inl ⟨iz.out,⟨xkA,xkc,xkl⟩,rfl,HR1.out⟩⟩
     | false =>
       have iz:=Lh (show 0<q by have:=of_decide_eq_false dg;omega)
       clear dg
       gi_wp2_with fail
       gi_meet
       case rel=>exact⟨A1,B1,c1,d1,r1,_,0,0,none,0,[],none,0,[],none,0,[],cK,by rw[la.out];exact fr,eD,iH.out,jc.out,KJ.of_below gD.out ns,cK.lt,.inr ⟨iz.out,rfl,rfl⟩⟩
   case rest =>
     obtain⟨A3,B3,c3,d3,r3,u,an,aM,aK,aL,aN,aO,aP,aQ,aR,aS,aT,cW,np,dt,jL,fX,lX,sK,H1⟩:=hcut
     have iA:=Lh jL
     have mb:=Lh fX
     have tg:=Lh lX
     have jn:N<=wc.heap.size:=by omega
     clear cK fr eD iH jc gD fw jL fX lX
     gi_upto_if 38 with fail
     gi_cut [] from 37 (fun wx=>∃ (A3 B3 A4 B4:Option Addr) (c3 d3 c4 d4:Nat) (r3 r4:List (Ck×Vl)) (u:Value) (an aM:Int) (aK:Option Addr) (aL:Nat) (aN:List Str) (aO:Option Addr) (aP:Nat) (aQ:List Ck) (aR:Option Addr) (aS:Nat) (aT:List Vl) (bn bM:Int) (bK:Option Addr) (bL:Nat) (bN:List Str) (bP:Option Addr) (bQ:Nat) (bS:List Ck) (bT:Option Addr) (bU:Nat) (bW:List Vl),Blk wx wr.heap.size 150 #[u,.int .u64 an,.int .u64 aM,.slice aK aN.length aL,.slice aO aQ.length aP,.slice aR aT.length aS,.int .u64 bn,.int .u64 bM,.slice bK bN.length bL,.slice bP bS.length bQ,.slice bT bW.length bU]/\Blk wx Pa 143 #[.slice A3 r3.length c3,.slice B3 r3.length d3]/\Blk wx Pb 143 #[.slice A4 r4.length c4,.slice B4 r4.length d4]/\(LnT.mk A3 c3 B3 d3 r3).In N wx/\(LnT.mk A4 c4 B4 d4 r4).In N wx/\KJ W.heap.size F wr wx/\wr.heap.size<wx.heap.size/\Hid (∃ m,u=jjk m/\mix jja vlZ r1 r2=(m,Vl.mk an aM aK aL aN aO aP aQ aR aS aT,Vl.mk bn bM bK bL bN bP bQ bS bT bU bW) :: mix jja vlZ r3 r4/\r3.length+r4.length<r1.length+r2.length))
     case first =>
       obtain⟨bq,dg⟩:=exq (decide (0<=q))
       simp only[dg]
       cases bq with
       | true =>
         have iz:=Lh (of_decide_eq_true dg)
         clear dg
         obtain⟨y,r4,fK⟩:=low_ge (c:=jja) (r1:=r1) (r2:=r2) (by rw[HQ.out];exact iz.out)
         have a8:=Lh fK
         have nB:Hid (∀ W',(LnT.mk A2 c2 B2 d2 r2).In N W'->N<=W'.heap.size->Calls Tryz.prog 131 #[.agg #[.slice A2 n2 c2,.slice B2 n2 d2]] W' (jt1 N c2 d2 y r4 W')):=by
           intro W' h1 h2
           rw[fK] at h1
           have:=jfh A2 B2 c2 d2 y r4 N W' h1 h2
           rw[<- fK,tc.out] at this
           exact this
         clear fK
         obtain⟨q0,q1⟩:=blk2c dt
         gi_wp2_with fail
         first
           | refine⟨trivial,fun h=>absurd h (by simp[Fence.wide]),(callsIn_wide.2 (nB.out wc mb.out jn)).mono ?_⟩
           | refine⟨trivial,(callsIn_wide.2 (nB.out wc mb.out jn)).mono ?_⟩
         rintro e W2 ⟨A4,B4,rfl,nu,de⟩
         obtain⟨⟨ykA,ykc,ykl⟩,yn,yM,yK,yL,yN,yO,yP,yQ,yR,yS,yT⟩:=y
         simp only[jzh,jjk,V4.Ck.v]
         have ti:=Lh nu
         have tf:=Lh (tg.out.later de (by omega))
         replace cW:=cW.below de
         replace np:=np.below de
         replace dt:=dt.below de
         replace iA:=Lh (iA.out.keep (de.mono jn))
         have dy:=cW.lt
         clear q0 q1 de nu
         obtain⟨p0,p1,p2,p3,p4⟩:=blk5 cW
         have p5:W2.cell? ⟨wr.heap.size,5,none⟩=some (.slice aR aT.length aS):=jza cW 5 _ rfl
         have p6:W2.cell? ⟨wr.heap.size,6,none⟩=some (.int .u64 0):=jza cW 6 _ rfl
         have p7:W2.cell? ⟨wr.heap.size,7,none⟩=some (.int .u64 0):=jza cW 7 _ rfl
         have p8:W2.cell? ⟨wr.heap.size,8,none⟩=some (.slice none 0 0):=jza cW 8 _ rfl
         have p9:W2.cell? ⟨wr.heap.size,9,none⟩=some (.slice none 0 0):=jza cW 9 _ rfl
         have p10:W2.cell? ⟨wr.heap.size,10,none⟩=some (.slice none 0 0):=jza cW 10 _ rfl
         have f0:W2.frozen? ⟨wr.heap.size,0,none⟩=false:=jzb cW 0
         have f1:W2.frozen? ⟨wr.heap.size,1,none⟩=false:=jzb cW 1
         have f2:W2.frozen? ⟨wr.heap.size,2,none⟩=false:=jzb cW 2
         have f3:W2.frozen? ⟨wr.heap.size,3,none⟩=false:=jzb cW 3
         have f4:W2.frozen? ⟨wr.heap.size,4,none⟩=false:=jzb cW 4
         have f5:W2.frozen? ⟨wr.heap.size,5,none⟩=false:=jzb cW 5
         have f6:W2.frozen? ⟨wr.heap.size,6,none⟩=false:=jzb cW 6
         have f7:W2.frozen? ⟨wr.heap.size,7,none⟩=false:=jzb cW 7
         have f8:W2.frozen? ⟨wr.heap.size,8,none⟩=false:=jzb cW 8
         have f9:W2.frozen? ⟨wr.heap.size,9,none⟩=false:=jzb cW 9
         have f10:W2.frozen? ⟨wr.heap.size,10,none⟩=false:=jzb cW 10
         obtain⟨q0,q1⟩:=blk2c dt
         have g0:W2.frozen? ⟨Pb,0,none⟩=false:=jzb dt 0
         have g1:W2.frozen? ⟨Pb,1,none⟩=false:=jzb dt 1
         gi_wp2_with fail
         gi_meet
         case rel =>
           have kB:Below N W2 (jgf W2 wr.heap.size Pb (.slice ykA ykl.length ykc) (.int .u64 yn) (.int .u64 yM) (.slice yK yN.length yL) (.slice yO yQ.length yP) (.slice yR yT.length yS) (.slice A4 r4.length (c2 - 1)) (.slice B4 r4.length (d2 - 1))):=jff (Below.refl _ _) lW (leT jK sM)
           refine⟨A3,B3,A4,B4,c3,d3,c2 - 1,d2 - 1,r3,r4,_,an,aM,aK,aL,aN,aO,aP,aQ,aR,aS,aT,yn,yM,yK,yL,yN,yO,yP,yQ,yR,yS,yT,jlu cW cu,jls np ig.symm wG,jlt dt cu,iA.out.keep kB,ti.out.keep kB,juw tf.out (Nat.le_refl _) ns sM j3,by simpa using dy,⟨ykA,ykc,ykl⟩,rfl,?_,?_⟩
           rotate_left
           · have h2:=congrArg List.length a8.out
             simp only[List.length_cons] at h2
             rcases H1.out with ⟨_,m,_,h3⟩ | ⟨_,h3,_⟩
             · have h4:=congrArg List.length h3
               simp only[List.length_cons] at h4
               omega
             · rw[h3];omega
           rw[a8.out]
           rcases H1.out with ⟨h1,m,_,h3⟩ | ⟨h1,h2,h3⟩
           · rw[h3]
             refine jva _ _ _ _ ?_
             have:=HQ.out
             rw[h3,a8.out,jfu] at this
             have:=iz.out
             dsimp only at *
             omega
           · rw[h2,h3]
             exact mixBT (by rw[<- a8.out,HQ.out];exact h1)
       | false =>
         have iz:=Lh (show q<0 by have:=of_decide_eq_false dg;omega)
         clear dg
         gi_wp2_with fail
         gi_meet
         case rel =>
           rcases H1.out with ⟨h1,m,h2,h3⟩ | ⟨h1,_⟩
           · refine⟨A3,B3,A2,B2,c3,d3,c2,d2,r3,r2,u,an,aM,aK,aL,aN,aO,aP,aQ,aR,aS,aT,0,0,none,0,[],none,0,[],none,0,[],cW,np,by rw[tc.out];exact dt,iA.out,mb.out,tg.out,sK,m,h2,?_,?_⟩
             rotate_left
             · have h4:=congrArg List.length h3
               simp only[List.length_cons] at h4
               omega
             rw[h3]
             exact mixAT (by rw[<- h3,HQ.out];exact iz.out)
           · exact absurd iz.out (by omega)
     case rest =>
       clear cW np dt iA mb tg sK H1 jn
       obtain⟨A3,B3,A4,B4,c3,d3,c4,d4,r3,r4,u,an,aM,aK,aL,aN,aO,aP,aQ,aR,aS,aT,bn,bM,bK,bL,bN,bP,bQ,bS,bT,bU,bW,gA,wH,ng,jL,nu,lX,sK,m,uC,j6,aq⟩:=hcut
       have HL5:=Lh aq
       obtain⟨jC,fC,cG⟩:=jcx (xu.out.trans j6)
       obtain⟨fn,tmps,assign,body,hy,hR⟩:=jqh (m':=5) (HY.out k F _ wc jC (HJ.out _ _ _ _ xi.out lX) (by omega))
       unfold jyb jzx at hy
       simp only[V4.Vl.n,V4.Vl.m,V4.Vl.s1,V4.Vl.c1,V4.Vl.v1,<- uC] at hy
       have fN:=hR.mono fun e W' h=>jwf h
       have iA:=Lh jL
       have ti:=Lh nu
       have ja:=Lh j6
       have mb:=Lh fC
       have xh:=Lh cG
       have sO:N<=wc.heap.size:=by omega
       have HBc:Hid (∀ b,b<N->wc.heap[b]?=W.heap[b]?):=fun b hb=>(lX.bel.block b (ltl hb jK)).trans (yf.out b hb)
       clear hR jC jL nu j6 fC cG uC lX aq
       obtain⟨p0,p1,p2,p3,p4⟩:=blk5 gA
       have p5:wc.cell? ⟨wr.heap.size,5,none⟩=some (.slice aR aT.length aS):=jza gA 5 _ rfl
       have p6:wc.cell? ⟨wr.heap.size,6,none⟩=some (.int .u64 bn):=jza gA 6 _ rfl
       have p7:wc.cell? ⟨wr.heap.size,7,none⟩=some (.int .u64 bM):=jza gA 7 _ rfl
       have p8:wc.cell? ⟨wr.heap.size,8,none⟩=some (.slice bK bN.length bL):=jza gA 8 _ rfl
       have p9:wc.cell? ⟨wr.heap.size,9,none⟩=some (.slice bP bS.length bQ):=jza gA 9 _ rfl
       have p10:wc.cell? ⟨wr.heap.size,10,none⟩=some (.slice bT bW.length bU):=jza gA 10 _ rfl
       gi_wp2_with fail
       refine fN.mono ?_
       clear hy fN p0 p1 p2 p3 p4 p5 p6 p7 p8 p9 p10
       rintro e W5 ⟨r,rfl,hr⟩
       cases r with
       | true =>
         obtain⟨F',nV,fJ,dD⟩:=hr
         have mM:¬ F' Pa:=fun h=>by
           rcases nV _ h with h | h
           · exact j4 h
           · have:=wH.lt;omega
         have mL:¬ F' Pb:=fun h=>by
           rcases nV _ h with h | h
           · exact j3 h
           · have:=ng.lt;omega
         have HA:Hid (AtT w W N Pa Pb zs (k+1) F' ⟨A3,c3,B3,d3,r3⟩ ⟨A4,c4,B4,d4,r4⟩ J W5):=⟨wH.kp dD sN j4,ng.kp dD sM j3,iA.out.kp dD sO,ti.out.kp dD sO,mb.out,xh.out,fJ,mM,mL,leT (by omega) dD.size⟩
         have HB5:Hid (∀ b,b<N->W5.heap[b]?=wc.heap[b]?):=fun b hb=>dD.low hb (ltl hb sO)
         gi_wp2_with fail
         go_roundw
         case rel=>exact⟨k+1,_,_,_,HA.out,fun b hb=>(HB5.out b hb).trans (HBc.out b hb)⟩
         case measure=>rw[HA.out.lens.1,HA.out.lens.2,xe.out.1,xe.out.2];exact HL5.out
       | false =>
         gi_wp2_with fail
         refine bodyPost_ret (results_none rfl _ _ _) rfl ?_
         exact⟨⟨_,rfl⟩,.inr ⟨k,by have:=xh.out;omega,hr.1⟩⟩)))
theorem OkT.up{N N':Nat}{w:World}{x:Ck}(h:OkT N w x)(hN:N<=N'):OkT N' w x:=V4.Ck.Inp.mono h fun _ hb=>ltl hb hN
theorem LnT.In.up{N N':Nat}{w:World}{L:LnT}(h:L.In N w)(hN:N<=N'):L.In N' w :=
  ⟨h.ml.mono fun _ hb=>ltl hb hN,h.vl.mono fun _ hb=>ltl hb hN,h.cap,h.top,h.dap,h.dop,fun p hp=>(h.mo p hp).up hN,fun p hp=>(h.vk p hp).mono fun _ hb=>ltl hb hN⟩
def jik(zs:List (Ck×Vl×Vl))(w:World)(e:Ending)(w':World):Prop :=
  ∃ b1 b2 b3,e = .returned (.func (.func 129) #[] #[.pointer (some ⟨b1,0,none⟩),.pointer (some ⟨b2,0,none⟩),.pointer (some ⟨b3,0,none⟩)])/\Below w.heap.size w w' /\
    ∀ N w2,Below w'.heap.size w' w2->w'.heap.size<=N->N<=w2.heap.size->jrz Tryz.prog 129 #[.pointer (some ⟨b1,0,none⟩),.pointer (some ⟨b2,0,none⟩),.pointer (some ⟨b3,0,none⟩)] jyb N zs w2
theorem jlj(L K:LnT)(w:World)(hL:L.In w.heap.size w)(hK:K.In w.heap.size w):Calls Tryz.prog 84 #[L.val,K.val,.func (.func 85) #[] #[]] w (jik (mix jja vlZ L.l K.l) w):=by
 obtain⟨V,hV⟩:=exq (((w.alloc (.cells #[.slice L.A L.l.length L.c,.slice L.B L.l.length L.d] 143)).alloc (.cells #[.slice K.A K.l.length K.c,.slice K.B K.l.length K.d] 143)).alloc (.cells #[.func (.func 85) #[] #[]] 145));have hb:Below w.heap.size w V:=by rw[<- hV];exact jzk (jzk (jzk (Below.refl _ _)))
 have h1:Blk V w.heap.size 143 #[.slice L.A L.l.length L.c,.slice L.B L.l.length L.d]:=by rw[<- hV];exact ((Blk.new w _ _).below (jzf _ _)).below (jzf _ _)
 have h2:Blk V (w.heap.size+1) 143 #[.slice K.A K.l.length K.c,.slice K.B K.l.length K.d]:=by (rw[<- hV];have:=Blk.new (w.alloc (.cells #[.slice L.A L.l.length L.c,.slice L.B L.l.length L.d] 143)) 143 #[.slice K.A K.l.length K.c,.slice K.B K.l.length K.d];rw[World.size_alloc] at this;exact this.below (jzf _ _))
 have h3:Blk V (w.heap.size+1+1) 145 #[.func (.func 85) #[] #[]]:=by (rw[<- hV];have:=Blk.new ((w.alloc (.cells #[.slice L.A L.l.length L.c,.slice L.B L.l.length L.d] 143)).alloc (.cells #[.slice K.A K.l.length K.c,.slice K.B K.l.length K.d] 143)) 145 #[.func (.func 85) #[] #[]];rw[World.size_alloc,World.size_alloc] at this;exact this)
 have HG:Hid (jik (mix jja vlZ L.l K.l) w (.returned (.func (.func 129) #[] #[.pointer (some ⟨w.heap.size,0,none⟩),.pointer (some ⟨w.heap.size+1,0,none⟩),.pointer (some ⟨w.heap.size+1+1,0,none⟩)])) V):=by (refine⟨_,_,_,rfl,hb,fun N w2 ab fw jn=>?_⟩;have ar:Below w.heap.size w w2:=hb.trans (ab.mono hb.size);have wJ:w.heap.size<=N:=leT hb.size fw;exact jc3 _ _ _ L K N w2 ((hL.keep ar).up wJ) ((hK.keep ar).up wJ) jn (h1.below ab) (h2.below ab) (h3.below ab) (ltl h3.lt fw))
 rw[<- hV] at HG;clear hL hK h1 h2 h3 hb hV V;unfold LnT.val;go_enter Tryz.func84,Tryz.ntmps84;go_wp2_with fail;go_ret;exact HG.out
end J5
namespace J5
open Go.RowKit Go.Shelf
open C3 (Tk In jzk jzf)
open V4 (Va Vl Ck jzt jzj jzh jzw jxy)
def jwz(n:Int):Value := .iface 56 (.int .i64 n)
def jyi(w:World)(o:Option Va)(e:Ending)(w':World):Prop :=
  (∃ x:Vl,o=some x.er/\e = .returned (.tuple #[x.val,.nilIface])/\x.Inp (fun b=>w.heap.size<=b/\b<w'.heap.size) w'/\Below w.heap.size w w') \/
  (o=none/\e = .returned (.tuple #[vlZ.val,jwz 13])/\Below w.heap.size w w')
theorem jzo{fn:Func}{p u:Tmp}(h:fn.results=#[.cell p 30,.tmp u])(tmps:Array Value)(w:World)(g:Nat)(v0 v1 v2 v3 v4:Value)(hp:tmps.getD p undef = .pointer (some ⟨g,0,none⟩))(h0:w.cell? ⟨g,0,none⟩=some v0)(h1:w.cell? ⟨g,1,none⟩=some v1)(h2:w.cell? ⟨g,2,none⟩=some v2)(h3:w.cell? ⟨g,3,none⟩=some v3)(h4:w.cell? ⟨g,4,none⟩=some v4):(results fn tmps).run Tryz.prog w = .ok (.tuple #[.agg #[v0,v1,v2,v3,v4],tmps.getD u undef]) w:=by
 have iD:tmps[p]?.getD undef = .pointer (some ⟨g,0,none⟩):=by simpa using hp
 simp[results,h,iD,asAddr]
 go_simp
theorem rcv5 {fn:Func} {p u:Tmp} (h:fn.results=#[.cell p 30,.tmp u]) (tmps:Array Value) (w:World) (g:Nat) (v0 v1 v2 v3 v4:Value) (hp:tmps.getD p undef = .pointer (some ⟨g,0,none⟩)) (hq:Blk w g 30 #[v0,v1,v2,v3,v4]):(results fn tmps).run Tryz.prog w = .ok (.tuple #[.agg #[v0,v1,v2,v3,v4],tmps.getD u undef]) w :=
  jzo h tmps w g v0 v1 v2 v3 v4 hp (jza hq 0 _ rfl) (jza hq 1 _ rfl) (jza hq 2 _ rfl) (jza hq 3 _ rfl) (jza hq 4 _ rfl)
theorem jve:vlZ.val = .agg #[.int .u64 0,.int .u64 0,.slice none 0 0,.slice none 0 0,.slice none 0 0]:=rfl
theorem jp9:vlZ.er = .zero:=by unfold vlZ;rw[jzw];rfl
def jjj(x:Vl)(i:Nat):Vl:=x.vs[i]?.getD vlZ
theorem jk4(x:Vl)(i:Nat):(jjj x i).er=jq7 x.er i:=by
 obtain⟨n,m,sA,sc,ss,cA,cc,cs,vA,vc,vs⟩:=x;rw[jzw];unfold jjj jq7;simp only[V4.Vl.vs,Va.v,List.getElem?_map];cases vs[i]? with
 | none=>exact jp9
 | some y=>rfl
theorem jb3(x:Vl)(i:Nat)(w:World)(hx:x.In w)(h:x.vs=[]\/i<x.vs.length):Calls Tryz.prog 78 #[x.val,.int .i64 i] w fun e w'=>e = .returned (jjj x i).val/\(jjj x i).In w'/\Below w.heap.size w w':=by
 obtain⟨n,m,sA,sc,ss,cA,cc,cs,vA,vc,vs⟩:=x;simp only[V4.Vl.vs] at h;have hp:=hx.out;have hb:Below w.heap.size w ((w.alloc (.cells #[.int .u64 n,.int .u64 m,.slice sA ss.length sc,.slice cA cs.length cc,.slice vA vs.length vc] 30)).alloc (.cells #[.int .u64 0,.int .u64 0,.slice none 0 0,.slice none 0 0,.slice none 0 0] 30)):=jzk (jzk (Below.refl _ _));have HB:Hid (∀ v0 v1 v2 v3 v4,Below w.heap.size w ((((((((w.alloc (.cells #[.int .u64 n,.int .u64 m,.slice sA ss.length sc,.slice cA cs.length cc,.slice vA vs.length vc] 30)).alloc (.cells #[.int .u64 0,.int .u64 0,.slice none 0 0,.slice none 0 0,.slice none 0 0] 30)).setCell ⟨w.heap.size+1,0,none⟩ v0).setCell ⟨w.heap.size+1,1,none⟩ v1).setCell ⟨w.heap.size+1,2,none⟩ v2).setCell ⟨w.heap.size+1,3,none⟩ v3).setCell ⟨w.heap.size+1,4,none⟩ v4))):=fun v0 v1 v2 v3 v4 =>
   ((((hb.setCell (by simp) _).setCell (by simp) _).setCell (by simp) _).setCell (by simp) _).setCell (by simp) _
 by_cases h0:vs=[]
 ·(subst h0;have HH:Hid (jjj (Vl.mk n m sA sc ss cA cc cs vA vc []) i=vlZ):=rfl;rw[HH.out,jve];clear hx hp h hb;simp only[jzh,List.length_nil] at HB ⊢;go_enter Tryz.func78,Tryz.ntmps78;go_wp2_with fail;refine bodyPost_ret (V4.jzv rfl _ _ (w.heap.size+1) (.int .u64 0) (.int .u64 0) (.slice none 0 0) (.slice none 0 0) (.slice none 0 0) rfl (by go_simp) (by go_simp) (by go_simp) (by go_simp) (by go_simp)) rfl ?_;exact⟨rfl,jxy _ _,jzk (jzk (Below.refl _ _))⟩)
 ·(
 have hi:i<vs.length:=h.resolve_left h0;obtain⟨y,hy⟩:∃ y,vs[i]?=some y:=⟨_,List.getElem?_eq_getElem hi⟩
 have HH:Hid (jjj (Vl.mk n m sA sc ss cA cc cs vA vc vs) i=y):=by show jjj _ _=_;unfold jjj;simp only[V4.Vl.vs,hy,Option.getD_some]
 rw[HH.out];obtain⟨b,off,rfl,cD,c0,c1,c2,c3,c4⟩:=V4.jqo hp.vl hy;have HY:=Lh (hp.vk y (List.mem_of_getElem? hy));have nO:vs.length<=9223372036854775807:=by have:=hp.vb;unfold maxLen at this;omega
 have hne:((vs.length:Int) == 0)=false:=beq_eq_false_iff_ne.2 (by omega);obtain⟨yn,ym,yK,yL,yN,yO,yP,yQ,yR,yS,yT⟩:=y;simp only[V4.Vl.n,V4.Vl.m,V4.Vl.s1,V4.Vl.c1,V4.Vl.v1] at c0 c1 c2 c3 c4;obtain⟨V,hV⟩:=exq ((w.alloc (.cells #[.int .u64 n,.int .u64 m,.slice sA ss.length sc,.slice cA cs.length cc,.slice (some ⟨b,off,none⟩) vs.length vc] 30)).alloc (.cells #[.int .u64 0,.int .u64 0,.slice none 0 0,.slice none 0 0,.slice none 0 0] 30));rw[hV] at hb HB;replace c0:=(hb.cell (p:=⟨b,off+i*5,none⟩) cD).trans c0;replace c1:=(hb.cell (p:=⟨b,off+i*5+1,none⟩) cD).trans c1;replace c2:=(hb.cell (p:=⟨b,off+i*5+2,none⟩) cD).trans c2;replace c3:=(hb.cell (p:=⟨b,off+i*5+3,none⟩) cD).trans c3;replace c4:=(hb.cell (p:=⟨b,off+i*5+4,none⟩) cD).trans c4;have k4:V.cell? ⟨w.heap.size,4,none⟩=some (.slice (some ⟨b,off,none⟩) vs.length vc):=by (rw[<- hV];exact ((jzf _ _).cell (p:=⟨w.heap.size,4,none⟩) (by simp)).trans (V4.jzs 4 _ rfl))
 have dj:Blk V (w.heap.size+1) 30 #[.int .u64 0,.int .u64 0,.slice none 0 0,.slice none 0 0,.slice none 0 0]:=by (rw[<- hV];have:=Blk.new (w.alloc (.cells #[.int .u64 n,.int .u64 m,.slice sA ss.length sc,.slice cA cs.length cc,.slice (some ⟨b,off,none⟩) vs.length vc] 30)) 30 #[.int .u64 0,.int .u64 0,.slice none 0 0,.slice none 0 0,.slice none 0 0];rw[World.size_alloc] at this;exact this)
 obtain⟨b0,b1,b2,b3,b4⟩:=blk5 dj;obtain⟨f0,f1,f2,f3,f4⟩:=fro5 dj;clear hx hp h hb dj hy h0;rw[jzh];go_enter Tryz.func78,Tryz.ntmps78;go_wp2_with fail;refine bodyPost_ret (V4.jzv rfl _ _ (w.heap.size+1) (.int .u64 yn) (.int .u64 ym) (.slice yK yN.length yL) (.slice yO yQ.length yP) (.slice yR yT.length yS) rfl (by go_simp) (by go_simp) (by go_simp) (by go_simp) (by go_simp)) rfl ?_;exact⟨rfl,HY.out.later (HB.out _ _ _ _ _),HB.out _ _ _ _ _⟩)
def jt3(n:Nat)(x:Vl)(w:World)(e:Ending)(w':World):Prop:=e = .returned (if 40<n then .tuple #[vlZ.val,jwz 13] else .tuple #[x.val,.nilIface])/\Below w.heap.size w w'
theorem jcu(A:Option Addr)(n c:Nat)(x:Vl)(w:World):Calls Tryz.prog 41 #[.slice A n c,x.val] w (jt3 n x w):=by
 obtain⟨xn,xm,xK,xL,xN,xO,xP,xQ,xR,xS,xU⟩:=x;unfold jt3;rw[jzh,jve];by_cases hn:40<n
 ·(have hd:decide ((40:Int)<(n:Int))=true:=decide_eq_true (by omega);rw[if_pos hn];clear hn;go_enter Tryz.func41,Tryz.ntmps41;go_wp2_with fail;refine bodyPost_ret (jzo rfl _ _ (w.heap.size+1) (.int .u64 0) (.int .u64 0) (.slice none 0 0) (.slice none 0 0) (.slice none 0 0) rfl (by go_simp) (by go_simp) (by go_simp) (by go_simp) (by go_simp)) rfl ?_;exact⟨rfl,jzk (jzk (Below.refl _ _))⟩)
 ·(have hd:decide ((40:Int)<(n:Int))=false:=decide_eq_false (by omega);rw[if_neg hn];clear hn;go_enter Tryz.func41,Tryz.ntmps41;go_wp2_with fail;refine bodyPost_ret (jzo rfl _ _ (w.heap.size+1) (.int .u64 xn) (.int .u64 xm) (.slice xK xN.length xL) (.slice xO xQ.length xP) (.slice xR xU.length xS) rfl (by go_simp) (by go_simp) (by go_simp) (by go_simp) (by go_simp)) rfl ?_;exact⟨rfl,jzk (jzk (Below.refl _ _))⟩)
theorem jct(A:Option Addr)(n c:Nat)(x:Vl)(w:World):Calls Tryz.prog 83 #[.slice A n c,x.val] w (jt3 n x w):=by
 obtain⟨xn,xm,xK,xL,xN,xO,xP,xQ,xR,xS,xU⟩:=x;unfold jt3;rw[jzh,jve];by_cases hn:40<n
 ·(have hd:decide ((40:Int)<(n:Int))=true:=decide_eq_true (by omega);rw[if_pos hn];clear hn;go_enter Tryz.func83,Tryz.ntmps83;go_wp2_with fail;refine bodyPost_ret (jzo rfl _ _ (w.heap.size+1) (.int .u64 0) (.int .u64 0) (.slice none 0 0) (.slice none 0 0) (.slice none 0 0) rfl (by go_simp) (by go_simp) (by go_simp) (by go_simp) (by go_simp)) rfl ?_;exact⟨rfl,jzk (jzk (Below.refl _ _))⟩)
 ·(have hd:decide ((40:Int)<(n:Int))=false:=decide_eq_false (by omega);rw[if_neg hn];clear hn;go_enter Tryz.func83,Tryz.ntmps83;go_wp2_with fail;refine bodyPost_ret (jzo rfl _ _ (w.heap.size+1) (.int .u64 xn) (.int .u64 xm) (.slice xK xN.length xL) (.slice xO xQ.length xP) (.slice xR xU.length xS) rfl (by go_simp) (by go_simp) (by go_simp) (by go_simp) (by go_simp)) rfl ?_;exact⟨rfl,jzk (jzk (Below.refl _ _))⟩)
end J5
namespace J5
open Go.RowKit Go.Shelf
open C3 (Tk In jzk jzf)
open V4 (Va Vl Ck jzt jzj jzh jqh jwf KF Ab)
attribute [local go_sem] Oper.semAt_some
def jry{α:Type}(p:α->Bool)(zs:List α)(k:Nat):Nat:=((zs.take k).filter fun x=>!p x).length
theorem jnw{α:Type}{p:α->Bool}{zs:List α}{k:Nat}{x:α}(hx:zs[k]?=some x)(hp:p x=true):jry p zs (k+1)=jry p zs k:=by
 obtain⟨hk,he⟩:=List.getElem?_eq_some_iff.1 hx;unfold jry;rw[List.take_succ_eq_append_getElem hk,he,List.filter_append];simp[hp]
theorem jnv{α:Type}{p:α->Bool}{zs:List α}{k:Nat}{x:α}(hx:zs[k]?=some x)(hp:p x=false):jry p zs (k+1)=jry p zs k+1:=by
 obtain⟨hk,he⟩:=List.getElem?_eq_some_iff.1 hx;unfold jry;rw[List.take_succ_eq_append_getElem hk,he,List.filter_append];simp[hp]
theorem jnx{α:Type}{p:α->Bool}{zs:List α}{k:Nat}{x:α}(hx:zs[k]?=some x)(hp:p x=false):(zs.filter fun x=>!p x)[jry p zs k]?=some x:=by
 obtain⟨hk,he⟩:=List.getElem?_eq_some_iff.1 hx;have h1:zs.filter (fun x=>!p x)=(zs.take k).filter (fun x=>!p x)++(zs.drop k).filter (fun x=>!p x):=by rw[<- List.filter_append,List.take_append_drop]
 rw[h1,List.getElem?_append_right (by unfold jry;omega),List.drop_eq_getElem_cons hk,he,List.filter_cons,if_pos (by simp[hp])];simp[jry]
theorem cntW_len{α:Type}(p:α->Bool)(zs:List α):jry p zs zs.length=(zs.filter fun x=>!p x).length:=by unfold jry;rw[List.take_length]
theorem jul(Ba Bi Bc b1 b2 b3:Nat)(p:Ck×Vl×Vl->Bool)(zs:List (Ck×Vl×Vl))(N:Nat)(w:World)(hN:N<=w.heap.size)(bw:jrz Tryz.prog 129 #[.pointer (some ⟨b1,0,none⟩),.pointer (some ⟨b2,0,none⟩),.pointer (some ⟨b3,0,none⟩)] jyb N zs w)(his:∀ x∈zs,∀ W':World,(∀ b,b<N->W'.heap[b]?=w.heap[b]?)->N<=W'.heap.size->Calls Tryz.prog 88 #[.agg (jzx x),.pointer (some ⟨Bc,0,none⟩)] W' (jz6 W' (.bool (p x))))(ha:Blk w Ba 141 #[.func (.func 129) #[] #[.pointer (some ⟨b1,0,none⟩),.pointer (some ⟨b2,0,none⟩),.pointer (some ⟨b3,0,none⟩)]])(hi:Blk w Bi 152 #[.func (.func 88) #[] #[.pointer (some ⟨Bc,0,none⟩)]])(hiN:Bi<N):jrz Tryz.prog 134 #[.pointer (some ⟨Ba,0,none⟩),.pointer (some ⟨Bi,0,none⟩)] jyb N (zs.filter fun x=>!p x) w:=by
 intro l J Jx W hW hJ eJ hY h0;have jK:=leT hN hW.size;have ha0:W.cell? ⟨Ba,0,none⟩=some (.func (.func 129) #[] #[.pointer (some ⟨b1,0,none⟩),.pointer (some ⟨b2,0,none⟩),.pointer (some ⟨b3,0,none⟩)]):=jza (ha.below hW) 0 _ rfl;have mS:W.cell? ⟨Bi,0,none⟩=some (.func (.func 88) #[] #[.pointer (some ⟨Bc,0,none⟩)]):=jza (hi.below hW) 0 _ rfl;have mn:=(ha.below hW).lt;obtain⟨V,hV⟩:=exq (W.alloc (.cells #[.func (.yield l) #[] #[]] 152));have ai:Below W.heap.size W V:=by rw[<- hV];exact jzf _ _
 have cN:Blk V W.heap.size 152 #[.func (.yield l) #[] #[]]:=by rw[<- hV];exact Blk.new _ _ _
 have va0:=(ai.cell (p:=⟨Ba,0,none⟩) mn).trans ha0;have i8:=Lh (bw.later (hW.trans (ai.mono hW.size)));have HIS:=Lh his;have HJ:=Lh hJ;have lF:=Lh eJ;have HY:=Lh hY;have H0:=Lh (hJ _ _ _ _ h0 (KJ.of_below ai (Nat.le_refl _)));have HWN:Hid (∀ b,b<N->V.heap[b]?=w.heap[b]?):=fun b hb=>(ai.block b (ltl hb jK)).trans (hW.block b (ltl hb hN))
 have uh:Hid (∀ W':World,(∀ b,b<N->W'.heap[b]?=w.heap[b]?)->W'.cell? ⟨Bi,0,none⟩=some (.func (.func 88) #[] #[.pointer (some ⟨Bc,0,none⟩)])):=fun W' hb=>(World.cell?_of_block (a:=⟨Bi,0,none⟩) (hb Bi hiN)).trans (jza hi 0 _ rfl)
 have dm:=ai.size;have hltV:=cN.lt;clear bw his hJ eJ hY h0 ai ha hi mS hW;refine (callsIn_wide (n:=6)).1 (callsIn_of_wp_marks Tryz.func134 rfl trivial ?_ rfl);simp only[Tryz.ntmps134,List.size_toArray,List.length_cons,List.length_nil,Nat.reduceAdd,Nat.reduceSub,Array.replicate_succ,Array.replicate_zero,List.push_toArray,List.append_toArray,List.nil_append,List.cons_append];gi_wp2_with fail
 refine jgs rfl (enters_of Tryz.func129 (by kernel_rfl) rfl) (N:=N) (by omega) i8.out (fun _=>rfl)
   (fun k X U=>J (jry p zs k) X U/\Blk U W.heap.size 152 #[.func (.yield l) #[] #[]]/\(∀ b,b<N->U.heap[b]?=w.heap[b]?)/\¬ X W.heap.size)
   (fun c _ U=>c = .ret/\∃ j,j<(zs.filter fun x=>!p x).length/\Jx j U)
   (fun k X U U' ⟨h1,h2,h3,h4⟩ hk=>⟨HJ.out _ _ _ _ h1 (hk.mono dm),(hk.bel.block _ hltV).trans h2,fun b hb=>(hk.bel.block b (by omega)).trans (h3 b hb),h4⟩)
   (fun c k U U' ⟨h1,j,h2,h3⟩ hb=>⟨h1,j,h2,lF.out _ _ _ h3 (hb.mono dm)⟩)
   ⟨H0.out,cN,HWN.out,id⟩
   (fun x a' U=>∃ bp,a'={ tmps:=#[.func (.yield l) #[] #[],.pointer (some ⟨Ba,0,none⟩),.pointer (some ⟨Bi,0,none⟩),.pointer (some ⟨W.heap.size,0,none⟩),.pointer (some ⟨bp,0,none⟩),.func (.func 129) #[] #[.pointer (some ⟨b1,0,none⟩),.pointer (some ⟨b2,0,none⟩),.pointer (some ⟨b3,0,none⟩)],.agg (jzx x),undef,undef,undef,undef,undef,undef,undef,undef,undef,undef],defers:=[] }/\Blk U bp 150 (jzx x))
   ?ax ?assign ?body ?done ?stop
 case ax=>(
 rintro x a' _ X Y row ⟨bp,h1,h2⟩ hg hr;refine⟨bp,h1,(hg.block bp h2.lt fun e=>?_).trans h2⟩;obtain⟨_,o,d6,fL⟩:=hr bp e.symm;rw[h2] at d6;cases d6
 cases fL)
 case assign=>(
 intro l2 k x X K _ hK;obtain⟨⟨mA,mc,ml⟩,⟨an,aM,aK,aL,aN,aO,aP,aQ,aR,aS,aT⟩,bn,bM,bK,bL,bN,bP,bQ,bS,bT,bU,bW⟩:=x;unfold jyb;simp only[jzx,jjk,V4.Ck.v,V4.Vl.n,V4.Vl.m,V4.Vl.s1,V4.Vl.c1,V4.Vl.v1] at hK ⊢;gi_wp2
 exact hK _ _ (jzf _ _) ⟨X.heap.size,rfl,Blk.new _ _ _⟩)
 case body=>(
 rintro l2 k X x a' U fv ow ⟨ep,hyr,d7,hnX⟩ ⟨bp,rfl,cO⟩;have jN:=Lh ow;have HC:=Lh (HIS.out x (List.mem_of_getElem? ow) U d7 (by omega));have vi:=uh.out U d7;obtain⟨q,hq⟩:=exq (p x);rw[hq] at HC;have HQ:=Lh hq;have HJR:=Lh ep;have HLO:=Lh d7;clear ow hq ep d7;have hG:=cO.lt;obtain⟨x0,cU⟩:∃ x0,x0=x:=⟨_,rfl⟩
 rw[<- cU] at jN HQ;obtain⟨⟨mA,mc,ml⟩,⟨an,aM,aK,aL,aN,aO,aP,aQ,aR,aS,aT⟩,bn,bM,bK,bL,bN,bP,bQ,bS,bT,bU,bW⟩:=x;simp only[jzx,jjk,V4.Ck.v,V4.Vl.n,V4.Vl.m,V4.Vl.s1,V4.Vl.c1,V4.Vl.v1] at HC cO ⊢;have jO:=Lh cU;clear cU;obtain⟨e0,e1,e2,e3,e4⟩:=blk5 cO;have e5:U.cell? ⟨bp,5,none⟩=some (.slice aR aT.length aS):=jza cO 5 _ rfl;have e6:U.cell? ⟨bp,6,none⟩=some (.int .u64 bn):=jza cO 6 _ rfl;have e7:U.cell? ⟨bp,7,none⟩=some (.int .u64 bM):=jza cO 7 _ rfl;have e8:U.cell? ⟨bp,8,none⟩=some (.slice bK bN.length bL):=jza cO 8 _ rfl;have e9:U.cell? ⟨bp,9,none⟩=some (.slice bP bS.length bQ):=jza cO 9 _ rfl;have e10:U.cell? ⟨bp,10,none⟩=some (.slice bT bW.length bU):=jza cO 10 _ rfl;gi_wp2_with fail
 refine⟨trivial,rfl,(CallsIn.inRound l2 (callsIn_wide.2 HC.out)).mono ?_⟩;rintro e U1 ⟨rfl,af⟩;have gu:=cO.below af;have oh:=hyr.below af;have xa:Hid (∀ b,b<N->U1.heap[b]?=w.heap[b]?):=fun b hb=>(af.block b (by omega)).trans (HLO.out b hb)
 have ei:=Lh (HJ.out _ _ _ _ HJR.out (KJ.of_below af (by omega)));have fm:=af.size;clear e0 e1 e2 e3 e4 e5 e6 e7 e8 e9 e10 vi HC;cases q with
 | true=>(
 gi_wp2_with fail
 refine⟨fun f h=>(by cases h),?_⟩;gi_wp2_with fail
 exact⟨KP.of_below af,X,fun b hb => .inl hb,by rw[jnw jN.out HQ.out];exact ei.out,oh,xa.out,hnX⟩)
 | false=>(
 obtain⟨e0,e1,e2,e3,e4⟩:=blk5 gu;have e5:U1.cell? ⟨bp,5,none⟩=some (.slice aR aT.length aS):=jza gu 5 _ rfl;have e6:U1.cell? ⟨bp,6,none⟩=some (.int .u64 bn):=jza gu 6 _ rfl;have e7:U1.cell? ⟨bp,7,none⟩=some (.int .u64 bM):=jza gu 7 _ rfl;have e8:U1.cell? ⟨bp,8,none⟩=some (.slice bK bN.length bL):=jza gu 8 _ rfl;have e9:U1.cell? ⟨bp,9,none⟩=some (.slice bP bS.length bQ):=jza gu 9 _ rfl;have e10:U1.cell? ⟨bp,10,none⟩=some (.slice bT bW.length bU):=jza gu 10 _ rfl;have vy:U1.cell? ⟨W.heap.size,0,none⟩=some (.func (.yield l) #[] #[]):=jza oh 0 _ rfl;obtain⟨fn,tmps,assign,body,hy,hR⟩:=jqh (m':=0) (HY.out _ X _ U1 (jnx jN.out HQ.out) ei.out (by omega));rw[jO.out] at hy;unfold jyb at hy;simp only[jzx,jjk,V4.Ck.v,V4.Vl.n,V4.Vl.m,V4.Vl.s1,V4.Vl.c1,V4.Vl.v1] at hy;have fN:=hR.mono fun e W' h=>jwf h
 clear hR;gi_wp2_with fail
 refine⟨rfl,fN.mono ?_⟩;clear fN hy e0 e1 e2 e3 e4 e5 e6 e7 e8 e9 e10 vy;rintro e U2 ⟨r,rfl,hr⟩;cases r with
 | true=>(
 obtain⟨X',nV,hJ2,fC⟩:=hr;have hnX':¬ X' W.heap.size:=fun h=>by (
 rcases nV _ h with h | h
 ·exact hnX h
 ·have:=oh.lt;omega)
 gi_wp2_with fail
 refine⟨(KP.of_below af).trans (fC.mono dm),X',fun b hb=>(nV b hb).imp id fun h=>leT fm h,?_,fC.same _ _ oh (.inr ⟨Nat.le_refl _,hnX⟩),fun b hb=>(fC.low hb (by omega)).trans (xa.out b hb),hnX'⟩;rw[jnv jN.out HQ.out];exact hJ2)
 | false=>(
 gi_wp2_with fail
 refine⟨(KF.of_below af).trans (hr.2.mono dm),rfl,_,?_,hr.1⟩;exact (List.getElem?_eq_some_iff.1 (jnx jN.out HQ.out)).1)))
 case done=>(
 rintro E X U hE vz ⟨ep,_,_⟩ eK;have HJR:=Lh ep;clear ep;gi_wp2_with fail
 refine⟨by simp,.inl ⟨_,_,rfl,run_takeDeferred eK,?_⟩⟩;refine⟨_,results_none rfl _ _ _,?_⟩;exact⟨⟨_,rfl⟩,.inl ⟨X,by rw[<- cntW_len];exact HJ.out _ _ _ _ HJR.out (KJ.put vz (by omega) _)⟩⟩)
 case stop=>(
 rintro E c k U hE hk ⟨rfl,j,hj,hJx2⟩ eK;gi_wp2_with fail
 refine⟨by simp,.inl ⟨_,_,rfl,run_takeDeferred eK,?_⟩⟩;refine⟨_,results_none rfl _ _ _,?_⟩;exact⟨⟨_,rfl⟩,.inr ⟨j,hj,lF.out _ _ _ hJx2 ⟨rfl,rfl,rfl,by simp,fun q hq=>World.putObj_heap_other (by omega)⟩⟩⟩)
end J5
end Go.Proofs.YtobggoephhjofaaGreatDoor
