/- A part. No condition. -/
import Derived.Test.YtobggoephhjofaaGreatDoorMj18
set_option maxRecDepth 100000
set_option maxHeartbeats 16000000
namespace Go.Proofs.YtobggoephhjofaaGreatDoor
namespace J5
open Go.RowKit Go.Shelf
open C3 (Tk In jzj jzf)
open V4 (Va Vl Ck jzr jzk jzh jql jkf)
attribute [local go_sem] Oper.semAt_some
def jzv(x:Ck×Vl×Vl):Array Value:=#[jjb x.1,.int .u64 x.2.1.n,.int .u64 x.2.1.m,x.2.1.s1,x.2.1.c1,x.2.1.v1,.int .u64 x.2.2.n,.int .u64 x.2.2.m,x.2.2.s1,x.2.2.c1,x.2.2.v1]
def jv3(x:Ck×Vl×Vl):Array Value:=#[.agg (jzv x)]
theorem LnT.In.kp{N B:Nat}{F:Nat->Prop}{w w':World}{L:LnT}(h:L.In N w)(hk:KP N B F w w')(hN:N<=w.heap.size):L.In N w' :=
  ⟨h.ml.keep fun b hlt=>hk.low hlt (by omega),h.vl.keep fun b hlt=>hk.low hlt (by omega),h.cap,h.top,h.dap,h.dop,fun p hp=>V4.Ck.Inp.keep (h.mo p hp) fun b hlt=>hk.low hlt (by omega),fun p hp=>(h.vk p hp).keep fun b hlt=>hk.low hlt (by omega)⟩
theorem mixAT{x:Ck×Vl}{l1 l2:List (Ck×Vl)}(h:jfm jx3 (x :: l1) l2<0):mix jx3 vlZ (x :: l1) l2=(x.1,x.2,vlZ) :: mix jx3 vlZ l1 l2:=by
 cases l2 with
 | nil=>exact jl5 _ _ _ _
 | cons y l2=>exact jvw _ _ _ _ h
theorem mixBT{y:Ck×Vl}{l1 l2:List (Ck×Vl)}(h:0<jfm jx3 l1 (y :: l2)):mix jx3 vlZ l1 (y :: l2)=(y.1,vlZ,y.2) :: mix jx3 vlZ l1 l2:=by
 cases l1 with
 | nil=>exact jgr _ _ _ _
 | cons x l1=>exact jbb _ _ _ _ h
structure AtT (w W:World) (N Pa Pb:Nat) (zs:List (Ck×Vl×Vl)) (k:Nat) (F:Nat->Prop) (L K:LnT) (J:Nat->(Nat->Prop)->World->Prop) (wr:World):Prop where
  ba:Blk wr Pa 143 #[.slice L.A L.l.length L.c,.slice L.B L.l.length L.d]
  bb:Blk wr Pb 143 #[.slice K.A K.l.length K.c,.slice K.B K.l.length K.d]
  il:L.In N wr
  ik:K.In N wr
  dr:zs.drop k=mix jx3 vlZ L.l K.l
  kl:k<=zs.length
  jk:J k F wr
  na:¬ F Pa
  nb:¬ F Pb
  sz:W.heap.size<=wr.heap.size
theorem AtT.lens{w W:World}{N Pa Pb:Nat}{zs:List (Ck×Vl×Vl)}{k:Nat}{F:Nat->Prop}{L K:LnT}{J:Nat->(Nat->Prop)->World->Prop}{wr:World}(h:AtT w W N Pa Pb zs k F L K J wr):jpt wr Pa=L.l.length/\jpt wr Pb=K.l.length:=by
 unfold jpt;rw[jza h.ba 0 _ rfl,jza h.bb 0 _ rfl];exact⟨rfl,rfl⟩
theorem jcx(Bl Bo Bf:Nat)(L K:LnT)(N:Nat)(w:World)(hL:L.In N w)(hK:K.In N w)(hN:N<=w.heap.size)(hl:Blk w Bl 143 #[.slice L.A L.l.length L.c,.slice L.B L.l.length L.d])(ho:Blk w Bo 143 #[.slice K.A K.l.length K.c,.slice K.B K.l.length K.d])(hf:Blk w Bf 145 #[.func (.func 85) #[] #[]])(hfN:Bf<N):jrn Tryz.prog 129 #[.pointer (some ⟨Bl,0,none⟩),.pointer (some ⟨Bo,0,none⟩),.pointer (some ⟨Bf,0,none⟩)] jv3 N (mix jx3 vlZ L.l K.l) w:=by
 intro l J Jx W hW hJ hJx hY h0;have hNW:=leT hN hW.size;have hL:=hL.keep (hW.mono hN);have hK:=hK.keep (hW.mono hN);have hl:=hl.below hW;have ho:=ho.below hW;have hf:=hf.below hW;have hfc:W.cell? ⟨Bf,0,none⟩=some (.func (.func 85) #[] #[]):=jza hf 0 _ rfl;obtain⟨zs,hzs⟩:=exq (mix jx3 vlZ L.l K.l);rw[hzs] at hY ⊢;have HJ:=Lh hJ;have HJX:=Lh hJx;have HY:=Lh hY;have HL:=Lh hL;have HK:=Lh hK;have HZ:=Lh hzs;have H0:=Lh h0;have HFB:Hid (∀ W':World,(∀ b,b<N->W'.heap[b]?=W.heap[b]?)->W'.cell? ⟨Bf,0,none⟩=some (.func (.func 85) #[] #[])):=fun W' hb=>(World.cell?_of_block (a:=⟨Bf,0,none⟩) (hb Bf hfN)).trans hfc
 clear hJ hJx hY hL hK hzs h0 hf hW;obtain⟨A,c,B,d,l1⟩:=L;obtain⟨A',c',B',d',l2⟩:=K;obtain⟨hl0,hl1⟩:=blk2c hl;obtain⟨ho0,ho1⟩:=blk2c ho;have hBl:=hl.lt;have hBo:=ho.lt;clear hl ho;refine (callsIn_wide (n:=6)).1 (callsIn_of_wp Tryz.func129 rfl trivial ?_ rfl);simp only[Tryz.ntmps129,List.size_toArray,List.length_cons,List.length_nil,Nat.reduceAdd,Nat.reduceSub,Array.replicate_succ,Array.replicate_zero,List.push_toArray,List.append_toArray,List.nil_append,List.cons_append];have hmx:Tryz.prog.follows .mixedOrders=true:=by kernel_rfl
 gi_wp2_with fail
 gi_cut [5,6] from 9 (fun p q wc=>∃ Pa Pb,p = .pointer (some ⟨Pa,0,none⟩)/\q = .pointer (some ⟨Pb,0,none⟩)/\Pa≠Pb/\W.heap.size<=Pa/\W.heap.size<=Pb/\Below W.heap.size W wc/\Blk wc Pa 143 #[.slice A l1.length c,.slice B l1.length d]/\Blk wc Pb 143 #[.slice A' l2.length c',.slice B' l2.length d'])
 case first=>(
 gi_region_o
 all_goals
   gi_wp2_with fail
   gi_meet
   case rel =>
     refine⟨_,_,rfl,rfl,?_,?_,?_,?_,?_,?_⟩
     · simp
     · simp
     · simp
     · exact ((jzf _ _).trans ((jzf _ _).mono (by simp))).drew
     · first
         | exact (Blk.below (Blk.new _ _ _) (jzf _ _)).drew
         | exact (show Blk _ _ _ _ from by have:=Blk.new (W.alloc (.cells #[.slice A l1.length c,.slice B l1.length d] 143)) 143 #[.slice A' l2.length c',.slice B' l2.length d'];rw[World.size_alloc] at this;exact this)
         | exact (show Blk _ _ _ _ from by have:=Blk.new (W.alloc (.cells #[.slice A' l2.length c',.slice B' l2.length d'] 143)) 143 #[.slice A l1.length c,.slice B l1.length d];rw[World.size_alloc] at this;exact this)
     · first
         | exact (Blk.below (Blk.new _ _ _) (jzf _ _)).drew
         | exact (show Blk _ _ _ _ from by have:=Blk.new (W.alloc (.cells #[.slice A l1.length c,.slice B l1.length d] 143)) 143 #[.slice A' l2.length c',.slice B' l2.length d'];rw[World.size_alloc] at this;exact this)
         | exact (show Blk _ _ _ _ from by have:=Blk.new (W.alloc (.cells #[.slice A' l2.length c',.slice B' l2.length d'] 143)) 143 #[.slice A l1.length c,.slice B l1.length d];rw[World.size_alloc] at this;exact this))
 case rest=>(
 obtain⟨Pa,Pb,rfl,rfl,hab,hPa,hPb,hbc,hba0,hbb0⟩:=hcut;clear hl0 hl1 ho0 ho1 hBl hBo hfc;have HS:Hid (AtT w W N Pa Pb zs 0 (fun _=>False) ⟨A,c,B,d,l1⟩ ⟨A',c',B',d',l2⟩ J wc):=⟨hba0,hbb0,HL.out.keep (hbc.mono hNW),HK.out.keep (hbc.mono hNW),by rw[List.drop_zero];exact HZ.out.symm,Nat.zero_le _,HJ.out _ _ _ _ H0.out (KJ.of_below hbc (Nat.le_refl _)),id,id,hbc.size⟩;have HSB:Hid (∀ b,b<N->wc.heap[b]?=W.heap[b]?):=fun b hb=>hbc.block b (ltl hb hNW)
 clear hba0 hbb0 hbc HL HK HZ H0;gi_wp2_with fail
 gi_loopw [] (fun wr=>∃ k F L K,AtT w W N Pa Pb zs k F L K J wr/\∀ b,b<N->wr.heap[b]?=W.heap[b]?) (fun wr=>jpt wr Pa+jpt wr Pb)
 case atStart=>exact⟨0,_,_,_,HS.out,HSB.out⟩
 case round=>(
 obtain⟨k,F,⟨A1,c1,B1,d1,r1⟩,⟨A2,c2,B2,d2,r2⟩,hat,hbN⟩:=hrel;clear HS HSB;have HLE:=Lh hat.lens;have hba:=hat.ba;have hbb:=hat.bb;have HIL:=Lh hat.il;have HIK:=Lh hat.ik;have HDR:=Lh hat.dr;have HJK:=Lh hat.jk;have hnFa:=hat.na;have hnFb:=hat.nb;have HKL:=Lh hat.kl;have hWs:=hat.sz;have HBN:=Lh hbN;have hNr:N<=wr.heap.size:=leT hNW hWs;dsimp only at hba hbb
 clear hat hbN;obtain⟨n1,hn1⟩:=exq (r1.length);obtain⟨n2,hn2⟩:=exq (r2.length);have HN1:=Lh hn1;have HN2:=Lh hn2;rw[hn1] at hba;rw[hn2] at hbb;have wa0:wr.cell? ⟨Pa,0,none⟩=some (.slice A1 n1 c1):=jza hba 0 _ rfl;have wb0:wr.cell? ⟨Pb,0,none⟩=some (.slice A2 n2 c2):=jza hbb 0 _ rfl;by_cases hend:n1=0/\n2=0
 ·(
 obtain⟨rfl,rfl⟩:=hend;clear hn1 hn2;gi_wp2_with fail
 go_end0
 have e1:=List.eq_nil_of_length_eq_zero HN1.out;have e2:=List.eq_nil_of_length_eq_zero HN2.out;have:=HDR.out;rw[e1,e2,jmo,List.drop_eq_nil_iff] at this;have hk:k=zs.length:=by have:=HKL.out;omega
 exact⟨⟨_,rfl⟩,.inl ⟨F,hk▸HJK.out⟩⟩)
 ·(
 have HNE:Hid (r1≠[]\/r2≠[]):=by (
 show _\/_
 rcases Nat.eq_zero_or_pos n1 with h | h
 ·exact .inr fun e=>hend ⟨h,by rw[<- hn2,e];rfl⟩
 ·exact .inl fun e=>by rw[e] at hn1;simp at hn1;omega)
 obtain⟨q,hq⟩:=exq (jfm jx3 r1 r2);have HLOW:Hid (∀ W',(LnT.mk A1 c1 B1 d1 r1).In N W'->(LnT.mk A2 c2 B2 d2 r2).In N W'->N<=W'.heap.size->Calls Tryz.prog 130 #[.slice A1 n1 c1,.slice A2 n2 c2,.func (.func 85) #[] #[]] W' (jqd W' (.int .i64 q))):=by (
 intro W' h1 h2 h3;have:=jou _ _ N W' h1 h2 h3;dsimp only at this
 rw[hn1,hn2,hq] at this;exact this)
 have HQ:=Lh hq;clear hq hn1 hn2;obtain⟨V1,hV1⟩:=exq (wr.alloc (.cells #[.slice none 0 0,.int .u64 0,.int .u64 0,.slice none 0 0,.slice none 0 0,.slice none 0 0,.int .u64 0,.int .u64 0,.slice none 0 0,.slice none 0 0,.slice none 0 0] 150));have hb1:Below wr.heap.size wr V1:=by rw[<- hV1];exact jzf _ _
 have hP1:Blk V1 wr.heap.size 150 #[.slice none 0 0,.int .u64 0,.int .u64 0,.slice none 0 0,.slice none 0 0,.slice none 0 0,.int .u64 0,.int .u64 0,.slice none 0 0,.slice none 0 0,.slice none 0 0]:=by rw[<- hV1];exact Blk.new _ _ _
 have cf:=HFB.out V1 (fun b hb=>(hb1.block b (ltl hb hNr)).trans (HBN.out b hb));have ha1:=hba.below hb1;have hbb1:=hbb.below hb1;have ca0:V1.cell? ⟨Pa,0,none⟩=some (.slice A1 n1 c1):=jza ha1 0 _ rfl;have cb0:V1.cell? ⟨Pb,0,none⟩=some (.slice A2 n2 c2):=jza hbb1 0 _ rfl;have HI1:=Lh (HIL.out.keep (hb1.mono hNr));have HK1:=Lh (HIK.out.keep (hb1.mono hNr));have hN1:N<=V1.heap.size:=leT hNr hb1.size;have hpa:wr.heap.size≠Pa:=by have:=hba.lt;omega
 have hpb:wr.heap.size≠Pb:=by have:=hbb.lt;omega
 have hg:decide (0<n1)=true\/(decide (0<n1)=false/\decide (0<n2)=true):=by (
 rcases Nat.eq_zero_or_pos n1 with h | h
 ·exact .inr ⟨decide_eq_false (by omega),decide_eq_true (Nat.pos_of_ne_zero fun h2=>hend ⟨h,h2⟩)⟩
 ·exact .inl (decide_eq_true h))
 clear hend;rcases hg with hz | ⟨hz,hz2⟩
 all_goals
   gi_upto_region 3 with fail
   gi_wp2_with fail
   first
     | refine⟨trivial,fun h=>absurd h (by simp[Fence.wide]),(callsIn_wide.2 (HLOW.out V1 HI1.out HK1.out hN1)).mono ?_⟩
     | refine⟨trivial,(callsIn_wide.2 (HLOW.out V1 HI1.out HK1.out hN1)).mono ?_⟩
   rintro e W1 ⟨rfl,hb2⟩
   replace hP1:=hP1.below hb2
   replace ha1:=ha1.below hb2
   replace hbb1:=hbb1.below hb2
   replace HI1:=Lh (HI1.out.keep (hb2.mono hN1))
   replace HK1:=Lh (HK1.out.keep (hb2.mono hN1))
   have HB1:=Lh (hb1.trans (hb2.mono hb1.size))
   replace hN1:N<=W1.heap.size:=leT hN1 hb2.size
   clear cf ca0 cb0 wa0 wb0 hb1 hb2 hV1 HLOW
   clear V1
   gi_upto_if 28 with fail
   gi_cut [] from 27 (fun wx=>∃ (A3 B3:Option Addr) (c3 d3:Nat) (r3:List (Ck×Vl)) (u:Value) (an aM:Int) (aK:Option Addr) (aL:Nat) (aN:List Str) (aO:Option Addr) (aP:Nat) (aQ:List Ck) (aR:Option Addr) (aS:Nat) (aT:List Vl),Blk wx wr.heap.size 150 #[u,.int .u64 an,.int .u64 aM,.slice aK aN.length aL,.slice aO aQ.length aP,.slice aR aT.length aS,.int .u64 0,.int .u64 0,.slice none 0 0,.slice none 0 0,.slice none 0 0]/\Blk wx Pa 143 #[.slice A3 r3.length c3,.slice B3 r3.length d3]/\Blk wx Pb 143 #[.slice A2 n2 c2,.slice B2 n2 d2]/\(LnT.mk A3 c3 B3 d3 r3).In N wx/\(LnT.mk A2 c2 B2 d2 r2).In N wx/\KJ W.heap.size F wr wx/\wr.heap.size<wx.heap.size/\Hid ((q<=0/\∃ m,u=jjb m/\r1=(m,Vl.mk an aM aK aL aN aO aP aQ aR aS aT) :: r3)\/(0<q/\r3=r1/\Vl.mk an aM aK aL aN aO aP aQ aR aS aT=vlZ)))
   case first =>
     obtain⟨bq,hbq⟩:=exq (decide (q<=0))
     simp only[hbq]
     cases bq with
     | true =>
       have HQ0:=Lh (of_decide_eq_true hbq)
       clear hbq
       obtain⟨x,r3,hr1⟩:=low_le (by rw[HQ.out];exact HQ0.out) HNE.out
       have HR1:=Lh hr1
       have HSP:Hid (∀ W',(LnT.mk A1 c1 B1 d1 r1).In N W'->N<=W'.heap.size->Calls Tryz.prog 131 #[.agg #[.slice A1 n1 c1,.slice B1 n1 d1]] W' (jtv N c1 d1 x r3 W')):=by
         intro W' h1 h2
         rw[hr1] at h1
         have:=jp8 A1 B1 c1 d1 x r3 N W' h1 h2
         rw[<- hr1,HN1.out] at this
         exact this
       clear hr1
       obtain⟨q0,q1⟩:=blk2c ha1
       gi_wp2_with fail
       first
         | refine⟨trivial,fun h=>absurd h (by simp[Fence.wide]),(callsIn_wide.2 (HSP.out W1 HI1.out hN1)).mono ?_⟩
         | refine⟨trivial,(callsIn_wide.2 (HSP.out W1 HI1.out hN1)).mono ?_⟩
       rintro e W2 ⟨A3,B3,rfl,hI3,hs2⟩
       obtain⟨⟨xkA,xkc,xkl⟩,xn,xM,xK,xL,xN,xO,xP,xQ,xR,xS,xU⟩:=x
       simp only[jzh,jjb,V4.Ck.v]
       have HI3:=Lh hI3
       have HB2:=Lh (HB1.out.trans (hs2.mono HB1.out.size))
       replace hP1:=hP1.below hs2
       replace ha1:=ha1.below hs2
       replace hbb1:=hbb1.below hs2
       replace HK1:=Lh (HK1.out.keep (hs2.mono hN1))
       have hW2:=hP1.lt
       clear q0 q1 hs2 hI3
       obtain⟨p0,p1,p2,p3,p4⟩:=blk5 hP1
       have p5:W2.cell? ⟨wr.heap.size,5,none⟩=some (.slice none 0 0):=jza hP1 5 _ rfl
       have p6:W2.cell? ⟨wr.heap.size,6,none⟩=some (.int .u64 0):=jza hP1 6 _ rfl
       have p7:W2.cell? ⟨wr.heap.size,7,none⟩=some (.int .u64 0):=jza hP1 7 _ rfl
       have p8:W2.cell? ⟨wr.heap.size,8,none⟩=some (.slice none 0 0):=jza hP1 8 _ rfl
       have p9:W2.cell? ⟨wr.heap.size,9,none⟩=some (.slice none 0 0):=jza hP1 9 _ rfl
       have p10:W2.cell? ⟨wr.heap.size,10,none⟩=some (.slice none 0 0):=jza hP1 10 _ rfl
       have f0:W2.frozen? ⟨wr.heap.size,0,none⟩=false:=jzb hP1 0
       have f1:W2.frozen? ⟨wr.heap.size,1,none⟩=false:=jzb hP1 1
       have f2:W2.frozen? ⟨wr.heap.size,2,none⟩=false:=jzb hP1 2
       have f3:W2.frozen? ⟨wr.heap.size,3,none⟩=false:=jzb hP1 3
       have f4:W2.frozen? ⟨wr.heap.size,4,none⟩=false:=jzb hP1 4
       have f5:W2.frozen? ⟨wr.heap.size,5,none⟩=false:=jzb hP1 5
       have f6:W2.frozen? ⟨wr.heap.size,6,none⟩=false:=jzb hP1 6
       have f7:W2.frozen? ⟨wr.heap.size,7,none⟩=false:=jzb hP1 7
       have f8:W2.frozen? ⟨wr.heap.size,8,none⟩=false:=jzb hP1 8
       have f9:W2.frozen? ⟨wr.heap.size,9,none⟩=false:=jzb hP1 9
       have f10:W2.frozen? ⟨wr.heap.size,10,none⟩=false:=jzb hP1 10
       obtain⟨q0,q1⟩:=blk2c ha1
       have g0:W2.frozen? ⟨Pa,0,none⟩=false:=jzb ha1 0
       have g1:W2.frozen? ⟨Pa,1,none⟩=false:=jzb ha1 1
       gi_wp2_with fail
       gi_meet
       case rel =>
         have kB:Below N W2 (jgb W2 wr.heap.size Pa (.slice xkA xkl.length xkc) (.int .u64 xn) (.int .u64 xM) (.slice xK xN.length xL) (.slice xO xQ.length xP) (.slice xR xU.length xS) (.slice A3 r3.length (c1 - 1)) (.slice B3 r3.length (d1 - 1))):=jp7 (Below.refl _ _) hNr (leT hNW hPa)
         exact⟨A3,B3,c1 - 1,d1 - 1,r3,_,xn,xM,xK,xL,xN,xO,xP,xQ,xR,xS,xU,jlm hP1 hpa,jll ha1 hpa,jlk hbb1 hpb.symm hab.symm,HI3.out.keep kB,HK1.out.keep kB,juq (KJ.of_below HB2.out hWs) (Nat.le_refl _) hWs hPa hnFa,by simpa using hW2,.inl ⟨HQ0.out,⟨xkA,xkc,xkl⟩,rfl,HR1.out⟩⟩
     | false =>
       have HQ0:=Lh (show 0<q by have:=of_decide_eq_false hbq;omega)
       clear hbq
       gi_wp2_with fail
       gi_meet
       case rel=>exact⟨A1,B1,c1,d1,r1,_,0,0,none,0,[],none,0,[],none,0,[],hP1,by rw[HN1.out];exact ha1,hbb1,HI1.out,HK1.out,KJ.of_below HB1.out hWs,hP1.lt,.inr ⟨HQ0.out,rfl,rfl⟩⟩
   case rest =>
     obtain⟨A3,B3,c3,d3,r3,u,an,aM,aK,aL,aN,aO,aP,aQ,aR,aS,aT,hP2,ha2,hbb2,hI3,hK2,hKJ,hWx,H1⟩:=hcut
     have HI3:=Lh hI3
     have HK2:=Lh hK2
     have HKJ:=Lh hKJ
     have hN2:N<=wc.heap.size:=by omega
     clear hP1 ha1 hbb1 HI1 HK1 HB1 hN1 hI3 hK2 hKJ
     gi_upto_if 38 with fail
     gi_cut [] from 37 (fun wx=>∃ (A3 B3 A4 B4:Option Addr) (c3 d3 c4 d4:Nat) (r3 r4:List (Ck×Vl)) (u:Value) (an aM:Int) (aK:Option Addr) (aL:Nat) (aN:List Str) (aO:Option Addr) (aP:Nat) (aQ:List Ck) (aR:Option Addr) (aS:Nat) (aT:List Vl) (bn bM:Int) (bK:Option Addr) (bL:Nat) (bN:List Str) (bP:Option Addr) (bQ:Nat) (bS:List Ck) (bT:Option Addr) (bU:Nat) (bW:List Vl),Blk wx wr.heap.size 150 #[u,.int .u64 an,.int .u64 aM,.slice aK aN.length aL,.slice aO aQ.length aP,.slice aR aT.length aS,.int .u64 bn,.int .u64 bM,.slice bK bN.length bL,.slice bP bS.length bQ,.slice bT bW.length bU]/\Blk wx Pa 143 #[.slice A3 r3.length c3,.slice B3 r3.length d3]/\Blk wx Pb 143 #[.slice A4 r4.length c4,.slice B4 r4.length d4]/\(LnT.mk A3 c3 B3 d3 r3).In N wx/\(LnT.mk A4 c4 B4 d4 r4).In N wx/\KJ W.heap.size F wr wx/\wr.heap.size<wx.heap.size/\Hid (∃ m,u=jjb m/\mix jx3 vlZ r1 r2=(m,Vl.mk an aM aK aL aN aO aP aQ aR aS aT,Vl.mk bn bM bK bL bN bP bQ bS bT bU bW) :: mix jx3 vlZ r3 r4/\r3.length+r4.length<r1.length+r2.length))
     case first =>
       obtain⟨bq,hbq⟩:=exq (decide (0<=q))
       simp only[hbq]
       cases bq with
       | true =>
         have HQ0:=Lh (of_decide_eq_true hbq)
         clear hbq
         obtain⟨y,r4,hr2⟩:=low_ge (c:=jx3) (r1:=r1) (r2:=r2) (by rw[HQ.out];exact HQ0.out)
         have HR2:=Lh hr2
         have HSP:Hid (∀ W',(LnT.mk A2 c2 B2 d2 r2).In N W'->N<=W'.heap.size->Calls Tryz.prog 131 #[.agg #[.slice A2 n2 c2,.slice B2 n2 d2]] W' (jtv N c2 d2 y r4 W')):=by
           intro W' h1 h2
           rw[hr2] at h1
           have:=jp8 A2 B2 c2 d2 y r4 N W' h1 h2
           rw[<- hr2,HN2.out] at this
           exact this
         clear hr2
         obtain⟨q0,q1⟩:=blk2c hbb2
         gi_wp2_with fail
         first
           | refine⟨trivial,fun h=>absurd h (by simp[Fence.wide]),(callsIn_wide.2 (HSP.out wc HK2.out hN2)).mono ?_⟩
           | refine⟨trivial,(callsIn_wide.2 (HSP.out wc HK2.out hN2)).mono ?_⟩
         rintro e W2 ⟨A4,B4,rfl,hI4,hs2⟩
         obtain⟨⟨ykA,ykc,ykl⟩,yn,yM,yK,yL,yN,yO,yP,yQ,yR,yS,yT⟩:=y
         simp only[jzh,jjb,V4.Ck.v]
         have HI4:=Lh hI4
         have HKJ2:=Lh (HKJ.out.later hs2 (by omega))
         replace hP2:=hP2.below hs2
         replace ha2:=ha2.below hs2
         replace hbb2:=hbb2.below hs2
         replace HI3:=Lh (HI3.out.keep (hs2.mono hN2))
         have hW2:=hP2.lt
         clear q0 q1 hs2 hI4
         obtain⟨p0,p1,p2,p3,p4⟩:=blk5 hP2
         have p5:W2.cell? ⟨wr.heap.size,5,none⟩=some (.slice aR aT.length aS):=jza hP2 5 _ rfl
         have p6:W2.cell? ⟨wr.heap.size,6,none⟩=some (.int .u64 0):=jza hP2 6 _ rfl
         have p7:W2.cell? ⟨wr.heap.size,7,none⟩=some (.int .u64 0):=jza hP2 7 _ rfl
         have p8:W2.cell? ⟨wr.heap.size,8,none⟩=some (.slice none 0 0):=jza hP2 8 _ rfl
         have p9:W2.cell? ⟨wr.heap.size,9,none⟩=some (.slice none 0 0):=jza hP2 9 _ rfl
         have p10:W2.cell? ⟨wr.heap.size,10,none⟩=some (.slice none 0 0):=jza hP2 10 _ rfl
         have f0:W2.frozen? ⟨wr.heap.size,0,none⟩=false:=jzb hP2 0
         have f1:W2.frozen? ⟨wr.heap.size,1,none⟩=false:=jzb hP2 1
         have f2:W2.frozen? ⟨wr.heap.size,2,none⟩=false:=jzb hP2 2
         have f3:W2.frozen? ⟨wr.heap.size,3,none⟩=false:=jzb hP2 3
         have f4:W2.frozen? ⟨wr.heap.size,4,none⟩=false:=jzb hP2 4
         have f5:W2.frozen? ⟨wr.heap.size,5,none⟩=false:=jzb hP2 5
         have f6:W2.frozen? ⟨wr.heap.size,6,none⟩=false:=jzb hP2 6
         have f7:W2.frozen? ⟨wr.heap.size,7,none⟩=false:=jzb hP2 7
         have f8:W2.frozen? ⟨wr.heap.size,8,none⟩=false:=jzb hP2 8
         have f9:W2.frozen? ⟨wr.heap.size,9,none⟩=false:=jzb hP2 9
         have f10:W2.frozen? ⟨wr.heap.size,10,none⟩=false:=jzb hP2 10
         obtain⟨q0,q1⟩:=blk2c hbb2
         have g0:W2.frozen? ⟨Pb,0,none⟩=false:=jzb hbb2 0
         have g1:W2.frozen? ⟨Pb,1,none⟩=false:=jzb hbb2 1
         gi_wp2_with fail
         gi_meet
         case rel =>
           have kB:Below N W2 (jga W2 wr.heap.size Pb (.slice ykA ykl.length ykc) (.int .u64 yn) (.int .u64 yM) (.slice yK yN.length yL) (.slice yO yQ.length yP) (.slice yR yT.length yS) (.slice A4 r4.length (c2 - 1)) (.slice B4 r4.length (d2 - 1))):=jp6 (Below.refl _ _) hNr (leT hNW hPb)
           refine⟨A3,B3,A4,B4,c3,d3,c2 - 1,d2 - 1,r3,r4,_,an,aM,aK,aL,aN,aO,aP,aQ,aR,aS,aT,yn,yM,yK,yL,yN,yO,yP,yQ,yR,yS,yT,jlj hP2 hpb,jlh ha2 hpa.symm hab,jli hbb2 hpb,HI3.out.keep kB,HI4.out.keep kB,jup HKJ2.out (Nat.le_refl _) hWs hPb hnFb,by simpa using hW2,⟨ykA,ykc,ykl⟩,rfl,?_,?_⟩
           rotate_left
           · have h2:=congrArg List.length HR2.out
             simp only[List.length_cons] at h2
             rcases H1.out with ⟨_,m,_,h3⟩ | ⟨_,h3,_⟩
             · have h4:=congrArg List.length h3
               simp only[List.length_cons] at h4
               omega
             · rw[h3];omega
           rw[HR2.out]
           rcases H1.out with ⟨h1,m,_,h3⟩ | ⟨h1,h2,h3⟩
           · rw[h3]
             refine jbc _ _ _ _ ?_
             have:=HQ.out
             rw[h3,HR2.out,jfm] at this
             have:=HQ0.out
             dsimp only at *
             omega
           · rw[h2,h3]
             exact mixBT (by rw[<- HR2.out,HQ.out];exact h1)
       | false =>
         have HQ0:=Lh (show q<0 by have:=of_decide_eq_false hbq;omega)
         clear hbq
         gi_wp2_with fail
         gi_meet
         case rel =>
           rcases H1.out with ⟨h1,m,h2,h3⟩ | ⟨h1,_⟩
           · refine⟨A3,B3,A2,B2,c3,d3,c2,d2,r3,r2,u,an,aM,aK,aL,aN,aO,aP,aQ,aR,aS,aT,0,0,none,0,[],none,0,[],none,0,[],hP2,ha2,by rw[HN2.out];exact hbb2,HI3.out,HK2.out,HKJ.out,hWx,m,h2,?_,?_⟩
             rotate_left
             · have h4:=congrArg List.length h3
               simp only[List.length_cons] at h4
               omega
             rw[h3]
             exact mixAT (by rw[<- h3,HQ.out];exact HQ0.out)
           · exact absurd HQ0.out (by omega)
     case rest =>
       clear hP2 ha2 hbb2 HI3 HK2 HKJ hWx H1 hN2
       obtain⟨A3,B3,A4,B4,c3,d3,c4,d4,r3,r4,u,an,aM,aK,aL,aN,aO,aP,aQ,aR,aS,aT,bn,bM,bK,bL,bN,bP,bQ,bS,bT,bU,bW,hP3,ha3,hbb3,hI3,hI4,hKJ,hWx,m,hum,hmix,hlen⟩:=hcut
       have HL5:=Lh hlen
       obtain⟨hk1,hk2,hk3⟩:=jcr (HDR.out.trans hmix)
       obtain⟨fn,tmps,assign,body,hy,hR⟩:=jql (m':=5) (HY.out k F _ wc hk1 (HJ.out _ _ _ _ HJK.out hKJ) (by omega))
       unfold jv3 jzv at hy
       simp only[V4.Vl.n,V4.Vl.m,V4.Vl.s1,V4.Vl.c1,V4.Vl.v1,<- hum] at hy
       have hR2:=hR.mono fun e W' h=>jkf h
       have HI3:=Lh hI3
       have HI4:=Lh hI4
       have HMX:=Lh hmix
       have HK2:=Lh hk2
       have HK3:=Lh hk3
       have hNc:N<=wc.heap.size:=by omega
       have HBc:Hid (∀ b,b<N->wc.heap[b]?=W.heap[b]?):=fun b hb=>(hKJ.bel.block b (ltl hb hNW)).trans (HBN.out b hb)
       clear hR hk1 hI3 hI4 hmix hk2 hk3 hum hKJ hlen
       obtain⟨p0,p1,p2,p3,p4⟩:=blk5 hP3
       have p5:wc.cell? ⟨wr.heap.size,5,none⟩=some (.slice aR aT.length aS):=jza hP3 5 _ rfl
       have p6:wc.cell? ⟨wr.heap.size,6,none⟩=some (.int .u64 bn):=jza hP3 6 _ rfl
       have p7:wc.cell? ⟨wr.heap.size,7,none⟩=some (.int .u64 bM):=jza hP3 7 _ rfl
       have p8:wc.cell? ⟨wr.heap.size,8,none⟩=some (.slice bK bN.length bL):=jza hP3 8 _ rfl
       have p9:wc.cell? ⟨wr.heap.size,9,none⟩=some (.slice bP bS.length bQ):=jza hP3 9 _ rfl
       have p10:wc.cell? ⟨wr.heap.size,10,none⟩=some (.slice bT bW.length bU):=jza hP3 10 _ rfl
       gi_wp2_with fail
       refine hR2.mono ?_
       clear hy hR2 p0 p1 p2 p3 p4 p5 p6 p7 p8 p9 p10
       rintro e W5 ⟨r,rfl,hr⟩
       cases r with
       | true =>
         obtain⟨F',hgr,hJ5,hk5⟩:=hr
         have hnFa':¬ F' Pa:=fun h=>by
           rcases hgr _ h with h | h
           · exact hnFa h
           · have:=ha3.lt;omega
         have hnFb':¬ F' Pb:=fun h=>by
           rcases hgr _ h with h | h
           · exact hnFb h
           · have:=hbb3.lt;omega
         have HA:Hid (AtT w W N Pa Pb zs (k+1) F' ⟨A3,c3,B3,d3,r3⟩ ⟨A4,c4,B4,d4,r4⟩ J W5):=⟨ha3.kp hk5 hPa hnFa,hbb3.kp hk5 hPb hnFb,HI3.out.kp hk5 hNc,HI4.out.kp hk5 hNc,HK2.out,HK3.out,hJ5,hnFa',hnFb',leT (by omega) hk5.size⟩
         have HB5:Hid (∀ b,b<N->W5.heap[b]?=wc.heap[b]?):=fun b hb=>hk5.low hb (ltl hb hNc)
         gi_wp2_with fail
         go_roundw
         case rel=>exact⟨k+1,_,_,_,HA.out,fun b hb=>(HB5.out b hb).trans (HBc.out b hb)⟩
         case measure=>rw[HA.out.lens.1,HA.out.lens.2,HLE.out.1,HLE.out.2];exact HL5.out
       | false =>
         gi_wp2_with fail
         refine bodyPost_ret (results_none rfl _ _ _) rfl ?_
         exact⟨⟨_,rfl⟩,.inr ⟨k,by have:=HK3.out;omega,hr.1⟩⟩)))
theorem OkT.up{N N':Nat}{w:World}{x:Ck}(h:OkT N w x)(hN:N<=N'):OkT N' w x:=V4.Ck.Inp.mono h fun _ hb=>ltl hb hN
theorem LnT.In.up{N N':Nat}{w:World}{L:LnT}(h:L.In N w)(hN:N<=N'):L.In N' w :=
  ⟨h.ml.mono fun _ hb=>ltl hb hN,h.vl.mono fun _ hb=>ltl hb hN,h.cap,h.top,h.dap,h.dop,fun p hp=>(h.mo p hp).up hN,fun p hp=>(h.vk p hp).mono fun _ hb=>ltl hb hN⟩
def jn3(zs:List (Ck×Vl×Vl))(w:World)(e:Ending)(w':World):Prop :=
  ∃ b1 b2 b3,e = .returned (.func (.func 129) #[] #[.pointer (some ⟨b1,0,none⟩),.pointer (some ⟨b2,0,none⟩),.pointer (some ⟨b3,0,none⟩)])/\Below w.heap.size w w' /\
    ∀ N w2,Below w'.heap.size w' w2->w'.heap.size<=N->N<=w2.heap.size->jrn Tryz.prog 129 #[.pointer (some ⟨b1,0,none⟩),.pointer (some ⟨b2,0,none⟩),.pointer (some ⟨b3,0,none⟩)] jv3 N zs w2
theorem jd8(L K:LnT)(w:World)(hL:L.In w.heap.size w)(hK:K.In w.heap.size w):Calls Tryz.prog 84 #[L.val,K.val,.func (.func 85) #[] #[]] w (jn3 (mix jx3 vlZ L.l K.l) w):=by
 obtain⟨V,hV⟩:=exq (((w.alloc (.cells #[.slice L.A L.l.length L.c,.slice L.B L.l.length L.d] 143)).alloc (.cells #[.slice K.A K.l.length K.c,.slice K.B K.l.length K.d] 143)).alloc (.cells #[.func (.func 85) #[] #[]] 145));have hb:Below w.heap.size w V:=by rw[<- hV];exact jzj (jzj (jzj (Below.refl _ _)))
 have h1:Blk V w.heap.size 143 #[.slice L.A L.l.length L.c,.slice L.B L.l.length L.d]:=by rw[<- hV];exact ((Blk.new w _ _).below (jzf _ _)).below (jzf _ _)
 have h2:Blk V (w.heap.size+1) 143 #[.slice K.A K.l.length K.c,.slice K.B K.l.length K.d]:=by (
 rw[<- hV];have:=Blk.new (w.alloc (.cells #[.slice L.A L.l.length L.c,.slice L.B L.l.length L.d] 143)) 143 #[.slice K.A K.l.length K.c,.slice K.B K.l.length K.d];rw[World.size_alloc] at this;exact this.below (jzf _ _))
 have h3:Blk V (w.heap.size+1+1) 145 #[.func (.func 85) #[] #[]]:=by (
 rw[<- hV];have:=Blk.new ((w.alloc (.cells #[.slice L.A L.l.length L.c,.slice L.B L.l.length L.d] 143)).alloc (.cells #[.slice K.A K.l.length K.c,.slice K.B K.l.length K.d] 143)) 145 #[.func (.func 85) #[] #[]];rw[World.size_alloc,World.size_alloc] at this;exact this)
 have HG:Hid (jn3 (mix jx3 vlZ L.l K.l) w (.returned (.func (.func 129) #[] #[.pointer (some ⟨w.heap.size,0,none⟩),.pointer (some ⟨w.heap.size+1,0,none⟩),.pointer (some ⟨w.heap.size+1+1,0,none⟩)])) V):=by (
 refine⟨_,_,_,rfl,hb,fun N w2 hb2 hN1 hN2=>?_⟩;have hbw:Below w.heap.size w w2:=hb.trans (hb2.mono hb.size);have hNw:w.heap.size<=N:=leT hb.size hN1;exact jcx _ _ _ L K N w2 ((hL.keep hbw).up hNw) ((hK.keep hbw).up hNw) hN2 (h1.below hb2) (h2.below hb2) (h3.below hb2) (ltl h3.lt hN1))
 rw[<- hV] at HG;clear hL hK h1 h2 h3 hb hV V;unfold LnT.val;go_enter Tryz.func84,Tryz.ntmps84;go_wp2_with fail;go_ret;exact HG.out
end J5
namespace J5
open Go.RowKit Go.Shelf
open C3 (Tk In jzj jzf)
open V4 (Va Vl Ck jzr jzk jzh jzt jq7)
def jkm(n:Int):Value := .iface 56 (.int .i64 n)
def jyb(w:World)(o:Option Va)(e:Ending)(w':World):Prop :=
  (∃ x:Vl,o=some x.er/\e = .returned (.tuple #[x.val,.nilIface])/\x.Inp (fun b=>w.heap.size<=b/\b<w'.heap.size) w'/\Below w.heap.size w w') \/
  (o=none/\e = .returned (.tuple #[vlZ.val,jkm 13])/\Below w.heap.size w w')
theorem jzo{fn:Func}{p u:Tmp}(h:fn.results=#[.cell p 30,.tmp u])(tmps:Array Value)(w:World)(g:Nat)(v0 v1 v2 v3 v4:Value)(hp:tmps.getD p undef = .pointer (some ⟨g,0,none⟩))(h0:w.cell? ⟨g,0,none⟩=some v0)(h1:w.cell? ⟨g,1,none⟩=some v1)(h2:w.cell? ⟨g,2,none⟩=some v2)(h3:w.cell? ⟨g,3,none⟩=some v3)(h4:w.cell? ⟨g,4,none⟩=some v4):(results fn tmps).run Tryz.prog w = .ok (.tuple #[.agg #[v0,v1,v2,v3,v4],tmps.getD u undef]) w:=by
 have hp':tmps[p]?.getD undef = .pointer (some ⟨g,0,none⟩):=by simpa using hp
 simp[results,h,hp',asAddr]
 go_simp
theorem rcv5 {fn:Func} {p u:Tmp} (h:fn.results=#[.cell p 30,.tmp u]) (tmps:Array Value) (w:World) (g:Nat) (v0 v1 v2 v3 v4:Value) (hp:tmps.getD p undef = .pointer (some ⟨g,0,none⟩)) (hq:Blk w g 30 #[v0,v1,v2,v3,v4]):(results fn tmps).run Tryz.prog w = .ok (.tuple #[.agg #[v0,v1,v2,v3,v4],tmps.getD u undef]) w :=
  jzo h tmps w g v0 v1 v2 v3 v4 hp (jza hq 0 _ rfl) (jza hq 1 _ rfl) (jza hq 2 _ rfl) (jza hq 3 _ rfl) (jza hq 4 _ rfl)
theorem jka:vlZ.val = .agg #[.int .u64 0,.int .u64 0,.slice none 0 0,.slice none 0 0,.slice none 0 0]:=rfl
theorem jb7:vlZ.er = .zero:=by unfold vlZ;rw[jzt];rfl
def jja(x:Vl)(i:Nat):Vl:=x.vs[i]?.getD vlZ
theorem jkw(x:Vl)(i:Nat):(jja x i).er=jq2 x.er i:=by
 obtain⟨n,m,sA,sc,ss,cA,cc,cs,vA,vc,vs⟩:=x;rw[jzt];unfold jja jq2;simp only[V4.Vl.vs,Va.v,List.getElem?_map];cases vs[i]? with
 | none=>exact jb7
 | some y=>rfl
theorem jb0(x:Vl)(i:Nat)(w:World)(hx:x.In w)(h:x.vs=[]\/i<x.vs.length):Calls Tryz.prog 78 #[x.val,.int .i64 i] w fun e w'=>e = .returned (jja x i).val/\(jja x i).In w'/\Below w.heap.size w w':=by
 obtain⟨n,m,sA,sc,ss,cA,cc,cs,vA,vc,vs⟩:=x;simp only[V4.Vl.vs] at h;have hp:=hx.out;have hb:Below w.heap.size w ((w.alloc (.cells #[.int .u64 n,.int .u64 m,.slice sA ss.length sc,.slice cA cs.length cc,.slice vA vs.length vc] 30)).alloc (.cells #[.int .u64 0,.int .u64 0,.slice none 0 0,.slice none 0 0,.slice none 0 0] 30)):=jzj (jzj (Below.refl _ _));have HB:Hid (∀ v0 v1 v2 v3 v4,Below w.heap.size w ((((((((w.alloc (.cells #[.int .u64 n,.int .u64 m,.slice sA ss.length sc,.slice cA cs.length cc,.slice vA vs.length vc] 30)).alloc (.cells #[.int .u64 0,.int .u64 0,.slice none 0 0,.slice none 0 0,.slice none 0 0] 30)).setCell ⟨w.heap.size+1,0,none⟩ v0).setCell ⟨w.heap.size+1,1,none⟩ v1).setCell ⟨w.heap.size+1,2,none⟩ v2).setCell ⟨w.heap.size+1,3,none⟩ v3).setCell ⟨w.heap.size+1,4,none⟩ v4))):=fun v0 v1 v2 v3 v4 =>
   ((((hb.setCell (by simp) _).setCell (by simp) _).setCell (by simp) _).setCell (by simp) _).setCell (by simp) _
 by_cases h0:vs=[]
 ·(
 subst h0;have HH:Hid (jja (Vl.mk n m sA sc ss cA cc cs vA vc []) i=vlZ):=rfl;rw[HH.out,jka];clear hx hp h hb;simp only[jzh,List.length_nil] at HB ⊢;go_enter Tryz.func78,Tryz.ntmps78;go_wp2_with fail;refine bodyPost_ret (V4.jzq rfl _ _ (w.heap.size+1) (.int .u64 0) (.int .u64 0) (.slice none 0 0) (.slice none 0 0) (.slice none 0 0) rfl (by go_simp) (by go_simp) (by go_simp) (by go_simp) (by go_simp)) rfl ?_;exact⟨rfl,jq7 _ _,jzj (jzj (Below.refl _ _))⟩)
 ·(
 have hi:i<vs.length:=h.resolve_left h0;obtain⟨y,hy⟩:∃ y,vs[i]?=some y:=⟨_,List.getElem?_eq_getElem hi⟩
 have HH:Hid (jja (Vl.mk n m sA sc ss cA cc cs vA vc vs) i=y):=by show jja _ _=_;unfold jja;simp only[V4.Vl.vs,hy,Option.getD_some]
 rw[HH.out];obtain⟨b,off,rfl,hbb,c0,c1,c2,c3,c4⟩:=V4.jqm hp.vl hy;have HY:=Lh (hp.vk y (List.mem_of_getElem? hy));have hvl:vs.length<=9223372036854775807:=by have:=hp.vb;unfold maxLen at this;omega
 have hne:((vs.length:Int) == 0)=false:=beq_eq_false_iff_ne.2 (by omega);obtain⟨yn,ym,yK,yL,yN,yO,yP,yQ,yR,yS,yT⟩:=y;simp only[V4.Vl.n,V4.Vl.m,V4.Vl.s1,V4.Vl.c1,V4.Vl.v1] at c0 c1 c2 c3 c4;obtain⟨V,hV⟩:=exq ((w.alloc (.cells #[.int .u64 n,.int .u64 m,.slice sA ss.length sc,.slice cA cs.length cc,.slice (some ⟨b,off,none⟩) vs.length vc] 30)).alloc (.cells #[.int .u64 0,.int .u64 0,.slice none 0 0,.slice none 0 0,.slice none 0 0] 30));rw[hV] at hb HB;replace c0:=(hb.cell (p:=⟨b,off+i*5,none⟩) hbb).trans c0;replace c1:=(hb.cell (p:=⟨b,off+i*5+1,none⟩) hbb).trans c1;replace c2:=(hb.cell (p:=⟨b,off+i*5+2,none⟩) hbb).trans c2;replace c3:=(hb.cell (p:=⟨b,off+i*5+3,none⟩) hbb).trans c3;replace c4:=(hb.cell (p:=⟨b,off+i*5+4,none⟩) hbb).trans c4;have k4:V.cell? ⟨w.heap.size,4,none⟩=some (.slice (some ⟨b,off,none⟩) vs.length vc):=by (
 rw[<- hV];exact ((jzf _ _).cell (p:=⟨w.heap.size,4,none⟩) (by simp)).trans (V4.jz0 4 _ rfl))
 have hv1:Blk V (w.heap.size+1) 30 #[.int .u64 0,.int .u64 0,.slice none 0 0,.slice none 0 0,.slice none 0 0]:=by (
 rw[<- hV];have:=Blk.new (w.alloc (.cells #[.int .u64 n,.int .u64 m,.slice sA ss.length sc,.slice cA cs.length cc,.slice (some ⟨b,off,none⟩) vs.length vc] 30)) 30 #[.int .u64 0,.int .u64 0,.slice none 0 0,.slice none 0 0,.slice none 0 0];rw[World.size_alloc] at this;exact this)
 obtain⟨b0,b1,b2,b3,b4⟩:=blk5 hv1;obtain⟨f0,f1,f2,f3,f4⟩:=fro5 hv1;clear hx hp h hb hv1 hy h0;rw[jzh];go_enter Tryz.func78,Tryz.ntmps78;go_wp2_with fail;refine bodyPost_ret (V4.jzq rfl _ _ (w.heap.size+1) (.int .u64 yn) (.int .u64 ym) (.slice yK yN.length yL) (.slice yO yQ.length yP) (.slice yR yT.length yS) rfl (by go_simp) (by go_simp) (by go_simp) (by go_simp) (by go_simp)) rfl ?_;exact⟨rfl,HY.out.later (HB.out _ _ _ _ _),HB.out _ _ _ _ _⟩)
def jtx(n:Nat)(x:Vl)(w:World)(e:Ending)(w':World):Prop:=e = .returned (if 40<n then .tuple #[vlZ.val,jkm 13] else .tuple #[x.val,.nilIface])/\Below w.heap.size w w'
theorem jco(A:Option Addr)(n c:Nat)(x:Vl)(w:World):Calls Tryz.prog 41 #[.slice A n c,x.val] w (jtx n x w):=by
 obtain⟨xn,xm,xK,xL,xN,xO,xP,xQ,xR,xS,xU⟩:=x;unfold jtx;rw[jzh,jka];by_cases hn:40<n
 ·(
 have hd:decide ((40:Int)<(n:Int))=true:=decide_eq_true (by omega);rw[if_pos hn];clear hn;go_enter Tryz.func41,Tryz.ntmps41;go_wp2_with fail;refine bodyPost_ret (jzo rfl _ _ (w.heap.size+1) (.int .u64 0) (.int .u64 0) (.slice none 0 0) (.slice none 0 0) (.slice none 0 0) rfl (by go_simp) (by go_simp) (by go_simp) (by go_simp) (by go_simp)) rfl ?_;exact⟨rfl,jzj (jzj (Below.refl _ _))⟩)
 ·(
 have hd:decide ((40:Int)<(n:Int))=false:=decide_eq_false (by omega);rw[if_neg hn];clear hn;go_enter Tryz.func41,Tryz.ntmps41;go_wp2_with fail;refine bodyPost_ret (jzo rfl _ _ (w.heap.size+1) (.int .u64 xn) (.int .u64 xm) (.slice xK xN.length xL) (.slice xO xQ.length xP) (.slice xR xU.length xS) rfl (by go_simp) (by go_simp) (by go_simp) (by go_simp) (by go_simp)) rfl ?_;exact⟨rfl,jzj (jzj (Below.refl _ _))⟩)
theorem jcn(A:Option Addr)(n c:Nat)(x:Vl)(w:World):Calls Tryz.prog 83 #[.slice A n c,x.val] w (jtx n x w):=by
 obtain⟨xn,xm,xK,xL,xN,xO,xP,xQ,xR,xS,xU⟩:=x;unfold jtx;rw[jzh,jka];by_cases hn:40<n
 ·(
 have hd:decide ((40:Int)<(n:Int))=true:=decide_eq_true (by omega);rw[if_pos hn];clear hn;go_enter Tryz.func83,Tryz.ntmps83;go_wp2_with fail;refine bodyPost_ret (jzo rfl _ _ (w.heap.size+1) (.int .u64 0) (.int .u64 0) (.slice none 0 0) (.slice none 0 0) (.slice none 0 0) rfl (by go_simp) (by go_simp) (by go_simp) (by go_simp) (by go_simp)) rfl ?_;exact⟨rfl,jzj (jzj (Below.refl _ _))⟩)
 ·(
 have hd:decide ((40:Int)<(n:Int))=false:=decide_eq_false (by omega);rw[if_neg hn];clear hn;go_enter Tryz.func83,Tryz.ntmps83;go_wp2_with fail;refine bodyPost_ret (jzo rfl _ _ (w.heap.size+1) (.int .u64 xn) (.int .u64 xm) (.slice xK xN.length xL) (.slice xO xQ.length xP) (.slice xR xU.length xS) rfl (by go_simp) (by go_simp) (by go_simp) (by go_simp) (by go_simp)) rfl ?_;exact⟨rfl,jzj (jzj (Below.refl _ _))⟩)
end J5
namespace J5
open Go.RowKit Go.Shelf
open C3 (Tk In jzj jzf)
open V4 (Va Vl Ck jzr jzk jzh jql jkf KF Ab)
attribute [local go_sem] Oper.semAt_some
def jrm{α:Type}(p:α->Bool)(zs:List α)(k:Nat):Nat:=((zs.take k).filter fun x=>!p x).length
theorem jni{α:Type}{p:α->Bool}{zs:List α}{k:Nat}{x:α}(hx:zs[k]?=some x)(hp:p x=true):jrm p zs (k+1)=jrm p zs k:=by
 obtain⟨hk,he⟩:=List.getElem?_eq_some_iff.1 hx;unfold jrm;rw[List.take_succ_eq_append_getElem hk,he,List.filter_append];simp[hp]
theorem jnh{α:Type}{p:α->Bool}{zs:List α}{k:Nat}{x:α}(hx:zs[k]?=some x)(hp:p x=false):jrm p zs (k+1)=jrm p zs k+1:=by
 obtain⟨hk,he⟩:=List.getElem?_eq_some_iff.1 hx;unfold jrm;rw[List.take_succ_eq_append_getElem hk,he,List.filter_append];simp[hp]
theorem jnj{α:Type}{p:α->Bool}{zs:List α}{k:Nat}{x:α}(hx:zs[k]?=some x)(hp:p x=false):(zs.filter fun x=>!p x)[jrm p zs k]?=some x:=by
 obtain⟨hk,he⟩:=List.getElem?_eq_some_iff.1 hx;have h1:zs.filter (fun x=>!p x)=(zs.take k).filter (fun x=>!p x)++(zs.drop k).filter (fun x=>!p x):=by rw[<- List.filter_append,List.take_append_drop]
 rw[h1,List.getElem?_append_right (by unfold jrm;omega),List.drop_eq_getElem_cons hk,he,List.filter_cons,if_pos (by simp[hp])];simp[jrm]
theorem cntW_len{α:Type}(p:α->Bool)(zs:List α):jrm p zs zs.length=(zs.filter fun x=>!p x).length:=by unfold jrm;rw[List.take_length]
theorem juh(Ba Bi Bc b1 b2 b3:Nat)(p:Ck×Vl×Vl->Bool)(zs:List (Ck×Vl×Vl))(N:Nat)(w:World)(hN:N<=w.heap.size)(hseq:jrn Tryz.prog 129 #[.pointer (some ⟨b1,0,none⟩),.pointer (some ⟨b2,0,none⟩),.pointer (some ⟨b3,0,none⟩)] jv3 N zs w)(his:∀ x∈zs,∀ W':World,(∀ b,b<N->W'.heap[b]?=w.heap[b]?)->N<=W'.heap.size->Calls Tryz.prog 88 #[.agg (jzv x),.pointer (some ⟨Bc,0,none⟩)] W' (jqd W' (.bool (p x))))(ha:Blk w Ba 141 #[.func (.func 129) #[] #[.pointer (some ⟨b1,0,none⟩),.pointer (some ⟨b2,0,none⟩),.pointer (some ⟨b3,0,none⟩)]])(hi:Blk w Bi 152 #[.func (.func 88) #[] #[.pointer (some ⟨Bc,0,none⟩)]])(hiN:Bi<N):jrn Tryz.prog 134 #[.pointer (some ⟨Ba,0,none⟩),.pointer (some ⟨Bi,0,none⟩)] jv3 N (zs.filter fun x=>!p x) w:=by
 intro l J Jx W hW hJ hJx hY h0;have hNW:=leT hN hW.size;have ha0:W.cell? ⟨Ba,0,none⟩=some (.func (.func 129) #[] #[.pointer (some ⟨b1,0,none⟩),.pointer (some ⟨b2,0,none⟩),.pointer (some ⟨b3,0,none⟩)]):=jza (ha.below hW) 0 _ rfl;have hi0:W.cell? ⟨Bi,0,none⟩=some (.func (.func 88) #[] #[.pointer (some ⟨Bc,0,none⟩)]):=jza (hi.below hW) 0 _ rfl;have hBa:=(ha.below hW).lt;obtain⟨V,hV⟩:=exq (W.alloc (.cells #[.func (.yield l) #[] #[]] 152));have hbV:Below W.heap.size W V:=by rw[<- hV];exact jzf _ _
 have hy0:Blk V W.heap.size 152 #[.func (.yield l) #[] #[]]:=by rw[<- hV];exact Blk.new _ _ _
 have va0:=(hbV.cell (p:=⟨Ba,0,none⟩) hBa).trans ha0;have HSQ:=Lh (hseq.later (hW.trans (hbV.mono hW.size)));have HIS:=Lh his;have HJ:=Lh hJ;have HJX:=Lh hJx;have HY:=Lh hY;have H0:=Lh (hJ _ _ _ _ h0 (KJ.of_below hbV (Nat.le_refl _)));have HWN:Hid (∀ b,b<N->V.heap[b]?=w.heap[b]?):=fun b hb=>(hbV.block b (ltl hb hNW)).trans (hW.block b (ltl hb hN))
 have HVI:Hid (∀ W':World,(∀ b,b<N->W'.heap[b]?=w.heap[b]?)->W'.cell? ⟨Bi,0,none⟩=some (.func (.func 88) #[] #[.pointer (some ⟨Bc,0,none⟩)])):=fun W' hb=>(World.cell?_of_block (a:=⟨Bi,0,none⟩) (hb Bi hiN)).trans (jza hi 0 _ rfl)
 have hsV:=hbV.size;have hltV:=hy0.lt;clear hseq his hJ hJx hY h0 hbV ha hi hi0 hW;refine (callsIn_wide (n:=6)).1 (callsIn_of_wp_marks Tryz.func134 rfl trivial ?_ rfl);simp only[Tryz.ntmps134,List.size_toArray,List.length_cons,List.length_nil,Nat.reduceAdd,Nat.reduceSub,Array.replicate_succ,Array.replicate_zero,List.push_toArray,List.append_toArray,List.nil_append,List.cons_append];gi_wp2_with fail
 refine jgo rfl (enters_of Tryz.func129 (by kernel_rfl) rfl) (N:=N) (by omega) HSQ.out (fun _=>rfl)
   (fun k X U=>J (jrm p zs k) X U/\Blk U W.heap.size 152 #[.func (.yield l) #[] #[]]/\(∀ b,b<N->U.heap[b]?=w.heap[b]?)/\¬ X W.heap.size)
   (fun c _ U=>c = .ret/\∃ j,j<(zs.filter fun x=>!p x).length/\Jx j U)
   (fun k X U U' ⟨h1,h2,h3,h4⟩ hk=>⟨HJ.out _ _ _ _ h1 (hk.mono hsV),(hk.bel.block _ hltV).trans h2,fun b hb=>(hk.bel.block b (by omega)).trans (h3 b hb),h4⟩)
   (fun c k U U' ⟨h1,j,h2,h3⟩ hb=>⟨h1,j,h2,HJX.out _ _ _ h3 (hb.mono hsV)⟩)
   ⟨H0.out,hy0,HWN.out,id⟩
   (fun x a' U=>∃ bp,a'={ tmps:=#[.func (.yield l) #[] #[],.pointer (some ⟨Ba,0,none⟩),.pointer (some ⟨Bi,0,none⟩),.pointer (some ⟨W.heap.size,0,none⟩),.pointer (some ⟨bp,0,none⟩),.func (.func 129) #[] #[.pointer (some ⟨b1,0,none⟩),.pointer (some ⟨b2,0,none⟩),.pointer (some ⟨b3,0,none⟩)],.agg (jzv x),undef,undef,undef,undef,undef,undef,undef,undef,undef,undef],defers:=[] }/\Blk U bp 150 (jzv x))
   ?ax ?assign ?body ?done ?stop
 case ax=>(
 rintro x a' _ X Y row ⟨bp,h1,h2⟩ hg hr;refine⟨bp,h1,(hg.block bp h2.lt fun e=>?_).trans h2⟩;obtain⟨_,o,ho1,ho2⟩:=hr bp e.symm;rw[h2] at ho1;cases ho1
 cases ho2)
 case assign=>(
 intro l2 k x X K _ hK;obtain⟨⟨mA,mc,ml⟩,⟨an,aM,aK,aL,aN,aO,aP,aQ,aR,aS,aT⟩,bn,bM,bK,bL,bN,bP,bQ,bS,bT,bU,bW⟩:=x;unfold jv3;simp only[jzv,jjb,V4.Ck.v,V4.Vl.n,V4.Vl.m,V4.Vl.s1,V4.Vl.c1,V4.Vl.v1] at hK ⊢;gi_wp2
 exact hK _ _ (jzf _ _) ⟨X.heap.size,rfl,Blk.new _ _ _⟩)
 case body=>(
 rintro l2 k X x a' U hUs hxk ⟨hJr,hyr,hlow,hnX⟩ ⟨bp,rfl,hbx⟩;have HXK:=Lh hxk;have HC:=Lh (HIS.out x (List.mem_of_getElem? hxk) U hlow (by omega));have vi:=HVI.out U hlow;obtain⟨q,hq⟩:=exq (p x);rw[hq] at HC;have HQ:=Lh hq;have HJR:=Lh hJr;have HLO:=Lh hlow;clear hxk hq hJr hlow;have hbl:=hbx.lt;obtain⟨x0,hx0⟩:∃ x0,x0=x:=⟨_,rfl⟩
 rw[<- hx0] at HXK HQ;obtain⟨⟨mA,mc,ml⟩,⟨an,aM,aK,aL,aN,aO,aP,aQ,aR,aS,aT⟩,bn,bM,bK,bL,bN,bP,bQ,bS,bT,bU,bW⟩:=x;simp only[jzv,jjb,V4.Ck.v,V4.Vl.n,V4.Vl.m,V4.Vl.s1,V4.Vl.c1,V4.Vl.v1] at HC hbx ⊢;have HX0:=Lh hx0;clear hx0;obtain⟨e0,e1,e2,e3,e4⟩:=blk5 hbx;have e5:U.cell? ⟨bp,5,none⟩=some (.slice aR aT.length aS):=jza hbx 5 _ rfl;have e6:U.cell? ⟨bp,6,none⟩=some (.int .u64 bn):=jza hbx 6 _ rfl;have e7:U.cell? ⟨bp,7,none⟩=some (.int .u64 bM):=jza hbx 7 _ rfl;have e8:U.cell? ⟨bp,8,none⟩=some (.slice bK bN.length bL):=jza hbx 8 _ rfl;have e9:U.cell? ⟨bp,9,none⟩=some (.slice bP bS.length bQ):=jza hbx 9 _ rfl;have e10:U.cell? ⟨bp,10,none⟩=some (.slice bT bW.length bU):=jza hbx 10 _ rfl;gi_wp2_with fail
 refine⟨trivial,rfl,(CallsIn.inRound l2 (callsIn_wide.2 HC.out)).mono ?_⟩;rintro e U1 ⟨rfl,hb1⟩;have hbx1:=hbx.below hb1;have hyr1:=hyr.below hb1;have HLO1:Hid (∀ b,b<N->U1.heap[b]?=w.heap[b]?):=fun b hb=>(hb1.block b (by omega)).trans (HLO.out b hb)
 have HJ1:=Lh (HJ.out _ _ _ _ HJR.out (KJ.of_below hb1 (by omega)));have hs1:=hb1.size;clear e0 e1 e2 e3 e4 e5 e6 e7 e8 e9 e10 vi HC;cases q with
 | true=>(
 gi_wp2_with fail
 refine⟨fun f h=>(by cases h),?_⟩;gi_wp2_with fail
 exact⟨KP.of_below hb1,X,fun b hb => .inl hb,by rw[jni HXK.out HQ.out];exact HJ1.out,hyr1,HLO1.out,hnX⟩)
 | false=>(
 obtain⟨e0,e1,e2,e3,e4⟩:=blk5 hbx1;have e5:U1.cell? ⟨bp,5,none⟩=some (.slice aR aT.length aS):=jza hbx1 5 _ rfl;have e6:U1.cell? ⟨bp,6,none⟩=some (.int .u64 bn):=jza hbx1 6 _ rfl;have e7:U1.cell? ⟨bp,7,none⟩=some (.int .u64 bM):=jza hbx1 7 _ rfl;have e8:U1.cell? ⟨bp,8,none⟩=some (.slice bK bN.length bL):=jza hbx1 8 _ rfl;have e9:U1.cell? ⟨bp,9,none⟩=some (.slice bP bS.length bQ):=jza hbx1 9 _ rfl;have e10:U1.cell? ⟨bp,10,none⟩=some (.slice bT bW.length bU):=jza hbx1 10 _ rfl;have vy:U1.cell? ⟨W.heap.size,0,none⟩=some (.func (.yield l) #[] #[]):=jza hyr1 0 _ rfl;obtain⟨fn,tmps,assign,body,hy,hR⟩:=jql (m':=0) (HY.out _ X _ U1 (jnj HXK.out HQ.out) HJ1.out (by omega));rw[HX0.out] at hy;unfold jv3 at hy;simp only[jzv,jjb,V4.Ck.v,V4.Vl.n,V4.Vl.m,V4.Vl.s1,V4.Vl.c1,V4.Vl.v1] at hy;have hR2:=hR.mono fun e W' h=>jkf h
 clear hR;gi_wp2_with fail
 refine⟨rfl,hR2.mono ?_⟩;clear hR2 hy e0 e1 e2 e3 e4 e5 e6 e7 e8 e9 e10 vy;rintro e U2 ⟨r,rfl,hr⟩;cases r with
 | true=>(
 obtain⟨X',hgr,hJ2,hk2⟩:=hr;have hnX':¬ X' W.heap.size:=fun h=>by (
 rcases hgr _ h with h | h
 ·exact hnX h
 ·have:=hyr1.lt;omega)
 gi_wp2_with fail
 refine⟨(KP.of_below hb1).trans (hk2.mono hsV),X',fun b hb=>(hgr b hb).imp id fun h=>leT hs1 h,?_,hk2.same _ _ hyr1 (.inr ⟨Nat.le_refl _,hnX⟩),fun b hb=>(hk2.low hb (by omega)).trans (HLO1.out b hb),hnX'⟩;rw[jnh HXK.out HQ.out];exact hJ2)
 | false=>(
 gi_wp2_with fail
 refine⟨(KF.of_below hb1).trans (hr.2.mono hsV),rfl,_,?_,hr.1⟩;exact (List.getElem?_eq_some_iff.1 (jnj HXK.out HQ.out)).1)))
 case done=>(
 rintro E X U hE hnE ⟨hJr,_,_⟩ hD2;have HJR:=Lh hJr;clear hJr;gi_wp2_with fail
 refine⟨by simp,.inl ⟨_,_,rfl,run_takeDeferred hD2,?_⟩⟩;refine⟨_,results_none rfl _ _ _,?_⟩;exact⟨⟨_,rfl⟩,.inl ⟨X,by rw[<- cntW_len];exact HJ.out _ _ _ _ HJR.out (KJ.put hnE (by omega) _)⟩⟩)
 case stop=>(
 rintro E c k U hE hk ⟨rfl,j,hj,hJx2⟩ hD2;gi_wp2_with fail
 refine⟨by simp,.inl ⟨_,_,rfl,run_takeDeferred hD2,?_⟩⟩;refine⟨_,results_none rfl _ _ _,?_⟩;exact⟨⟨_,rfl⟩,.inr ⟨j,hj,HJX.out _ _ _ hJx2 ⟨rfl,rfl,rfl,by simp,fun q hq=>World.putObj_heap_other (by omega)⟩⟩⟩)
end J5
end Go.Proofs.YtobggoephhjofaaGreatDoor
