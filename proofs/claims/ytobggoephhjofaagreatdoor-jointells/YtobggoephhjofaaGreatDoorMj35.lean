/- A part. No condition. -/
import Derived.Test.YtobggoephhjofaaGreatDoorMj34
import Derived.Stop.Asserts
import Derived.LaidEql
set_option maxRecDepth 100000
set_option maxHeartbeats 16000000
namespace Go.Proofs.YtobggoephhjofaaGreatDoor
namespace J5
open Go.RowKit Go.Shelf
open C3 (Tk In jzj jzf)
open S2 (Sc Tr isT)
open V4 (Va Vl Ck isV jqh jzr jzk jzh jzt jze)
def VMidQ(P:Nat->Prop)(U:World)(o:Except Int Va)(s1 s2:Value)(wx:World):Prop :=
  ∃ (pb:Nat) (z:Vl) (g:Int),s1 = .pointer (some ⟨pb,0,none⟩)/\s2 = .int .i64 g/\U.heap.size<=pb/\V4.Bxd wx pb #[.int .u64 z.n,.int .u64 z.m,z.s1,z.c1,z.v1]/\z.Inp (fun k=>(P k\/U.heap.size<=k)/\k<wx.heap.size) wx/\Below U.heap.size U wx/\((o = .ok z.er/\g=0)\/(o = .error g/\(g=13\/g=14)/\z.er=Va.zero))
theorem jlg{P:Nat->Prop}{U T:World}{o:Except Int Va}{pb:Nat}{z:Vl}{g:Int}{z0 z1 z2 z3 z4:Value}(hq:Blk T pb 30 #[z0,z1,z2,z3,z4])(hpb:U.heap.size<=pb)(hz:z.Inp (fun b=>((P b\/U.heap.size<=b)/\b<T.heap.size)/\b≠pb) T)(he:(o = .ok z.er/\g=0)\/(o = .error g/\(g=13\/g=14)/\z.er=Va.zero))(hb:Below U.heap.size U T) :
    VMidQ P U o (.pointer (some ⟨pb,0,none⟩)) (.int .i64 g) (jz9 T pb (.int .u64 z.n) (.int .u64 z.m) z.s1 z.c1 z.v1) :=
  ⟨pb,z,g,rfl,rfl,hpb,jd7 (jzc hq),(hz.keep fun _ hP=>jzn hP.2).mono fun _ hP=>⟨hP.1.1,ltl hP.1.2 (Nat.le_of_eq jzp.symm)⟩,jzl hb hpb,he⟩
structure AllR (P:Nat->Prop) (w:World) (sv:Array Value) (B6:Nat) (t:Tr) (l:List Vl) (k:Nat) (g:Vl) (W:World):Prop where
  q0:Blk W w.heap.size 24 sv
  q1:Blk W (w.heap.size+1) 30 #[.int .u64 0,.int .u64 0,.slice none 0 0,.slice none 0 0,.slice none 0 0]
  q2:Blk W B6 30 #[.int .u64 g.n,.int .u64 g.m,g.s1,g.c1,g.v1]
  hg:g.Inp (fun b=>(P b\/w.heap.size+2<=b)/\b<W.heap.size/\b≠B6) W
  fold:((l.map Vl.er).take k).foldlM (jxg t) (jqh t) = .ok g.er
  bel:Below w.heap.size w W
  b6:w.heap.size+2<=B6
theorem jol(s:Sc)(P:Nat->Prop)(A:Option Addr)(c:Nat)(l:List Vl)(w:World)(hP:∀ k,P k->k<w.heap.size)(hs:s.In w.heap.size w)(hl:jzr P w A (jzk l))(hv:∀ v∈l,v.Inp P w)(hn:l.length<=1000000):Calls Tryz.prog 9 #[s.val,.slice A l.length c] w (RetQ P w (jf0 s.er (l.map Vl.er))):=by
 obtain⟨p,hp⟩:=exq (isT 16 s.er);have HIS:=Lh (fun W (hb:Below w.heap.size w W)=>S2.jvu s W (hs.later hb));rw[hp] at HIS;have HBO:=Lh (fun W (hb:Below w.heap.size w W)=>V4.jwt s W (hs.later hb));have HJ:=Lh (fun (Q:Nat->Prop) x y W (hb:Below w.heap.size w W) (hQ:∀ k,Q k->k<W.heap.size) (hx:x.Inp Q W) (hy:y.Inp Q W)=>jy7 s Q x y W hQ (hs.later hb) hx hy);have HF:Hid (p=true->jf0 s.er (l.map Vl.er)=(l.map Vl.er).foldlM (jxg s.er) (jqh s.er)):=fun e=>by show jf0 _ _=_;unfold jf0;rw[if_pos (hp.trans e)]
 have HJF:Hid (p=true->∀ x y,jxs s.er x y=jxg s.er x y):=fun e x y=>by show jxs _ _ _=_;unfold jxs;rw[if_pos (hp.trans e)]
 have HN:Hid (p=false->jf0 s.er (l.map Vl.er) = .error 14):=fun e=>by show jf0 _ _=_;unfold jf0;rw[if_neg (by rw[hp,e];decide)]
 obtain⟨R,hR⟩:=exq (jf0 s.er (l.map Vl.er));rw[hR] at HF HN;rw[hR];clear hR hs hp;have HL:=Lh hl;have HV:=Lh hv;have HPW:=Lh hP;have hln:l.length<=9223372036854775807:=by omega
 clear hl hv hn hP;obtain⟨t,ht⟩:=exq (s.er);rw[ht] at HBO HJ HF HJF;clear ht;obtain⟨k0,A0,sc0,sl⟩:=s;simp only[S2.jzh] at HIS HBO HJ ⊢;obtain⟨V,hV⟩:=exq ((w.alloc (.cells #[.int .i64 k0,.slice A0 sl.length sc0] 24)).alloc (.cells #[.int .u64 0,.int .u64 0,.slice none 0 0,.slice none 0 0,.slice none 0 0] 30));obtain⟨q0,q1,hbV,hs0⟩:=blk2 hV;have hsV:w.heap.size+2<=V.heap.size:=by omega
 clear hs0;obtain⟨e0,e1⟩:=blk2c q0;go_enter Tryz.func9,Tryz.ntmps9;go_wp2_with fail;refine (HIS.out V hbV).mono ?_;rintro e V1 ⟨rfl,hb1⟩;have hbV1:=hbV.trans (hb1.mono hbV.size);have hs1:=hb1.size;replace q0:=q0.below hb1;replace q1:=q1.below hb1;clear e0 e1 hV HIS hb1;cases p with
 | false=>(
 obtain⟨d0,d1,d2,d3,d4⟩:=blk5 q1;obtain⟨f0,f1,f2,f3,f4⟩:=fro5 q1;go_wp2_with fail;refine bodyPost_ret (rcv5 rfl _ _ (w.heap.size+1) (.int .u64 0) (.int .u64 0) (.slice none 0 0) (.slice none 0 0) (.slice none 0 0) rfl (jzc q1)) rfl ?_;exact jyj (HN.out (by simp)) (.inr rfl) (jzl hbV1 (by omega)))
 | true=>(
 replace HF:=Lh (HF.out rfl);replace HJF:=Lh (HJF.out rfl);clear HN;obtain⟨e0,e1⟩:=blk2c q0;go_wp2_with fail;refine (HBO.out V1 hbV1).mono ?_;rintro e U ⟨⟨gn,gm,gK,gL,gM,gN,gO,gP,gQ,gR,gS⟩,rfl,hge,hgi,hbU⟩;simp only[jzh];have hsU:=hbU.size;obtain⟨X,hX⟩:=exq (U.alloc (.cells #[.int .u64 gn,.int .u64 gm,.slice gK gM.length gL,.slice gN gP.length gO,.slice gQ gS.length gR] 30));have hbX:Below U.heap.size U X:=by rw[<- hX];exact jzf _ _
 have q2:Blk X U.heap.size 30 #[.int .u64 gn,.int .u64 gm,.slice gK gM.length gL,.slice gN gP.length gO,.slice gQ gS.length gR]:=by rw[<- hX];exact Blk.new _ _ _
 have HM:Hid (AllR P w #[.int .i64 k0,.slice A0 sl.length sc0] U.heap.size t l 0 (.mk gn gm gK gL gM gN gO gP gQ gR gS) X):=by (
 refine⟨(q0.below hbU).below hbX,(q1.below hbU).below hbX,q2,(hgi.keep fun b hP=>hbX.block b hP.2).mono fun b hP=>⟨.inr (by have:=hP.1;omega),?_,by have:=hP.2;omega⟩,?_,hbV1.trans ((hbU.trans (hbX.mono hbU.size)).mono hbV1.size),by omega⟩
 ·exact ltl hP.2 hbX.size
 ·rw[hge];rfl)
 obtain⟨B6,hB6⟩:=exq (U.heap.size);rw[hB6] at HM;clear q0 q1 q2 e0 e1 hge hgi hbX HBO;go_wp2_with fail;clear hB6 hX hbU hsU hbV1 hs1;go_loopw [7] (fun iv wr=>∃ (k:Nat) (g:Vl),k<=l.length/\iv = .int .i64 k/\Hid (AllR P w #[.int .i64 k0,.slice A0 sl.length sc0] B6 t l k g wr)) (fun iv _=>l.length - (intOf iv).toNat)
 case atStart=>exact⟨0,_,Nat.zero_le _,rfl,HM⟩
 case round=>(
 clear HM;obtain⟨k,⟨gn,gm,gK,gL,gM,gN,gO,gP,gQ,gR,gS⟩,hk,rfl,HM⟩:=hrel;have q0:=HM.out.q0;have q1:=HM.out.q1;have q2:=HM.out.q2;have h6:=HM.out.b6;have hbr:=HM.out.bel;simp only[V4.Vl.n,V4.Vl.m,V4.Vl.s1,V4.Vl.c1,V4.Vl.v1] at q2;obtain⟨R1,rfl⟩:∃ R1,R1=wr:=⟨_,rfl⟩
 by_cases hlt:k<l.length
 ·(
 obtain⟨x,hx⟩:∃ x,l[k]?=some x:=⟨_,List.getElem?_eq_getElem hlt⟩
 obtain⟨b,off,rfl,hbb,c0,c1,c2,c3,c4⟩:=V4.jqm HL.out hx;have HX:=Lh hx;have HXI:=Lh (HV.out x (List.mem_of_getElem? hx));obtain⟨x0,hx0⟩:=exq (x);rw[hx0] at HX;have HX0:=Lh hx0;clear hx hx0;obtain⟨kn,km,kK,kL,kM,kN,kO,kQ,kR,kS,kT⟩:=x;simp only[V4.Vl.n,V4.Vl.m,V4.Vl.s1,V4.Vl.c1,V4.Vl.v1] at c0 c1 c2 c3 c4;replace hbb:=HPW.out _ hbb;replace c0:=(hbr.cell (p:=⟨b,off+k*5,none⟩) hbb).trans c0;replace c1:=(hbr.cell (p:=⟨b,off+k*5+1,none⟩) hbb).trans c1;replace c2:=(hbr.cell (p:=⟨b,off+k*5+2,none⟩) hbb).trans c2;replace c3:=(hbr.cell (p:=⟨b,off+k*5+3,none⟩) hbb).trans c3;replace c4:=(hbr.cell (p:=⟨b,off+k*5+4,none⟩) hbb).trans c4;obtain⟨Q,hQ⟩:∃ Q:Nat->Prop,(fun b=>(P b\/w.heap.size+2<=b)/\b<R1.heap.size/\b≠B6)=Q:=⟨_,rfl⟩
 have HQQ:=Lh hQ;have HPU:Hid (∀ k,Q k->k<R1.heap.size):=fun k hk=>by rw[<- hQ] at hk;exact hk.2.1
 have lB6:=q2.lt;have HGI:Hid ((Vl.mk gn gm gK gL gM gN gO gP gQ gR gS).Inp Q R1):=by rw[<- hQ];exact HM.out.hg
 have HKI:Hid ((Vl.mk kn km kK kL kM kN kO kQ kR kS kT).Inp Q R1):=by (
 rw[<- hQ];exact (HXI.out.keep fun b hP=>hbr.block b (HPW.out b hP)).mono fun b hP=>⟨.inl hP,ltl (HPW.out b hP) hbr.size,by have:=HPW.out b hP;omega⟩)
 obtain⟨st,hst⟩:=exq (jxg t (Vl.mk gn gm gK gL gM gN gO gP gQ gR gS).er (Vl.mk kn km kK kL kM kN kO kQ kR kS kT).er);have HJY:Hid (∀ W:World,Below R1.heap.size R1 W->Calls Tryz.prog 7 #[.agg #[.int .i64 k0,.slice A0 sl.length sc0],.agg #[.int .u64 gn,.int .u64 gm,.slice gK gM.length gL,.slice gN gP.length gO,.slice gQ gS.length gR],.agg #[.int .u64 kn,.int .u64 km,.slice kK kM.length kL,.slice kN kQ.length kO,.slice kR kT.length kS]] W (RetQ Q W st)):=fun W hb=>by (
 have:=HJ.out Q (.mk gn gm gK gL gM gN gO gP gQ gR gS) (.mk kn km kK kL kM kN kO kQ kR kS kT) W (hbr.trans (hb.mono hbr.size)) (fun k hk=>ltl (HPU.out k hk) hb.size) (HGI.out.keep fun b hk=>hb.block b (HPU.out b hk)) (HKI.out.keep fun b hk=>hb.block b (HPU.out b hk));rw[HJF.out,hst] at this;simpa only[jzh] using this)
 have HST:Hid (((l.map Vl.er).take (k+1)).foldlM (jxg t) (jqh t)=st):=by (
 show _=_
 rw[jg4 (getL HX.out),HM.out.fold,<- hst,<- HX0.out];rfl)
 have lw0:w.heap.size<R1.heap.size:=by have:=q1.lt;omega
 have lbb:b<R1.heap.size:=ltl hbb hbr.size;clear hst hQ;obtain⟨e0,e1⟩:=blk2c q0;obtain⟨a0,a1,a2,a3,a4⟩:=blk5 q2;go_upto_region 7 with fail
 go_cut [8,9] (fun s1 s2 wx=>Hid (VMidQ Q R1 st s1 s2 wx))
 case first=>(
 clear q0 q1 q2 HM HX HXI HX0 HGI HKI HST;have HK:Hid (∀ W,Below R1.heap.size R1 W->(fun w'=>w'.cell? ⟨w.heap.size,0,none⟩=some (.int .i64 k0)/\w'.cell? ⟨w.heap.size,1,none⟩=some (.slice A0 sl.length sc0)/\w'.cell? ⟨B6,0,none⟩=some (.int .u64 gn)/\w'.cell? ⟨B6,1,none⟩=some (.int .u64 gm)/\w'.cell? ⟨B6,2,none⟩=some (.slice gK gM.length gL)/\w'.cell? ⟨B6,3,none⟩=some (.slice gN gP.length gO)/\w'.cell? ⟨B6,4,none⟩=some (.slice gQ gS.length gR)/\w'.cell? ⟨b,off+k*5,none⟩=some (.int .u64 kn)/\w'.cell? ⟨b,off+k*5+1,none⟩=some (.int .u64 km)/\w'.cell? ⟨b,off+k*5+2,none⟩=some (.slice kK kM.length kL)/\w'.cell? ⟨b,off+k*5+3,none⟩=some (.slice kN kQ.length kO)/\w'.cell? ⟨b,off+k*5+4,none⟩=some (.slice kR kT.length kS)) W):=fun W hW=>⟨(hW.cell (p:=⟨w.heap.size,0,none⟩) lw0).trans e0,(hW.cell (p:=⟨w.heap.size,1,none⟩) lw0).trans e1,(hW.cell (p:=⟨B6,0,none⟩) lB6).trans a0,(hW.cell (p:=⟨B6,1,none⟩) lB6).trans a1,(hW.cell (p:=⟨B6,2,none⟩) lB6).trans a2,(hW.cell (p:=⟨B6,3,none⟩) lB6).trans a3,(hW.cell (p:=⟨B6,4,none⟩) lB6).trans a4,(hW.cell (p:=⟨b,off+k*5,none⟩) lbb).trans c0,(hW.cell (p:=⟨b,off+k*5+1,none⟩) lbb).trans c1,(hW.cell (p:=⟨b,off+k*5+2,none⟩) lbb).trans c2,(hW.cell (p:=⟨b,off+k*5+3,none⟩) lbb).trans c3,(hW.cell (p:=⟨b,off+k*5+4,none⟩) lbb).trans c4⟩
 refine wp_region_noPanic ?_;refine rgH HK (fun hHeld=>?_);obtain⟨D,hD⟩:=exq (R1.drew);rw[hD] at hHeld ⊢;have HB:Hid (Below R1.heap.size R1 D):=by rw[<- hD];exact (Below.refl _ _).drew
 clear hD;refine tkH 0 23 ?_;refine tkH 1 24 ?_;refine tkH 2 25 ?_;refine tkH 3 26 ?_;refine tkH 4 27 ?_;refine tkH 5 28 ?_;refine wpAnyH_ready (rs:=[6,10]) (by kernel_rfl) (by simp) ?_;refine AllReadyH.cons rfl (fun K hK=>?wn7_a) (AllReadyH.cons rfl (fun K hK=>?wn7_b) AllReadyH.nil);case wn7_a=>(
 go_simp;go_wp2_with (go_at_call 7;refine (HJY.out _ HB.out).mono ?_;rintro e Da hr;(obtain⟨⟨zn,zm,zK,zL,zM,zN,zO,zP,zQ,zR,zS⟩,zb,rfl,hzi,hbn,hze⟩:=hr;have HZE:=Lh hze;simp only[jzh];have hzi2:(Vl.mk zn zm zK zL zM zN zO zP zQ zR zS).Inp (fun k=>(Q k\/R1.heap.size<=k)/\k<Da.heap.size) Da:=hzi.mono fun k hP=>⟨hP.1.imp id (leT HB.out.size),hP.2⟩;clear hze))
 replace HB:Hid (Below R1.heap.size R1 Da):=HB.out.trans (hbn.mono HB.out.size);clear hbn;refine hK.out _ _ (HK.out _ HB.out) (fun hHeld=>?_);clear hK K;refine tkH 7 22 ?_;refine tkH 8 30 ?_;refine tkH 9 31 ?_;refine rdH 10 (fun K hK=>?_);go_simp;obtain⟨Dap,hDap⟩:=exq (Da.alloc (.cells #[.int .u64 0,.int .u64 0,.slice none 0 0,.slice none 0 0,.slice none 0 0] 30));rw[hDap];have hbn:Below Da.heap.size Da Dap:=by rw[<- hDap];exact jzf _ _
 have HPB:Hid (Blk Dap Da.heap.size 30 #[.int .u64 0,.int .u64 0,.slice none 0 0,.slice none 0 0,.slice none 0 0]):=by rw[<- hDap];exact Blk.new _ _ _
 have hpb:R1.heap.size<=Da.heap.size:=HB.out.size;replace HB:Hid (Below R1.heap.size R1 Dap):=HB.out.trans (hbn.mono HB.out.size);refine hK.out _ _ (HK.out _ HB.out) (fun hHeld=>?_);clear hK K;have HZI:Hid ((Vl.mk zn zm zK zL zM zN zO zP zQ zR zS).Inp (fun b=>((Q b\/R1.heap.size<=b)/\b<Dap.heap.size)/\b≠Da.heap.size) Dap):=(hzi2.keep fun b hP=>hbn.block b hP.2).mono fun b hP=>⟨⟨hP.1,ltl hP.2 hbn.size⟩,Nat.ne_of_lt hP.2⟩
 have qp:=HPB.out;obtain⟨d0,d1,d2,d3,d4⟩:=blk5 qp;obtain⟨f0,f1,f2,f3,f4⟩:=fro5 qp;refine rdH 11 (fun K hK=>?_);go_simp;change K _ (jz9 _ _ _ _ _ _ _);refine nmY (fun Y hY=>?_);have HMID:Hid (VMidQ Q R1 st (.pointer (some ⟨Da.heap.size,0,none⟩)) (.int .i64 zb) Y):=by rw[<- hY];exact jlg (z := .mk zn zm zK zL zM zN zO zP zQ zR zS) qp hpb HZI.out HZE.out HB.out
 replace HB:Hid (Below R1.heap.size R1 Y):=by rw[<- hY];exact jzl HB.out hpb
 refine hK.out _ _ (HK.out _ HB.out) (fun hHeld=>?_);clear hK K;refine tkH 12 9 ?_;refine wpAnyH_done (by kernel_rfl) ?_ _;refine NoPanic.normal ?_;go_wp2_with fail;go_meet
 exact HMID)
 case wn7_b=>(
 go_simp;obtain⟨Dp,hDp⟩:=exq (D.alloc (.cells #[.int .u64 0,.int .u64 0,.slice none 0 0,.slice none 0 0,.slice none 0 0] 30));rw[hDp];have hbn:Below D.heap.size D Dp:=by rw[<- hDp];exact jzf _ _
 have HPB:Hid (Blk Dp D.heap.size 30 #[.int .u64 0,.int .u64 0,.slice none 0 0,.slice none 0 0,.slice none 0 0]):=by rw[<- hDp];exact Blk.new _ _ _
 have hpb:R1.heap.size<=D.heap.size:=HB.out.size;replace HB:Hid (Below R1.heap.size R1 Dp):=HB.out.trans (hbn.mono HB.out.size);clear hbn;refine hK.out _ _ (HK.out _ HB.out) (fun hHeld=>?_);clear hK K;refine rdH 6 (fun K hK=>?_);go_simp;have HLT:Hid (D.heap.size<Dp.heap.size):=HPB.out.lt;go_wp2_with (go_at_call 7;refine (HJY.out _ HB.out).mono ?_;rintro e Dpa hr;(obtain⟨⟨zn,zm,zK,zL,zM,zN,zO,zP,zQ,zR,zS⟩,zb,rfl,hzi,hbn,hze⟩:=hr;have HZE:=Lh hze;simp only[jzh];have hzi2:(Vl.mk zn zm zK zL zM zN zO zP zQ zR zS).Inp (fun k=>(Q k\/R1.heap.size<=k)/\k<Dpa.heap.size) Dpa:=hzi.mono fun k hP=>⟨hP.1.imp id (leT HB.out.size),hP.2⟩;clear hze))
 replace HPB:=Lh (HPB.out.below hbn);have HZI:Hid ((Vl.mk zn zm zK zL zM zN zO zP zQ zR zS).Inp (fun b=>((Q b\/R1.heap.size<=b)/\b<Dpa.heap.size)/\b≠D.heap.size) Dpa):=hzi.mono fun b hP=>⟨⟨hP.1.imp id (leT HB.out.size),hP.2⟩,fun e=>by (rcases hP.1 with h | h;(have:=HPU.out b h;omega);(have:=HLT.out;omega))⟩
 replace HB:Hid (Below R1.heap.size R1 Dpa):=HB.out.trans (hbn.mono HB.out.size);clear hbn;refine hK.out _ _ (HK.out _ HB.out) (fun hHeld=>?_);clear hK K;refine tkH 7 22 ?_;refine tkH 8 30 ?_;refine tkH 9 31 ?_;have qp:=HPB.out;obtain⟨d0,d1,d2,d3,d4⟩:=blk5 qp;obtain⟨f0,f1,f2,f3,f4⟩:=fro5 qp;refine rdH 11 (fun K hK=>?_);go_simp;change K _ (jz9 _ _ _ _ _ _ _);refine nmY (fun Y hY=>?_);have HMID:Hid (VMidQ Q R1 st (.pointer (some ⟨D.heap.size,0,none⟩)) (.int .i64 zb) Y):=by rw[<- hY];exact jlg (z := .mk zn zm zK zL zM zN zO zP zQ zR zS) qp hpb HZI.out HZE.out HB.out
 replace HB:Hid (Below R1.heap.size R1 Y):=by rw[<- hY];exact jzl HB.out hpb
 refine hK.out _ _ (HK.out _ HB.out) (fun hHeld=>?_);clear hK K;refine tkH 12 9 ?_;refine wpAnyH_done (by kernel_rfl) ?_ _;refine NoPanic.normal ?_;go_wp2_with fail;go_meet
 exact HMID))
 obtain⟨D,⟨zn,zm,zK,zL,zM,zN,zO,zP,zQ,zR,zS⟩,en,rfl,rfl,hD,XD,ID,hbT,hc⟩:=hcut.out;obtain⟨T,hT⟩:=exq (wc);rw[hT] at XD ID hbT;rw[hT];clear hT hcut e0 e1 a0 a1 a2 a3 a4 c0 c1 c2 c3 c4;simp only[V4.Vl.n,V4.Vl.m,V4.Vl.s1,V4.Vl.c1,V4.Vl.v1] at XD;have hbwT:Below w.heap.size w T:=hbr.trans (hbT.mono hbr.size);have z0':=q0.below hbT;have z1':=q1.below hbT;have z2':=q2.below hbT;have HZI:Hid ((Vl.mk zn zm zK zL zM zN zO zP zQ zR zS).Inp (fun b=>((P b\/w.heap.size+2<=b)/\b<T.heap.size)/\b≠B6) T):=ID.mono fun b hb=>by (
 rcases hb.1 with h | h
 ·rw[<- HQQ.out] at h;exact⟨⟨h.1,hb.2⟩,h.2.2⟩
 ·exact⟨⟨.inr (by omega),hb.2⟩,by omega⟩)
 have lD:=XD.1;clear ID q0 q1 q2;have y0:T.cell? ⟨D,0,none⟩=some (.int .u64 zn):=XD.2 0 _ rfl;have y1:T.cell? ⟨D,1,none⟩=some (.int .u64 zm):=XD.2 1 _ rfl;have y2:T.cell? ⟨D,2,none⟩=some (.slice zK zM.length zL):=XD.2 2 _ rfl;have y3:T.cell? ⟨D,3,none⟩=some (.slice zN zP.length zO):=XD.2 3 _ rfl;have y4:T.cell? ⟨D,4,none⟩=some (.slice zQ zS.length zR):=XD.2 4 _ rfl;rcases hc with ⟨ho,rfl⟩ | ⟨ho,hen,-⟩
 ·(
 have HO:=Lh ho;clear ho;obtain⟨b0,b1,b2,b3,b4⟩:=blk5 z2';obtain⟨f0,f1,f2,f3,f4⟩:=fro5 z2';have HM2:Hid (AllR P w #[.int .i64 k0,.slice A0 sl.length sc0] B6 t l (k+1) (.mk zn zm zK zL zM zN zO zP zQ zR zS) (jz9 T B6 (.int .u64 zn) (.int .u64 zm) (.slice zK zM.length zL) (.slice zN zP.length zO) (.slice zQ zS.length zR))):=by refine⟨(jzn (by omega)).trans z0',(jzn (by omega)).trans z1',jzc z2',(HZI.out.keep fun b hP=>jzn hP.2).mono fun b hP=>⟨hP.1.1,ltl hP.1.2 (Nat.le_of_eq jzp.symm),hP.2⟩,HST.out.trans HO.out,jzl hbwT (by omega),h6⟩
 clear z0' z1' z2' HM;go_wp2_with fail;go_roundw
 case rel=>exact⟨k+1,_,by omega,by go_num,HM2⟩
 case measure=>simp[intOf];omega)
 ·(
 have HO:=Lh ho;clear ho HM;obtain⟨d0,d1,d2,d3,d4⟩:=blk5 z1';obtain⟨f0,f1,f2,f3,f4⟩:=fro5 z1';rcases hen with rfl | rfl
 ·(
 go_wp2_with fail;refine bodyPost_ret (rcv5 rfl _ _ (w.heap.size+1) (.int .u64 0) (.int .u64 0) (.slice none 0 0) (.slice none 0 0) (.slice none 0 0) rfl (jzc z1')) rfl ?_;exact jyj (HF.out.trans (jkl (HST.out.trans HO.out))) (.inl rfl) (jzl hbwT (by omega)))
 ·(
 go_wp2_with fail;refine bodyPost_ret (rcv5 rfl _ _ (w.heap.size+1) (.int .u64 0) (.int .u64 0) (.slice none 0 0) (.slice none 0 0) (.slice none 0 0) rfl (jzc z1')) rfl ?_;exact jyj (HF.out.trans (jkl (HST.out.trans HO.out))) (.inr rfl) (jzl hbwT (by omega)))))
 ·(
 have hkk:k=l.length:=by omega
 obtain⟨a0,a1,a2,a3,a4⟩:=blk5 q2;obtain⟨d0,d1,d2,d3,d4⟩:=blk5 q1;obtain⟨f0,f1,f2,f3,f4⟩:=fro5 q1;have hl2:=q2.lt;have HQ:=Lh (And.intro q0 q2);clear q0 q2;go_wp2_with fail;refine bodyPost_ret (rcv5 rfl _ _ (w.heap.size+1) (.int .u64 gn) (.int .u64 gm) (.slice gK gM.length gL) (.slice gN gP.length gO) (.slice gQ gS.length gR) rfl (jzc q1)) rfl ?_;refine⟨.mk gn gm gK gL gM gN gO gP gQ gR gS,0,rfl,(HM.out.hg.keep fun b hP=>jzn (by rcases hP.1 with h | h;(have:=HPW.out b h;omega);omega)).mono fun b hP=>⟨hP.1.imp id (by omega),ltl hP.2.1 (Nat.le_of_eq jzp.symm)⟩,jzl hbr (by omega),.inl ⟨?_,rfl⟩⟩;rw[HF.out];have:=HM.out.fold;rwa [List.take_of_length_le (by simp;omega)] at this)))
open Go.RowKit Go.Shelf Go.Extern.Stop Go.Stop Go.Extern
theorem Tryz.eqTypeOf(v:Value)(w:World):(Extern.ReflectliteType.typeOf #[.iface 56 v]).run Tryz.prog w = .ok (.iface 112 (.agg #[.pointer (some ⟨2,56,none⟩)])) w:=by kernel_rfl
def cmpX : Array Value → Sem Value := Extern.ReflectliteType.method fun t => do Go.Extern.Rtype.noPackHeld "Comparable" t; pure (.bool (← typeInfo t).comparable)
theorem Tryz.eqComparable(w:World):(cmpX #[.agg #[.pointer (some ⟨2,56,none⟩)]]).run Tryz.prog w = .ok (.bool true) w:=by kernel_rfl
theorem Tryz.eqMethod (v : Value) (w : World) : (Go.method 351 112 v "Comparable").run Tryz.prog w = .ok (197, v) w := by kernel_rfl
theorem Tryz.eqComp:(Tryz.prog.info? 56).map (·.comparable)=some true:=by kernel_rfl
theorem Tryz.noIsN(v:Value)(xT:TypeId)(w:World):(Instr.typeAssert (.iface 56 v) xT 114 true).run Tryz.prog w = .ok (.tuple #[.nilIface,.bool false]) w:=run_typeAssert_lacksB Tryz.underlying114 (by kernel_rfl) (by kernel_rfl) v xT w
theorem Tryz.noUnwrapN(v:Value)(xT:TypeId)(w:World):(Instr.typeAssert (.iface 56 v) xT 117 true).run Tryz.prog w = .ok (.tuple #[.nilIface,.bool false]) w:=run_typeAssert_lacksB Tryz.underlying117 (by kernel_rfl) (by kernel_rfl) v xT w
theorem Tryz.noUnwrapsN(v:Value)(xT:TypeId)(w:World):(Instr.typeAssert (.iface 56 v) xT 119 true).run Tryz.prog w = .ok (.tuple #[.nilIface,.bool false]) w:=run_typeAssert_lacksB Tryz.underlying119 (by kernel_rfl) (by kernel_rfl) v xT w
theorem jmi(n m:Int)(w:World):(binOp .eql 33 (jkm n) (jkm m)).run Tryz.prog w = .ok (.bool (decide (n=m))) w:=by
 obtain⟨i,hi,hcmp⟩:=Option.map_eq_some_iff.1 Tryz.eqComp;have hu:=Tryz.underlying33;have he:=Tryz.underlying56;unfold jkm;have h:∀ d:Nat,(Op.equalIn (d+2) 33 (.iface 56 (.int .i64 n)) (.iface 56 (.int .i64 m))).run Tryz.prog w = .ok (decide (n=m)) w:=fun d=>by (
 simp[Op.equalIn,run_underlying hu,run_underlying he,typeInfo,hi,hcmp]
 rfl)
 simp only[binOp];simp[Op.equal,Op.maxDepth,h 9998]
theorem jhz(n m:Int)(w:World):Calls Tryz.prog 18 #[jkm n,jkm m] w (jqd w (.bool (decide (n=m)))):=by
 have h25:=@run_callFunc_extern Tryz.prog 34 _ Extern.ReflectliteType.typeOf Tryz.func34 (by kernel_rfl) (by kernel_rfl) (by kernel_rfl) (by kernel_rfl);have h63:=@run_callFunc_extern Tryz.prog 197 _ cmpX Tryz.func197 (by kernel_rfl) (by kernel_rfl) (by kernel_rfl) (by kernel_rfl);have tT:=Tryz.eqTypeOf;have cT:=Tryz.eqComparable;have mR:=Tryz.eqMethod;have nE:=Tryz.noIsN;have uE:=Tryz.noUnwrapN;have vE:=Tryz.noUnwrapsN;have heq:=jmi n m w;obtain⟨q,hq⟩:=exq (decide (n=m));rw[hq] at heq;rw[hq];clear hq;unfold jkm at heq ⊢;cases q with
 | true=>(
 go_enter Tryz.func18,Tryz.ntmps18;go_wp2
 refine wp_loop_rounds 1 ?_;rw[rounds_succ];go_wp2
 go_ret;exact⟨rfl,Below.refl _ _⟩)
 | false=>(
 go_enter Tryz.func18,Tryz.ntmps18;go_wp2
 refine wp_loop_rounds 1 ?_;rw[rounds_succ];go_wp2
 go_ret;exact⟨rfl,Below.refl _ _⟩)
open C3 (jzf)
def jp1(w:World):Prop:=w.cell? ⟨0,0,none⟩=some (.iface 112 (.agg #[.pointer (some ⟨2,33,none⟩)]))
theorem jp1.lt{w:World}(h:jp1 w):0<w.heap.size:=by
 unfold jp1 at h;rcases Nat.eq_zero_or_pos w.heap.size with h0 | h'
 ·simp[World.cell?,h0] at h
 ·exact h'
theorem jp1.later{w w':World}(h:jp1 w)(hb:Below w.heap.size w w'):jp1 w':=(hb.cell (p:=⟨0,0,none⟩) h.lt).trans h
theorem Tryz.asValueOf(t:Addr)(w:World):(ReflectliteValue.unpack (.iface 63 (.pointer (some t)))).run Tryz.prog w
    = .ok (.agg #[.pointer (some ⟨2,63,none⟩),.pointer (some ⟨w.heap.size,0,none⟩),.int .u64 150]) (w.alloc (.cells #[.pointer (some t)] 63)):=by kernel_rfl
theorem Tryz.asType (a : Addr) (w : World) : (ReflectliteValue.methodAny (ReflectliteValue.valueError "reflectlite.Value.Type" 0) (fun t _ _ _ => ReflectliteType.toType t) #[.agg #[.pointer (some ⟨2, 63, none⟩), .pointer (some a), .int .u64 150]]).run Tryz.prog w
    = .ok (.iface 112 (.agg #[.pointer (some ⟨2,63,none⟩)])) w:=by kernel_rfl
theorem Tryz.asMKind (h : Value) (w : World) : (Go.method 351 112 (.agg #[h]) "Kind").run Tryz.prog w = .ok (188, h) w := by kernel_rfl
theorem Tryz.asKindP(w:World):((ReflectliteType.abiMethod fun t=>(fun a:Nat=>Value.int IntKind.u8 (a:Int)) <$> Rtype.kind t) #[.pointer (some ⟨2,63,none⟩)]).run Tryz.prog w = .ok (.int .u8 22) w:=by kernel_rfl
theorem Tryz.asKindE(w:World):((ReflectliteType.abiMethod fun t=>(fun a:Nat=>Value.int IntKind.u8 (a:Int)) <$> Rtype.kind t) #[.pointer (some ⟨2,56,none⟩)]).run Tryz.prog w = .ok (.int .u8 2) w:=by kernel_rfl
theorem rlm(z:Sem Value)(f:TypeId->Addr->Nat->Nat->Sem Value)(v:Value) :
    ReflectliteValue.method z f #[v]=(do match <- ReflectliteValue.parts v with | none=>z | some (t,a,fl)=>f t a fl (fl % 32)):=rfl
theorem Tryz.asPartsP(a:Addr)(w:World):(ReflectliteValue.parts (.agg #[.pointer (some ⟨2,63,none⟩),.pointer (some a),.int .u64 150])).run Tryz.prog w = .ok (some (63,a,150)) w:=by kernel_rfl
theorem Tryz.asIsNil (a p : Addr) (W : World) (ha : W.cell? a = some (.pointer (some p))) : (ReflectliteValue.method (ReflectliteValue.valueError "reflectlite.Value.IsNil" 0) ReflectliteValue.isNil #[.agg #[.pointer (some ⟨2, 63, none⟩), .pointer (some a), .int .u64 150]]).run Tryz.prog W = .ok (.bool false) W := by
 rw[rlm];simp only[Sem.run_bind,Tryz.asPartsP,Result.andThen];simp[ReflectliteValue.isNil,loadVar,isAgg,underlying,Tryz.underlying63,ha,Result.andThen]
theorem Tryz.asMElem (h : Value) (w : World) : (Go.method 351 112 (.agg #[h]) "Elem").run Tryz.prog w = .ok (198, .agg #[h]) w := by kernel_rfl
theorem Tryz.asMImpl (h : Value) (w : World) : (Go.method 351 112 (.agg #[h]) "Implements").run Tryz.prog w = .ok (199, .agg #[h]) w := by kernel_rfl
theorem Tryz.asMAssign (h : Value) (w : World) : (Go.method 351 112 (.agg #[h]) "AssignableTo").run Tryz.prog w = .ok (196, .agg #[h]) w := by kernel_rfl
theorem Tryz.asElemP(w:World):(ReflectliteType.method ReflectliteType.elem #[.agg #[.pointer (some ⟨2,63,none⟩)]]).run Tryz.prog w = .ok (.iface 112 (.agg #[.pointer (some ⟨2,56,none⟩)])) w:=by kernel_rfl
theorem Tryz.asImplE (w : World) : (ReflectliteType.relation "Implements" ReflectliteType.implements_ #[.agg #[.pointer (some ⟨2, 56, none⟩)], .iface 112 (.agg #[.pointer (some ⟨2, 33, none⟩)])]).run Tryz.prog w = .ok (.bool true) w := by kernel_rfl
theorem Tryz.asAssignE (w : World) : (ReflectliteType.relation "AssignableTo" ReflectliteType.assignableTo #[.agg #[.pointer (some ⟨2, 56, none⟩)], .iface 112 (.agg #[.pointer (some ⟨2, 56, none⟩)])]).run Tryz.prog w = .ok (.bool true) w := by kernel_rfl
theorem Tryz.asValueE(n:Int)(w:World):(ReflectliteValue.unpack (.iface 56 (.int .i64 n))).run Tryz.prog w
    = .ok (.agg #[.pointer (some ⟨2,56,none⟩),.pointer (some ⟨w.heap.size,0,none⟩),.int .u64 130]) (w.alloc (.cells #[.int .i64 n] 56)):=by kernel_rfl
theorem Tryz.asElemOf(w:World):(Rtype.elem? 63).run Tryz.prog w = .ok (some 56) w:=by kernel_rfl
theorem Tryz.asMk(p:Addr)(w:World):(ReflectliteValue.mk 56 p ReflectliteValue.flagAddr).run Tryz.prog w = .ok (.agg #[.pointer (some ⟨2,56,none⟩),.pointer (some p),.int .u64 386]) w:=by kernel_rfl
theorem Tryz.asElemV (a p : Addr) (W : World) (ha : W.cell? a = some (.pointer (some p))) : (ReflectliteValue.method (ReflectliteValue.valueError "reflectlite.Value.Elem" 0) ReflectliteValue.elem #[.agg #[.pointer (some ⟨2, 63, none⟩), .pointer (some a), .int .u64 150]]).run Tryz.prog W = .ok (.agg #[.pointer (some ⟨2, 56, none⟩), .pointer (some p), .int .u64 386]) W := by
 rw[rlm];simp only[Sem.run_bind,Tryz.asPartsP,Result.andThen];simp[ReflectliteValue.elem,loadVar,isAgg,underlying,Tryz.underlying63,ha,Result.andThen,Tryz.asElemOf,Tryz.asMk]
theorem rls(v x:Value):ReflectliteValue.set #[v,x]=(do
    let (some (dst,a,fl),some (src,b,_)):=(<- ReflectliteValue.parts v,<- ReflectliteValue.parts x)
      | unsupported (.noEntry "extern/(internal/reflectlite.Value).Set.zeroValue")
    if fl / ReflectliteValue.flagAddr % 2 == 0 then unsupported (.noEntry "extern/(internal/reflectlite.Value).Set.unaddressable")
    let val <- loadVar src b
    if <- Rtype.directlyAssignable dst src then storeVar dst a val
    else if <- Rtype.implements dst src then
      if (<- Rtype.kind src) == 20 then
        match val with
        | .nilIface => unsupported (.noEntry "extern/reflectlite: a nil value of one interface type handed on as a value of another")
        | _=>storeVar dst a val
      else storeVar dst a (.iface src val)
    else panicString ("reflectlite.Set: value of type " ++ (← Rtype.spelt src) ++ " is not assignable to type " ++ (← Rtype.spelt dst))
    pure (.tuple #[])):=rfl
theorem Tryz.asPartsA(a:Addr)(w:World):(ReflectliteValue.parts (.agg #[.pointer (some ⟨2,56,none⟩),.pointer (some a),.int .u64 386])).run Tryz.prog w = .ok (some (56,a,386)) w:=by kernel_rfl
theorem Tryz.asPartsE(a:Addr)(w:World):(ReflectliteValue.parts (.agg #[.pointer (some ⟨2,56,none⟩),.pointer (some a),.int .u64 130])).run Tryz.prog w = .ok (some (56,a,130)) w:=by kernel_rfl
theorem Tryz.asDirect(w:World):(Rtype.directlyAssignable 56 56).run Tryz.prog w = .ok true w:=by kernel_rfl
theorem Tryz.asSet(ta b:Addr)(n:Int)(old:Value)(W:World)(hb:W.cell? b=some (.int .i64 n))(ht:W.cell? ta=some old)(hf:W.frozen? ta=false):(ReflectliteValue.set #[.agg #[.pointer (some ⟨2,56,none⟩),.pointer (some ta),.int .u64 386],.agg #[.pointer (some ⟨2,56,none⟩),.pointer (some b),.int .u64 130]]).run Tryz.prog W = .ok (.tuple #[]) (W.setCell ta (.int .i64 n)):=by
 rw[rls];simp only[Sem.run_bind,Tryz.asPartsA,Tryz.asPartsE,Result.andThen];simp[ReflectliteValue.flagAddr,loadVar,isAgg,underlying,Tryz.underlying56,hb,Result.andThen,Tryz.asDirect,storeVar,Value.cells,storeCells,Addr.add]
 rw[run_store Tryz.prog W ta _ _ (by rfl)];simp[ht,hf]
theorem as_hit(n:Int)(t:Addr)(old:Value)(w:World)(hg:w.cell? ⟨0,0,none⟩=some (.iface 112 (.agg #[.pointer (some ⟨2,33,none⟩)])))(ht0:w.cell? t=some old)(hf0:w.frozen? t=false):Calls Tryz.prog 28 #[.iface 56 (.int .i64 n),.iface 63 (.pointer (some t))] w fun ev w'=>ev = .returned (.bool true)/\w'=((((w.alloc (.cells #[.pointer (some t)] 63)).alloc (.cells #[.pointer (some ⟨2,63,none⟩),.pointer (some ⟨w.heap.size,0,none⟩),.int .u64 150] 96)).alloc (.cells #[.pointer (some ⟨2,63,none⟩),.pointer (some ⟨w.heap.size,0,none⟩),.int .u64 150] 96)).alloc (.cells #[.int .i64 n] 56)).setCell t (.int .i64 n):=by
 have x1:=@run_callFunc_extern Tryz.prog 59 _ (fun args=>ReflectliteValue.unpack (args.getD 0 (.tuple #[]))) Tryz.func59 (by kernel_rfl) (by kernel_rfl) (by kernel_rfl) (by kernel_rfl);have x2 := @run_callFunc_extern Tryz.prog 60 _ (ReflectliteValue.methodAny (ReflectliteValue.valueError "reflectlite.Value.Type" 0) (fun t _ _ _ => ReflectliteType.toType t)) Tryz.func60 (by kernel_rfl) (by kernel_rfl) (by kernel_rfl) (by kernel_rfl)
 have x3 := @run_callFunc_extern Tryz.prog 61 _ (ReflectliteValue.method (ReflectliteValue.valueError "reflectlite.Value.IsNil" 0) ReflectliteValue.isNil) Tryz.func61 (by kernel_rfl) (by kernel_rfl) (by kernel_rfl) (by kernel_rfl)
 have x4:=@run_callFunc_extern Tryz.prog 188 _ (ReflectliteType.abiMethod fun t=>do pure (.int .u8 (← Rtype.kind t))) Tryz.func188 (by kernel_rfl) (by kernel_rfl) (by kernel_rfl) (by kernel_rfl);have x5:=@run_callFunc_extern Tryz.prog 198 _ (ReflectliteType.method ReflectliteType.elem) Tryz.func198 (by kernel_rfl) (by kernel_rfl) (by kernel_rfl) (by kernel_rfl);have x6 := @run_callFunc_extern Tryz.prog 199 _ (ReflectliteType.relation "Implements" ReflectliteType.implements_) Tryz.func199 (by kernel_rfl) (by kernel_rfl) (by kernel_rfl) (by kernel_rfl)
 have x7:=@run_callFunc_extern Tryz.prog 34 _ (ReflectliteType.typeOf) Tryz.func34 (by kernel_rfl) (by kernel_rfl) (by kernel_rfl) (by kernel_rfl);have x8 := @run_callFunc_extern Tryz.prog 196 _ (ReflectliteType.relation "AssignableTo" ReflectliteType.assignableTo) Tryz.func196 (by kernel_rfl) (by kernel_rfl) (by kernel_rfl) (by kernel_rfl)
 have x9 := @run_callFunc_extern Tryz.prog 103 _ (ReflectliteValue.method (ReflectliteValue.valueError "reflectlite.Value.Elem" 0) ReflectliteValue.elem) Tryz.func103 (by kernel_rfl) (by kernel_rfl) (by kernel_rfl) (by kernel_rfl)
 have x10:=@run_callFunc_extern Tryz.prog 104 _ (ReflectliteValue.set) Tryz.func104 (by kernel_rfl) (by kernel_rfl) (by kernel_rfl) (by kernel_rfl);have tO:=Tryz.eqTypeOf;have mA:=Tryz.asMAssign;have aE:=Tryz.asAssignE;have vE:=Tryz.asValueE;have vP:=Tryz.asValueOf;have tP:=Tryz.asType;have mK:=Tryz.asMKind;have mE:=Tryz.asMElem;have mI:=Tryz.asMImpl;have kP:=Tryz.asKindP;have kE:=Tryz.asKindE;have eP:=Tryz.asElemP;have iE:=Tryz.asImplE;have n8:=Tryz.asIsNil ⟨w.heap.size,0,none⟩ t ((w.alloc (.cells #[.pointer (some t)] 63)).alloc (.cells #[.pointer (some ⟨2,63,none⟩),.pointer (some ⟨w.heap.size,0,none⟩),.int .u64 150] 96)) (by simp);have hlt:0<w.heap.size:=by (
 rcases Nat.eq_zero_or_pos w.heap.size with h0 | h
 ·simp[World.cell?,h0] at hg
 ·exact h)
 have hg2:((w.alloc (.cells #[.pointer (some t)] 63)).alloc (.cells #[.pointer (some ⟨2,63,none⟩),.pointer (some ⟨w.heap.size,0,none⟩),.int .u64 150] 96)).cell? ⟨0,0,none⟩=some (.iface 112 (.agg #[.pointer (some ⟨2,33,none⟩)])):=by rw[World.cell?_alloc_lt _ _ ⟨0,0,none⟩ (by simp),World.cell?_alloc_lt _ _ ⟨0,0,none⟩ hlt];exact hg
 have htl:t.block<w.heap.size:=by (
 rcases Nat.lt_or_ge t.block w.heap.size with h | h
 ·exact h
 ·simp[World.cell?,Array.getElem?_eq_none h] at ht0)
 have el:=Tryz.asElemV ⟨w.heap.size,0,none⟩ t (((w.alloc (.cells #[.pointer (some t)] 63)).alloc (.cells #[.pointer (some ⟨2,63,none⟩),.pointer (some ⟨w.heap.size,0,none⟩),.int .u64 150] 96)).alloc (.cells #[.pointer (some ⟨2,63,none⟩),.pointer (some ⟨w.heap.size,0,none⟩),.int .u64 150] 96)) (by rw[World.cell?_alloc_lt _ _ ⟨w.heap.size,0,none⟩ (by simp;omega)];simp);have st:=Tryz.asSet t ⟨w.heap.size+1+1+1,0,none⟩ n old ((((w.alloc (.cells #[.pointer (some t)] 63)).alloc (.cells #[.pointer (some ⟨2,63,none⟩),.pointer (some ⟨w.heap.size,0,none⟩),.int .u64 150] 96)).alloc (.cells #[.pointer (some ⟨2,63,none⟩),.pointer (some ⟨w.heap.size,0,none⟩),.int .u64 150] 96)).alloc (.cells #[.int .i64 n] 56))
   (by rw[World.cell?_alloc_at _ _ _ _ (by simp)];rfl)
   (by rw[World.cell?_alloc_lt _ _ t (by simp;omega),World.cell?_alloc_lt _ _ t (by simp;omega),World.cell?_alloc_lt _ _ t (by simp;omega),World.cell?_alloc_lt _ _ t htl];exact ht0)
   (by rw[World.frozen?_alloc_old _ _ t (by simp;omega),World.frozen?_alloc_old _ _ t (by simp;omega),World.frozen?_alloc_old _ _ t (by simp;omega),World.frozen?_alloc_old _ _ t (Nat.ne_of_lt htl)];exact hf0)
 go_enter Tryz.func28,Tryz.ntmps28;go_wp2
 refine wp_loop_rounds 1 ?_;rw[rounds_succ];go_wp2
 go_ret;exact⟨rfl,rfl⟩
theorem jne(w:World):Calls Tryz.prog 10 #[.nilIface] w (jqd w (.int .i64 0)):=by
 go_enter Tryz.func10,Tryz.ntmps10;go_wp2
 go_ret;exact⟨rfl,jzf _ _⟩
theorem jnf(n:Int)(w:World)(hg:jp1 w):Calls Tryz.prog 10 #[jkm n] w (jqd w (.int .i64 n)):=by
 have hn:=run_eql_iface_nil_left (P:=Tryz.prog) w 56 (.int .i64 n) Tryz.underlying33;have hlt:=hg.lt;unfold jkm;obtain⟨U,hU⟩:=exq (w.alloc (.cells #[.int .i64 0] 56));have hbU:Below w.heap.size w U:=by rw[<- hU];exact jzf _ _
 have q:Blk U w.heap.size 56 #[.int .i64 0]:=by rw[<- hU];exact Blk.new _ _ _
 have HA:=Lh (as_hit n ⟨w.heap.size,0,none⟩ (.int .i64 0) U (hg.later hbU) (jza q 0 _ rfl) (jzb q 0));have lU:=q.lt;have c0:U.cell? ⟨w.heap.size,0,none⟩=some (.int .i64 0):=jza q 0 _ rfl;go_enter Tryz.func10,Tryz.ntmps10;go_wp2_with fail;refine HA.out.mono ?_;rintro e T ⟨rfl,hT⟩;have qT:Blk T w.heap.size 56 #[.int .i64 n]:=by (
 rw[hT];refine Blk.set (cs:=#[.int .i64 0]) ?_ 0 _;exact (((q.below (jzf _ _)).below (jzf _ _)).below (jzf _ _)).below (jzf _ _))
 have hbT:Below w.heap.size w T:=by (
 rw[hT];have h1:=jzf U (.cells #[.pointer (some ⟨w.heap.size,0,none⟩)] 63);refine Below.setCell ?_ (show w.heap.size<=(⟨w.heap.size,0,none⟩:Addr).block from Nat.le_refl _) _;exact hbU.trans (((((h1.trans ((jzf _ _).mono h1.size))).trans ((jzf _ _).mono (by simp;omega))).trans ((jzf _ _).mono (by simp;omega))).mono hbU.size))
 have cT:T.cell? ⟨w.heap.size,0,none⟩=some (.int .i64 n):=jza qT 0 _ rfl;clear hT HA hU;go_wp2_with fail;go_ret;exact⟨rfl,hbT⟩
end J5
namespace V4
open Go.RowKit Go.Shelf
open C3 (Tk isC jzj jqo jxo)
open S2 (Sc Tr isT jzf)
theorem jrz(p x:Int)(hp:0<=p/\p<=1000)(hx:1<=x):isC [⟨p,x⟩]=true:=by
 unfold C3.isC C3.bad;simp[C3.Asc]
 omega
def jyw(b:Nat)(p x:Int):Ck:=⟨some ⟨b,0,none⟩,1,[⟨p,x⟩]⟩
theorem jm8{W:World}{b:Nat}{p x:Int}(h:Bxd W b #[.int .i64 p,.int .u64 x])(hx:0<=x/\x<=18446744073709551615):(jyw b p x).Inp (fun b=>b<W.heap.size) W:=by
 refine⟨.inr ⟨b,0,rfl,h.1,fun i u hu=>?_⟩,by simp[jyw],by simp[jyw,maxLen],fun t ht=>?_,by simp[jyw]⟩
 ·(
 rw[Nat.zero_add];exact h.2 i u (by simpa[jyw,C3.jzv] using hu))
 ·(
 simp[jyw] at ht
 subst ht;exact hx)
def vlCV(n m:Int)(sA:Option Addr)(ss:List Str)(c:Nat)(cs:List Ck)(v:Nat)(vs:List Vl):Vl := .mk n m sA ss.length ss (some ⟨c,0,none⟩) cs.length cs (some ⟨v,0,none⟩) vs.length vs
theorem jc7{W:World}{c v:Nat}{cs:List Ck}{vs:List Vl}{c1 c2:Array Value}(hc:Bxd W c c1)(e1:c1=(jzm cs).toArray)(hv:Bxd W v c2)(e2:c2=(jzk vs).toArray)(l1:cs.length<=1000)(l2:vs.length<=1000)(h1:∀ k∈cs,k.Inp (fun b=>b<W.heap.size) W)(h2:∀ x∈vs,x.In W):(vlCV 0 0 none [] c cs v vs).In W:=by
 refine .mk _ _ _ _ _ _ _ _ _ _ _ (by omega) (by omega) .nil (by simp[maxLen]) (by simp) (.inr ⟨c,0,rfl,hc.1,fun i u hu=>?_⟩) (by simp[maxLen];omega) h1 (.inr ⟨v,0,rfl,hv.1,fun i u hu=>?_⟩) (by simp[maxLen];omega) h2
 ·(
 rw[Nat.zero_add];exact hc.2 i u (by rw[e1];simpa using hu))
 ·(
 rw[Nat.zero_add];exact hv.2 i u (by rw[e2];simpa using hu))
end V4
namespace J5
open Go.RowKit Go.Shelf
open C3 (Tk isC jxo)
open S2 (Sc Tr isT)
open V4 (Va Vl Ck isV jqh ApR jrz)
theorem jdd{w:World}{o:Except Int Va}{z:Va}{e:Ending}{w':World}(h:jny w o e w')(ho:o = .ok z):∃ x:Vl,e = .returned (.tuple #[x.val,.nilIface])/\x.er=z/\x.Inp (fun b=>w.heap.size<=b/\b<w'.heap.size) w'/\Below w.heap.size w w':=by
 rcases h with ⟨x,h1,h2⟩ | ⟨n,h1,_⟩
 ·(
 rw[ho] at h1;exact⟨x,h2.1,(Except.ok.inj h1).symm,h2.2⟩)
 ·rw[ho] at h1;cases h1
theorem retK_err{w:World}{o:Except Int Va}{n:Int}{e:Ending}{w':World}(h:jny w o e w')(ho:o = .error n):e = .returned (.tuple #[vlZ.val,jkm n])/\Below w.heap.size w w':=by
 rcases h with ⟨x,h1,h2⟩ | ⟨m,h1,h2⟩
 ·rw[ho] at h1;cases h1
 ·(
 rw[ho] at h1;cases h1;exact h2)
theorem jtd{t:Tr}{x y z:Va}(ht:isT 16 t=true)(vx:isV t x=true)(vy:isV t y=true)(hj:jzs t x y=some z):jxs t x y = .ok z:=by
 unfold jxs jxg;rw[if_pos ht,if_pos ⟨vx,vy⟩,hj]
theorem jo0{t:Tr}{x y:Va}(h:isV t x=false\/isV t y=false):jxs t x y = .error 14 :=
  jmz (h.imp (fun h=>by rw[h,Bool.and_false]) (fun h=>by rw[h,Bool.and_false]))
def numE(n:Int):Va := .mk n 0 [] [] []
theorem is_num(n:Int):isV (.mk 1 []) (numE n)=true:=(jvc (.inl rfl)).2 ⟨n,rfl,by simp⟩
theorem jhx(a b:Int):jzs (.mk 1 []) (numE a) (numE b)=some (numE (max a b)):=by
 rw[jzs,if_neg (by decide),if_neg (by decide),if_neg (by decide)];rfl
theorem isT_3:isT 16 (.mk 3 [])=true:=by decide
theorem isT_81:isT 16 (.mk 8 [.mk 1 []])=true:=by decide
def verE(k n v:Int):Va := .mk 0 0 [] [[⟨k,n⟩]] [numE v]
theorem is_ver(k n v:Int)(hk:0<=k/\k<=1000)(hn:1<=n):isV (.mk 8 [.mk 1 []]) (verE k n v)=true:=by
 refine jq4.2 ⟨_,_,rfl,rfl,by simp,by simp,fun c hc=>?_,fun y hy=>?_⟩
 ·(
 rw[List.mem_singleton] at hc;subst hc;exact jrz k n hk hn)
 ·(
 rw[List.mem_singleton] at hy;subst hy;exact is_num v)
theorem cmpT_one(k n m:Int)(h:n<m):jw8 [⟨k,n⟩] [⟨k,m⟩] = -1:=by
 unfold jw8;have h1:V4.jzz [⟨k,n⟩] [⟨k,m⟩]=true:=by (
 simp only[V4.jzz,if_true];rw[if_neg (by omega)];exact decide_eq_true h)
 rw[if_pos h1]
theorem kn_j1:jxs (.mk 3 []) (.mk 0 0 [[97]] [] []) (.mk 0 0 [[98]] [] []) = .ok (.mk 0 0 [[97],[98]] [] []):=by
 refine jtd isT_3 (jjs.2 ⟨_,rfl,by simp,by simp,rfl⟩) (jjs.2 ⟨_,rfl,by simp,by simp,rfl⟩) ?_;rw[jzs,if_pos rfl];rfl
theorem no_num{s:List Str}:isV (.mk 3 []) (.mk 1 0 s [] [])=false:=by
 cases h:isV (.mk 3 []) (.mk 1 0 s [] []) with
 | false=>rfl
 | true=>(
 obtain⟨t,e,_⟩:=jjs.1 h;cases e)
theorem kn_j2(x:Va):jxs (.mk 3 []) x (.mk 1 0 [] [] []) = .error 14:=jo0 (.inr no_num)
theorem kn_j3:jxs (.mk 8 [.mk 1 []]) (verE 1 1 9) (verE 1 2 3) = .ok (verE 1 2 3):=by
 refine jtd isT_81 (is_ver 1 1 9 (by omega) (by omega)) (is_ver 1 2 3 (by omega) (by omega)) ?_;rw[jzs,if_neg (by decide)];unfold jwl verE;simp only[Va.c,Va.v,List.zip_cons_cons,List.zip_nil_left];rw[jvw _ _ _ _ (by rw[cmpT_one 1 1 2 (by omega)];decide),jgr,jmo];rw[List.filter_cons_of_neg (by decide),List.filter_cons_of_pos (by decide),List.filter_nil];unfold jw0;rw[if_neg (by simp)];simp only[jxf];rw[show (Va.zero:Va)=numE 0 from rfl,jhx];rfl
theorem kn_j4:jf0 (.mk 3 []) [] = .ok .zero:=by
 unfold jf0;rw[if_pos isT_3,V4.jx8 (by simp[Tr.k])];rfl
theorem jby{k:Int}(h:k≠5):NoP (.mk k []) := .mk _ _ h (fun _ h=>by cases h)
theorem noP_one{k:Int}{a:Tr}(h:k≠5)(ha:NoP a):NoP (.mk k [a]) := .mk _ _ h (fun x hx=>by rw[List.mem_singleton.1 hx];exact ha)
end J5
end Go.Proofs.YtobggoephhjofaaGreatDoor
