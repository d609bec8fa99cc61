/- A part. No condition. -/
import Derived.Test.YtobggoephhjofaaGreatDoorMj15
import Derived.Shelf.Small.Strs
import Derived.Shelf.Small.Wraps
import Derived.Ground.Names2Prog
import Derived.Shelf.Slices.Clone
import Derived.Test.YtobggoephhjofaaGreatDoorProg
set_option maxRecDepth 100000
set_option maxHeartbeats 16000000
namespace Go.Proofs.YtobggoephhjofaaGreatDoor
namespace V4
open Go.RowKit Go.Shelf
open C3 (Tk isC jzj)
open S2 (Sc isT jzf)
attribute [local go_sem] Oper.semAt_some
end V4
namespace V4
open Go.RowKit Go.Shelf
open C3 (Tk isC jzj jqo)
open S2 (Sc isT jzf)
theorem jrf:∀ (s:Sc) (n:Nat),n<=16->isT n s.er=true->∀ (w:World),s.In w.heap.size w->Calls Tryz.prog 57 #[s.val] w (jc3 w (jqh s.er)):=by
 intro s;induction s using S2.Sc.ind with
 | h k A c l ih=>(
 intro n hn hp w hin;obtain⟨w1,hw1⟩:=exq (((w.alloc (.cells #[.int .i64 k,.slice A l.length c] 24)).alloc (.cells #[.int .u64 0,.int .u64 0,.slice none 0 0,.slice none 0 0,.slice none 0 0] 30)));have HW1:=Lh hw1;have HB1:Hid (Below w.heap.size w w1):=by rw[<- hw1];exact jzj (jzf _ _)
 have HI0:=Lh hin;have HI1:=Lh (hin.later HB1.out);have IH:=Lh ih;have HP:=Lh hp;clear hin ih hp hw1;simp only[S2.jzh];have a0:w1.cell? ⟨w.heap.size,0,none⟩=some (.int .i64 k):=by rw[<- HW1.out];go_simp
 have a1:w1.cell? ⟨w.heap.size,1,none⟩=some (.slice A l.length c):=by rw[<- HW1.out];go_simp
 have b0:w1.cell? ⟨w.heap.size+1,0,none⟩=some (.int .u64 0):=by rw[<- HW1.out];go_simp
 have b1:w1.cell? ⟨w.heap.size+1,1,none⟩=some (.int .u64 0):=by rw[<- HW1.out];go_simp
 have b2:w1.cell? ⟨w.heap.size+1,2,none⟩=some (.slice none 0 0):=by rw[<- HW1.out];go_simp
 have b3:w1.cell? ⟨w.heap.size+1,3,none⟩=some (.slice none 0 0):=by rw[<- HW1.out];go_simp
 have b4:w1.cell? ⟨w.heap.size+1,4,none⟩=some (.slice none 0 0):=by rw[<- HW1.out];go_simp
 have f0:w1.frozen? ⟨w.heap.size+1,0,none⟩=false:=by rw[<- HW1.out];go_simp
 have f1:w1.frozen? ⟨w.heap.size+1,1,none⟩=false:=by rw[<- HW1.out];go_simp
 have f2:w1.frozen? ⟨w.heap.size+1,2,none⟩=false:=by rw[<- HW1.out];go_simp
 have f3:w1.frozen? ⟨w.heap.size+1,3,none⟩=false:=by rw[<- HW1.out];go_simp
 have f4:w1.frozen? ⟨w.heap.size+1,4,none⟩=false:=by rw[<- HW1.out];go_simp
 have hsz:w.heap.size+1<w1.heap.size:=by rw[<- HW1.out];simp
 by_cases hc:k=5
 ·(
 subst hc;have hl2:l.length=2:=by (
 have:=jg1 (n:=n) (k:=5) (l:=l.map Sc.er) (by rw[<- S2.jzt 5 A c];exact HP.out);simp[S2.arI] at this
 omega)
 obtain⟨x,y,rfl⟩:=jxk hl2;obtain⟨-,-,-,hall⟩:=HI1.out.out;obtain⟨hl0,-,-,-⟩:=HI0.out.out;have hll:S2.jwq w.heap.size w1 A [x,y]:=hl0.below HB1.out;obtain⟨b,off,rfl,hb,hcl⟩:=hll.get (k:=0) (by simp);have hbn:b≠w.heap.size+1:=by omega
 have hbn':w.heap.size+1≠b:=by omega
 replace hb:b<w1.heap.size:=by omega
 obtain⟨c0,c1⟩:=hcl 0 x rfl;obtain⟨c2,c3⟩:=hcl 1 y rfl;have HX:=Lh (hall x (by simp));have HY:=Lh (hall y (by simp));obtain⟨n',rfl⟩:∃ n',n=n'+1:=by (
 cases n with
 | zero=>have:=HP.out;simp[isT] at this
 | succ n'=>exact⟨n',rfl⟩)
 have hsub:=HP.out;rw[S2.jzt] at hsub;have IHX:=Lh (IH.out x (by simp) n' (by omega) (jj8 hsub x.er (by simp)));have IHY:=Lh (IH.out y (by simp) n' (by omega) (jj8 hsub y.er (by simp)));have HT:Hid (jqh (Sc.mk 5 (some ⟨b,off,none⟩) c [x,y]).er = .mk 0 0 [] [] [jqh x.er,jqh y.er]):=by (
 show jqh _=_
 have:=jkj HP.out hn;rw[S2.jzt] at this ⊢;exact jv5 this)
 rw[HT.out];clear hll hl0 hall hcl IH hl2 HP HI0 HI1 hsub;obtain⟨xk,xA,xc,xl⟩:=x;obtain⟨yk,yA,yc,yl⟩:=y;simp only[S2.Sc.v1,S2.Sc.k,Nat.zero_mul,Nat.add_zero,Nat.one_mul] at c0 c1 c2 c3;simp only[S2.jzh] at IHX IHY;replace HX:=Lh (HX.out.later (jqo w1));replace HY:=Lh (HY.out.later (jqo w1));replace HB1:Hid (Below w.heap.size w w1.drew):=HB1.out.drew;simp only[List.length_cons,List.length_nil,Nat.zero_add,Nat.reduceAdd] at a1;have hs0:w.heap.size<w1.heap.size:=by omega
 have hsn:=Nat.ne_of_lt hsz;go_enter Tryz.func57,Tryz.ntmps57;go_wp2_with fail;simp only[List.length_cons,List.length_nil,Nat.zero_add,Nat.reduceAdd] at HW1;rw[HW1.out];clear HW1;go_region_held3 (fun w'=>w'.cell? ⟨w.heap.size,1,none⟩=some (.slice (some ⟨b,off,none⟩) 2 c)/\w'.cell? ⟨b,off,none⟩=some (.int .i64 xk)/\w'.cell? ⟨b,off+1,none⟩=some (.slice xA xl.length xc)/\w'.cell? ⟨b,off+2,none⟩=some (.int .i64 yk)/\w'.cell? ⟨b,off+2+1,none⟩=some (.slice yA yl.length yc))
   (first
     | (with_reducible exact⟨a1,c0,c1,c2,c3⟩)
     | (refine⟨?_,?_,?_,?_,?_⟩ <;> go_simp))
   (first
     | (go_at_call 57;refine (IHX.out _ HX.out).mono ?_;rintro e w2 ⟨⟨pn,pm,pK,pL,pM,pN,pO,pP,pQ,pR,pS⟩,rfl,hpe,hpi,hb2⟩;(simp only[jzh];have HPE:=Lh hpe;have HPI:Hid ((Vl.mk pn pm pK pL pM pN pO pP pQ pR pS).Inp (fun b=>w.heap.size+2<=b/\b<w2.heap.size) w2):=hpi.mono (fun b hP=>⟨leT hsz hP.1,hP.2⟩);replace HY:=Lh (HY.out.later hb2);clear hpe hpi HX IHX;replace a1:=(hb2.cell (p:=⟨w.heap.size,1,none⟩) hs0).trans a1;replace c0:=(hb2.cell (p:=⟨b,off,none⟩) hb).trans c0;replace c1:=(hb2.cell (p:=⟨b,off+1,none⟩) hb).trans c1;replace c2:=(hb2.cell (p:=⟨b,off+2,none⟩) hb).trans c2;replace c3:=(hb2.cell (p:=⟨b,off+2+1,none⟩) hb).trans c3;replace b0:=(hb2.cell (p:=⟨w.heap.size+1,0,none⟩) hsz).trans b0;replace b1:=(hb2.cell (p:=⟨w.heap.size+1,1,none⟩) hsz).trans b1;replace b2:=(hb2.cell (p:=⟨w.heap.size+1,2,none⟩) hsz).trans b2;replace b3:=(hb2.cell (p:=⟨w.heap.size+1,3,none⟩) hsz).trans b3;replace b4:=(hb2.cell (p:=⟨w.heap.size+1,4,none⟩) hsz).trans b4;replace f0:=(hb2.frozen (p:=⟨w.heap.size+1,0,none⟩) hsz).trans f0;replace f1:=(hb2.frozen (p:=⟨w.heap.size+1,1,none⟩) hsz).trans f1;replace f2:=(hb2.frozen (p:=⟨w.heap.size+1,2,none⟩) hsz).trans f2;replace f3:=(hb2.frozen (p:=⟨w.heap.size+1,3,none⟩) hsz).trans f3;replace f4:=(hb2.frozen (p:=⟨w.heap.size+1,4,none⟩) hsz).trans f4;replace hb:b<w2.heap.size:=ltl hb hb2.size;replace hs0:w.heap.size<w2.heap.size:=ltl hs0 hb2.size;replace hsz:w.heap.size+1<w2.heap.size:=ltl hsz hb2.size;replace hsn:=Nat.ne_of_lt hsz;replace HB1:Hid (Below w.heap.size w w2):=HB1.out.trans (hb2.mono HB1.out.size);clear hb2))
     | (go_at_call 57;refine (IHY.out _ HY.out).mono ?_;rintro e w3 ⟨⟨qn,qm,qK,qL,qM,qN,qO,qP,qQ,qS,qU⟩,rfl,hqe,hqi,hb3⟩;(simp only[jzh];have HQE:=Lh hqe;have HQI:Hid ((Vl.mk qn qm qK qL qM qN qO qP qQ qS qU).Inp (fun b=>w.heap.size+2<=b/\b<w3.heap.size) w3):=hqi.mono (fun b hP=>⟨leT hsz hP.1,hP.2⟩);replace HPI:Hid ((Vl.mk pn pm pK pL pM pN pO pP pQ pR pS).Inp (fun b=>w.heap.size+2<=b/\b<w3.heap.size) w3):=(HPI.out.keep fun b hP=>hb3.block b hP.2).mono (fun b hP=>⟨hP.1,ltl hP.2 hb3.size⟩);clear hqe hqi;replace a1:=(hb3.cell (p:=⟨w.heap.size,1,none⟩) hs0).trans a1;replace c0:=(hb3.cell (p:=⟨b,off,none⟩) hb).trans c0;replace c1:=(hb3.cell (p:=⟨b,off+1,none⟩) hb).trans c1;replace c2:=(hb3.cell (p:=⟨b,off+2,none⟩) hb).trans c2;replace c3:=(hb3.cell (p:=⟨b,off+2+1,none⟩) hb).trans c3;replace b0:=(hb3.cell (p:=⟨w.heap.size+1,0,none⟩) hsz).trans b0;replace b1:=(hb3.cell (p:=⟨w.heap.size+1,1,none⟩) hsz).trans b1;replace b2:=(hb3.cell (p:=⟨w.heap.size+1,2,none⟩) hsz).trans b2;replace b3:=(hb3.cell (p:=⟨w.heap.size+1,3,none⟩) hsz).trans b3;replace b4:=(hb3.cell (p:=⟨w.heap.size+1,4,none⟩) hsz).trans b4;replace f0:=(hb3.frozen (p:=⟨w.heap.size+1,0,none⟩) hsz).trans f0;replace f1:=(hb3.frozen (p:=⟨w.heap.size+1,1,none⟩) hsz).trans f1;replace f2:=(hb3.frozen (p:=⟨w.heap.size+1,2,none⟩) hsz).trans f2;replace f3:=(hb3.frozen (p:=⟨w.heap.size+1,3,none⟩) hsz).trans f3;replace f4:=(hb3.frozen (p:=⟨w.heap.size+1,4,none⟩) hsz).trans f4;replace hb:b<w3.heap.size:=ltl hb hb3.size;replace hs0:w.heap.size<w3.heap.size:=ltl hs0 hb3.size;replace hsz:w.heap.size+1<w3.heap.size:=ltl hsz hb3.size;replace hsn:=Nat.ne_of_lt hsz;replace HB1:Hid (Below w.heap.size w w3):=HB1.out.trans (hb3.mono HB1.out.size);clear hb3)))
 go_wp2_with fail;refine bodyPost_ret (jzq rfl _ _ (w.heap.size+1) (.int .u64 0) (.int .u64 0) (.slice none 0 0) (.slice none 0 0) (.slice (some ⟨w3.heap.size,0,none⟩) 2 2) rfl (by go_simp) (by go_simp) (by go_simp) (by go_simp) (by go_simp)) rfl ?_;rw[<- HPE.out,<- HQE.out];exact jfz HPI.out HQI.out hsz (by simp) (fun b hbb=>by
   rw[Below.heap_setCell _ _ _ _ (by show b≠w.heap.size+1;omega),Below.heap_setCell _ _ _ _ (by show b≠w.heap.size+1;omega),Below.heap_setCell _ _ _ _ (by show b≠w.heap.size+1;omega),Below.heap_setCell _ _ _ _ (by show b≠w.heap.size+1;omega),Below.heap_setCell _ _ _ _ (by show b≠w.heap.size+1;omega)])
   (((((HB1.out.setCell (by simp) _).setCell (by simp) _).setCell (by simp) _).setCell (by simp) _).setCell (by simp) _))
 ·(
 have HT:Hid (jqh (Sc.mk k A c l).er = .zero):=jx8 (by rw[S2.er_k];exact fun h=>hc h.2);rw[HT.out];have h5':(k == 5)=false:=by simp[hc]
 have h5'':(k != 5)=true:=by simp[hc]
 have HB2:Hid (Below w.heap.size w ((w.alloc (.cells #[.int .i64 k,.slice A l.length c] 24)).alloc (.cells #[.int .u64 0,.int .u64 0,.slice none 0 0,.slice none 0 0,.slice none 0 0] 30))):=jzj (jzf _ _);clear HW1 a0 a1 b0 b1 b2 b3 b4 f0 f1 f2 f3 f4 hsz hc IH HP HI0 HI1 HB1;go_enter Tryz.func57,Tryz.ntmps57;go_wp2_with fail;refine bodyPost_ret (jzq rfl _ _ (w.heap.size+1) (.int .u64 0) (.int .u64 0) (.slice none 0 0) (.slice none 0 0) (.slice none 0 0) rfl (by go_simp) (by go_simp) (by go_simp) (by go_simp) (by go_simp)) rfl ?_;exact⟨.mk 0 0 none 0 [] none 0 [] none 0 [],rfl,rfl,jq7 _ _,HB2.out⟩))
theorem jrk(s:Sc)(w:World)(hin:s.In w.heap.size w):Calls Tryz.prog 25 #[s.val] w (jc3 w (jqh s.er)):=by
 obtain⟨k,A,c,l⟩:=s;obtain⟨w1,hw1⟩:=exq (((w.alloc (.cells #[.int .i64 k,.slice A l.length c] 24)).alloc (.cells #[.int .u64 0,.int .u64 0,.slice none 0 0,.slice none 0 0,.slice none 0 0] 30)));have HW1:=Lh hw1;have HB1:Hid (Below w.heap.size w w1):=by rw[<- hw1];exact jzj (jzf _ _)
 have HI1:=Lh (hin.later HB1.out);obtain⟨q,hq⟩:=exq (isT 16 (Sc.mk k A c l).er);have HQ:=Lh hq;have HS:=Lh (S2.jv9 (Sc.mk k A c l) w1 HI1.out);rw[hq] at HS;clear hin hw1 hq;simp only[S2.jzh] at HS ⊢;have a0:w1.cell? ⟨w.heap.size,0,none⟩=some (.int .i64 k):=by rw[<- HW1.out];go_simp
 have a1:w1.cell? ⟨w.heap.size,1,none⟩=some (.slice A l.length c):=by rw[<- HW1.out];go_simp
 have b0:w1.cell? ⟨w.heap.size+1,0,none⟩=some (.int .u64 0):=by rw[<- HW1.out];go_simp
 have b1:w1.cell? ⟨w.heap.size+1,1,none⟩=some (.int .u64 0):=by rw[<- HW1.out];go_simp
 have b2:w1.cell? ⟨w.heap.size+1,2,none⟩=some (.slice none 0 0):=by rw[<- HW1.out];go_simp
 have b3:w1.cell? ⟨w.heap.size+1,3,none⟩=some (.slice none 0 0):=by rw[<- HW1.out];go_simp
 have b4:w1.cell? ⟨w.heap.size+1,4,none⟩=some (.slice none 0 0):=by rw[<- HW1.out];go_simp
 have f0:w1.frozen? ⟨w.heap.size+1,0,none⟩=false:=by rw[<- HW1.out];go_simp
 have f1:w1.frozen? ⟨w.heap.size+1,1,none⟩=false:=by rw[<- HW1.out];go_simp
 have f2:w1.frozen? ⟨w.heap.size+1,2,none⟩=false:=by rw[<- HW1.out];go_simp
 have f3:w1.frozen? ⟨w.heap.size+1,3,none⟩=false:=by rw[<- HW1.out];go_simp
 have f4:w1.frozen? ⟨w.heap.size+1,4,none⟩=false:=by rw[<- HW1.out];go_simp
 have hsz:w.heap.size+1<w1.heap.size:=by rw[<- HW1.out];simp
 go_enter Tryz.func25,Tryz.ntmps25;go_wp2_with fail;rw[HW1.out];clear HW1;refine HS.out.mono ?_;clear HS;rintro e w2 ⟨rfl,hb2⟩;replace a0:=(hb2.cell (p:=⟨w.heap.size,0,none⟩) (by simp only;omega)).trans a0;replace a1:=(hb2.cell (p:=⟨w.heap.size,1,none⟩) (by simp only;omega)).trans a1;replace b0:=(hb2.cell (p:=⟨w.heap.size+1,0,none⟩) (by simp only;omega)).trans b0;replace f0:=(hb2.frozen (p:=⟨w.heap.size+1,0,none⟩) (by simp only;omega)).trans f0;replace b1:=(hb2.cell (p:=⟨w.heap.size+1,1,none⟩) (by simp only;omega)).trans b1;replace f1:=(hb2.frozen (p:=⟨w.heap.size+1,1,none⟩) (by simp only;omega)).trans f1;replace b2:=(hb2.cell (p:=⟨w.heap.size+1,2,none⟩) (by simp only;omega)).trans b2;replace f2:=(hb2.frozen (p:=⟨w.heap.size+1,2,none⟩) (by simp only;omega)).trans f2;replace b3:=(hb2.cell (p:=⟨w.heap.size+1,3,none⟩) (by simp only;omega)).trans b3;replace f3:=(hb2.frozen (p:=⟨w.heap.size+1,3,none⟩) (by simp only;omega)).trans f3;replace b4:=(hb2.cell (p:=⟨w.heap.size+1,4,none⟩) (by simp only;omega)).trans b4;replace f4:=(hb2.frozen (p:=⟨w.heap.size+1,4,none⟩) (by simp only;omega)).trans f4;replace hsz:=ltl hsz hb2.size;have HB2:Hid (Below w.heap.size w w2):=HB1.out.trans (hb2.mono HB1.out.size);have HI2:=Lh (HI1.out.later hb2);clear hb2 HB1 HI1;cases q with
 | false=>(
 have HT:Hid (jqh (Sc.mk k A c l).er = .zero):=jx8 (fun h=>by rw[HQ.out] at h;exact absurd h.1 (by simp));rw[HT.out];go_wp2_with fail;refine bodyPost_ret (jzq rfl _ _ (w.heap.size+1) (.int .u64 0) (.int .u64 0) (.slice none 0 0) (.slice none 0 0) (.slice none 0 0) rfl (by go_simp) (by go_simp) (by go_simp) (by go_simp) (by go_simp)) rfl ?_;exact⟨.mk 0 0 none 0 [] none 0 [] none 0 [],rfl,by rw[HT.out];rfl,jq7 _ _,((((HB2.out.setCell (by simp) _).setCell (by simp) _).setCell (by simp) _).setCell (by simp) _).setCell (by simp) _⟩)
 | true=>(
 have HBT:=Lh (jrf (Sc.mk k A c l) 16 (Nat.le_refl _) HQ.out w2 HI2.out);simp only[S2.jzh] at HBT;go_wp2_with fail;refine HBT.out.mono ?_;clear HBT;rintro e w3 ⟨⟨pn,pm,pK,pL,pM,pN,pO,pP,pQ,pR,pS⟩,rfl,hpe,hpi,hb2⟩;simp only[jzh];have HPI:Hid ((Vl.mk pn pm pK pL pM pN pO pP pQ pR pS).Inp (fun b=>w.heap.size+2<=b/\b<w3.heap.size) w3):=hpi.mono fun b hb=>⟨by have:=hb.1;omega,hb.2⟩
 have HPE:=Lh hpe;replace a0:=(hb2.cell (p:=⟨w.heap.size,0,none⟩) (by simp only;omega)).trans a0;replace a1:=(hb2.cell (p:=⟨w.heap.size,1,none⟩) (by simp only;omega)).trans a1;replace b0:=(hb2.cell (p:=⟨w.heap.size+1,0,none⟩) (by simp only;omega)).trans b0;replace f0:=(hb2.frozen (p:=⟨w.heap.size+1,0,none⟩) (by simp only;omega)).trans f0;replace b1:=(hb2.cell (p:=⟨w.heap.size+1,1,none⟩) (by simp only;omega)).trans b1;replace f1:=(hb2.frozen (p:=⟨w.heap.size+1,1,none⟩) (by simp only;omega)).trans f1;replace b2:=(hb2.cell (p:=⟨w.heap.size+1,2,none⟩) (by simp only;omega)).trans b2;replace f2:=(hb2.frozen (p:=⟨w.heap.size+1,2,none⟩) (by simp only;omega)).trans f2;replace b3:=(hb2.cell (p:=⟨w.heap.size+1,3,none⟩) (by simp only;omega)).trans b3;replace f3:=(hb2.frozen (p:=⟨w.heap.size+1,3,none⟩) (by simp only;omega)).trans f3;replace b4:=(hb2.cell (p:=⟨w.heap.size+1,4,none⟩) (by simp only;omega)).trans b4;replace f4:=(hb2.frozen (p:=⟨w.heap.size+1,4,none⟩) (by simp only;omega)).trans f4;replace hsz:=ltl hsz hb2.size;have HB3:Hid (Below w.heap.size w w3):=HB2.out.trans (hb2.mono HB2.out.size);clear hb2 HB2 HI2 hpi hpe;go_wp2_with fail;refine bodyPost_ret (jzq rfl _ _ (w.heap.size+1) (.int .u64 pn) (.int .u64 pm) (.slice pK pM.length pL) (.slice pN pP.length pO) (.slice pQ pS.length pR) rfl (by go_simp) (by go_simp) (by go_simp) (by go_simp) (by go_simp)) rfl ?_;refine⟨Vl.mk pn pm pK pL pM pN pO pP pQ pR pS,rfl,HPE.out,?_,((((HB3.out.setCell (by simp) _).setCell (by simp) _).setCell (by simp) _).setCell (by simp) _).setCell (by simp) _⟩;refine (HPI.out.keep fun b hb=>?_).mono fun b hb=>⟨by omega,by simpa using hb.2⟩
 rw[Below.heap_setCell _ _ _ _ (by show b≠w.heap.size+1;omega),Below.heap_setCell _ _ _ _ (by show b≠w.heap.size+1;omega),Below.heap_setCell _ _ _ _ (by show b≠w.heap.size+1;omega),Below.heap_setCell _ _ _ _ (by show b≠w.heap.size+1;omega),Below.heap_setCell _ _ _ _ (by show b≠w.heap.size+1;omega)])
open C3 (Tk isC jzj)
open S2 (Sc Tr isT jzf)
def Bxd(W:World)(b:Nat)(cs:Array Value):Prop:=b<W.heap.size/\∀ i v,cs[i]?=some v->W.cell? ⟨b,i,none⟩=some v
theorem Bxd.later{W W':World}{b:Nat}{cs:Array Value}(h:Bxd W b cs)(hb:Below W.heap.size W W'):Bxd W' b cs:=⟨ltl h.1 hb.size,fun i v hv=>(hb.cell (p:=⟨b,i,none⟩) h.1).trans (h.2 i v hv)⟩
theorem Bxd.new{W:World}{cs:Array Value}{t:TypeId}:Bxd (W.alloc (.cells cs t)) W.heap.size cs:=⟨by simp,fun i v h=>jz0 i v h⟩
theorem Bxd.al{W:World}{b:Nat}{cs:Array Value}(h:Bxd W b cs)(o:Obj):Bxd (W.alloc o) b cs:=h.later (jzf W o)
def jk1(k:Int):Sc := .mk k none 0 []
def jf8(n:Int):Vl := .mk n 0 none 0 [] none 0 [] none 0 []
theorem jwd(k:Int)(P:Nat->Prop)(W:World):(jk1 k).Inp P W := .mk _ _ _ _ (.inl rfl) (by simp) (by simp) (by simp) (by simp)
theorem jbs(n:Int)(hn:0<=n/\n<=18446744073709551615)(P:Nat->Prop)(W:World):(jf8 n).Inp P W :=
  .mk _ _ _ _ _ _ _ _ _ _ _ hn (by omega) .nil (by simp[maxLen]) (by simp) .nil (by simp[maxLen]) (by simp) .nil (by simp[maxLen]) (by simp)
def jye(n b:Nat)(ss:List Str):Vl := .mk n 0 (some ⟨b,0,none⟩) ss.length ss none 0 [] none 0 []
theorem jyd{W:World}{b:Nat}{ss:List Str}{cs:Array Value}(n:Nat)(hn:n<=1000)(h:Bxd W b cs)(hcs:cs=(jxu ss).toArray)(hl:ss.length<=1000)(ht:∀ s∈ss,s.length<=1000):(jye n b ss).In W:=by
 refine .mk _ _ _ _ _ _ _ _ _ _ _ (by omega) (by omega) (.inr ⟨b,0,rfl,h.1,fun i u hu=>?_⟩) (by simp[maxLen];omega) (fun s hs=>by have:=ht s hs;unfold maxLen;omega) .nil (by simp[maxLen]) (by simp) .nil (by simp[maxLen]) (by simp);rw[Nat.zero_add];exact h.2 i u (by rw[hcs];simpa using hu)
def scRow(k:Int)(b:Nat)(l:List Sc):Sc := .mk k (some ⟨b,0,none⟩) l.length l
theorem jlq{W:World}{b:Nat}{l:List Sc}{cs:Array Value}(k:Int)(h:Bxd W b cs)(hcs:cs=(l.flatMap fun s=>[.int .i64 s.k,s.v1]).toArray)(hl:l.length<=1000)(hin:∀ s∈l,s.In W.heap.size W):(scRow k b l).In W.heap.size W:=by
 refine .mk _ _ _ _ (.inr ⟨b,0,rfl,h.1,fun i s hs=>?_⟩) (Nat.le_refl _) (by omega) (by omega) hin;have hc:∀ (l:List Sc) (i:Nat) (s:Sc),l[i]?=some s->(l.flatMap fun s=>[Value.int .i64 s.k,s.v1])[i*2]?=some (.int .i64 s.k)/\(l.flatMap fun s=>[Value.int .i64 s.k,s.v1])[i*2+1]?=some s.v1:=fun l=>by (
 induction l with
 | nil=>intro i s h;simp at h
 | cons y l ih=>(
 intro i s h;cases i with
 | zero=>simp at h;subst h;simp
 | succ i=>(
 have:=ih i s (by simpa using h);rw[show (i+1)*2=i*2+1+1 by omega];simpa using this)))
 obtain⟨h0,h1⟩:=hc l i s hs;rw[Nat.zero_add];exact⟨h.2 _ _ (by rw[hcs];simpa using h0),h.2 _ _ (by rw[hcs];simpa using h1)⟩
end V4
namespace J5
open Go.RowKit Go.Shelf
open C3 (Tk In jzj jzf jzv)
open S2 (Sc Tr isT)
open V4 (Va Vl Ck isV jzh jzt)
def RetX(P:Nat->Prop)(w:World)(o:Va)(e:Ending)(w':World):Prop:=∃ z:Vl,e = .returned z.val/\z.er=o/\z.Inp (fun b=>(P b\/w.heap.size<=b)/\b<w'.heap.size) w'/\Below w.heap.size w w'
theorem jjd(P:Nat->Prop)(k:Ck)(w:World)(h:k.Inp P w)(hP:∀ b,P b->b<w.heap.size):Calls Tryz.prog 51 #[k.v] w (RetX P w (if k.l=[] then .zero else .mk 0 0 [] [k.l] [])):=by
 obtain⟨A,c,l⟩:=k;unfold Ck.v;simp only;by_cases h0:l=[]
 ·(
 subst h0;rw[if_pos rfl];simp only[List.length_nil];go_enter Tryz.func51,Tryz.ntmps51;go_wp2_with fail;refine bodyPost_ret (V4.jzq rfl _ _ w.heap.size (.int .u64 0) (.int .u64 0) (.slice none 0 0) (.slice none 0 0) (.slice none 0 0) rfl (by go_simp) (by go_simp) (by go_simp) (by go_simp) (by go_simp)) rfl ?_;exact⟨.mk 0 0 none 0 [] none 0 [] none 0 [],rfl,by rw[jzt];rfl,V4.jq7 _ _,jzj (Below.refl _ _)⟩)
 ·(
 rw[if_neg h0];have hg:(((l.length:Nat):Int) == 0)=false:=beq_eq_false_iff_ne.2 (by have:=List.length_pos_iff.2 h0;omega);have HI:=Lh h;clear h h0;go_enter Tryz.func51,Tryz.ntmps51;go_wp2_with fail;refine bodyPost_ret (V4.jzq rfl _ _ w.heap.size (.int .u64 0) (.int .u64 0) (.slice none 0 0) (.slice (some ⟨w.heap.size+1,0,none⟩) 1 1) (.slice none 0 0) rfl (by go_simp) (by go_simp) (by go_simp) (by go_simp) (by go_simp)) rfl ?_;have hX:=V4.Bxd.new (W:=w.alloc (.cells #[.int .u64 0,.int .u64 0,.slice none 0 0,.slice (some ⟨w.heap.size+1,0,none⟩) 1 1,.slice none 0 0] 30)) (cs:=#[.slice A l.length c]) (t:=54);rw[World.size_alloc] at hX;have hb:Below w.heap.size w ((w.alloc (.cells #[.int .u64 0,.int .u64 0,.slice none 0 0,.slice (some ⟨w.heap.size+1,0,none⟩) 1 1,.slice none 0 0] 30)).alloc (.cells #[.slice A l.length c] 54)):=jzj (jzj (Below.refl _ _));refine⟨.mk 0 0 none 0 [] (some ⟨w.heap.size+1,0,none⟩) 1 [⟨A,c,l⟩] none 0 [],rfl,by rw[jzt];rfl,?_,hb⟩;refine .mk _ _ _ _ _ _ _ _ _ _ _ (by omega) (by omega) .nil (by simp[maxLen]) (by simp) (.inr ⟨w.heap.size+1,0,rfl,⟨.inr (Nat.le_succ _),hX.1⟩,fun i u hu=>?_⟩) (by simp[maxLen]) (fun k hk2=>?_) .nil (by simp[maxLen]) (by simp)
 ·(
 rw[Nat.zero_add];exact hX.2 i u (by simpa[V4.jzm,Ck.v] using hu))
 ·(
 rw[List.mem_singleton.1 hk2];exact (HI.out.keep fun b hlt=>hb.block b (hP b hlt)).mono fun b hlt=>⟨.inl hlt,ltl (hP b hlt) hb.size⟩))
end J5
namespace J5
open Go.RowKit Go.Shelf
open V4 (KF Ab jql)
structure KP (N B:Nat) (X:Nat->Prop) (W W':World):Prop where
  size:W.heap.size<=W'.heap.size
  same:∀ (b:Nat) (o:Obj),W.heap[b]?=some o->(b<N\/(B<=b/\¬ X b))->W'.heap[b]?=some o
structure KJ (B:Nat) (X:Nat->Prop) (W W':World):Prop where
  bel:Below B W W'
  same:∀ (b:Nat) (o:Obj),W.heap[b]?=some o->X b->W'.heap[b]?=some o
def Grow(n:Nat)(X X':Nat->Prop):Prop:=∀ b,X' b->X b\/n<=b
section
variable {N B:Nat} {F:Nat->Prop} {W W' X Y Z:World}
theorem KP.trans(h:KP N B F X Y)(k:KP N B F Y Z):KP N B F X Z:=⟨leT h.size k.size,fun b o h1 h2=>k.same b o (h.same b o h1 h2) h2⟩
theorem KP.mono{B':Nat}(h:KP N B F W W')(hB:B<=B'):KP N B' F W W':=⟨h.size,fun b o h1 h2=>h.same b o h1 (h2.imp id fun h=>⟨leT hB h.1,h.2⟩)⟩
theorem KP.of_below(h:Below W.heap.size W W'):KP N B F W W':=⟨h.size,fun b _ h1 _=>(h.block b (Array.getElem?_eq_some_iff.1 h1).1).trans h1⟩
theorem KP.put{l:Nat}(h1:N<=l)(h2:l<B)(o':Obj):KP N B F W (W.putObj l o'):=⟨by simp,fun b o2 h3 h4=>by rw[World.putObj_heap_other (by rcases h4 with h | ⟨h,_⟩ <;> omega)];exact h3⟩
theorem KP.low(h:KP N B F W W'){b:Nat}(hb:b<N)(hW:b<W.heap.size):W'.heap[b]?=W.heap[b]?:=by
 rw[Array.getElem?_eq_getElem hW];exact h.same b _ (Array.getElem?_eq_getElem hW) (.inl hb)
theorem KJ.trans(h:KJ B F X Y)(k:KJ B F Y Z):KJ B F X Z:=⟨h.bel.trans k.bel,fun b o h1 h2=>k.same b o (h.same b o h1 h2) h2⟩
theorem KJ.mono{B':Nat}(h:KJ B F W W')(hB:B'<=B):KJ B' F W W':=⟨h.bel.mono hB,h.same⟩
theorem KJ.of_below(h:Below W.heap.size W W')(hB:B<=W.heap.size):KJ B F W W':=⟨h.mono hB,fun b _ h1 _=>(h.block b (Array.getElem?_eq_some_iff.1 h1).1).trans h1⟩
theorem KJ.later(h:KJ B F X Y)(hb:Below Y.heap.size Y Z)(hB:B<=Y.heap.size):KJ B F X Z:=h.trans (KJ.of_below hb hB)
theorem KJ.put{l:Nat}(hl:¬ F l)(hB:B<=l)(o':Obj):KJ B F W (W.putObj l o') :=
  ⟨⟨rfl,rfl,rfl,by simp,fun k hk=>World.putObj_heap_other (by omega)⟩,fun b o2 h1 h2=>by
    have hne:b≠l:=fun e=>hl (by rw[<- e];exact h2)
    rw[World.putObj_heap_other hne];exact h1⟩
end
def AbJ(B:Nat)(J:Nat->(Nat->Prop)->World->Prop):Prop:=∀ k X W W',J k X W->KJ B X W W'->J k X W'
def jrn{α:Type}(P:Program)(g:Nat)(lb:Array Value)(encs:α->Array Value)(N:Nat)(zs:List α)(w:World):Prop :=
  ∀ (l:Nat) (J:Nat->(Nat->Prop)->World->Prop) (Jx:Nat->World->Prop) (W:World),Below w.heap.size w W->AbJ W.heap.size J->Ab W.heap.size Jx ->
    (∀ k X x W1,zs[k]?=some x->J k X W1->W.heap.size<=W1.heap.size->YieldAt Fence.wide 0 P l (encs x) W1 fun e W' =>
      (e = .returned (.bool true)/\∃ X',Grow W1.heap.size X X'/\J (k+1) X' W'/\KP N W.heap.size X W1 W')\/(e = .returned (.bool false)/\Jx k W'/\KF W.heap.size W1 W')) ->
    J 0 (fun _=>False) W ->
    Calls P g (#[.func (.yield l) #[] #[]]++lb) W fun e W'=>(∃ v,e = .returned v)/\((∃ X,J zs.length X W')\/∃ k,k<zs.length/\Jx k W')
theorem jrn.later{α:Type}{P:Program}{g:Nat}{lb:Array Value}{encs:α->Array Value}{N:Nat}{zs:List α}{w w':World}(h:jrn P g lb encs N zs w)(hb:Below w.heap.size w w'):jrn P g lb encs N zs w' :=
  fun l J Jx W hW=>h l J Jx W (hb.trans (hW.mono hb.size))
def postP(N B:Nat)(X:Nat->Prop)(I:Nat->(Nat->Prop)->World->Prop)(Ix:Code->Nat->World->Prop)(k:Nat)(W:World):Exit->Act->World->Prop
  | .normal,_,W'=>KP N B X W W'/\∃ X',Grow W.heap.size X X'/\I (k+1) X' W'
  | .ret,_,W'=>KF B W W'/\Ix .ret k W'
  | .exit id,_,W'=>KF B W W'/\Ix (.exit id) k W'
  | .goto t,_,W'=>KF B W W'/\Ix (.goto t) k W'
  | .panic _,_,_=>False
  | .outgrown,_,_=>False
theorem jgo{α:Type}{n:Nat}{P:Program}{g:Operand}{ps:Array Tmp}{assign body:Code}{Q:Exit->Act->World->Prop}{a:Act}{w:World}{gf:Nat}{lb:Array Value}(hg:a.eval g = .func (.func gf) #[] lb)(eg:Enters P gf){encs:α->Array Value}{N:Nat}(hN:N<=w.heap.size){zs:List α}(hseq:jrn P gf lb encs N zs w)(hps:∀ x,(encs x).size=ps.size)(I:Nat->(Nat->Prop)->World->Prop)(Ix:Code->Nat->World->Prop)(hI:AbJ w.heap.size I)(hIx:∀ c,Ab w.heap.size (Ix c))(h0:I 0 (fun _=>False) w)(Ax:α->Act->World->Prop)(hAx:∀ x a',OwnFrom w.heap.size (fun (_:Unit) W=>Ax x a' W))(hassign:∀ (l k:Nat) (x:α) (W:World) (K:Act->World->Prop),zs[k]?=some x->(∀ a' W',Below W.heap.size W W'->Ax x a' W'->K a' W')->assign.wpIn (Fence.wide.inRound l) 0 P (Exit.then K (fun _ _ _=>False)) { tmps:=(ps.zip (encs x)).foldl (fun t (p,v)=>t.setIfInBounds p v) a.tmps,defers:=[] } W)(hbody:∀ (l k:Nat) (X:Nat->Prop) (x:α) (a':Act) (W:World),w.heap.size<=W.heap.size->zs[k]?=some x->I k X W->Ax x a' W->body.wpIn (Fence.wide.inRound l) 0 P (postP N w.heap.size X I Ix k W) a' W)(hdone:∀ (E:Nat) (X:Nat->Prop) (W:World),w.heap.size<=E->¬ X E->I zs.length X W->W.heap[E]?=some (.deferred (some []))->Q .normal { a with defers:={ target := .collected E,args:=#[] } :: a.defers } W)(hstop:∀ (E:Nat) (c:Code) (k:Nat) (W:World),w.heap.size<=E->k<zs.length->Ix c k W->W.heap[E]?=some (.deferred (some []))->c.wpIn Fence.wide n P Q { a with defers:={ target := .collected E,args:=#[] } :: a.defers } W):(Code.rangeFunc g ps assign body).wpIn Fence.wide n P Q a w:=by
 refine wpIn_rangeFunc fun fn hfn=>?_
 show ∃ _ _ _ _ _ _ _ _,_
 obtain⟨R,hR⟩:∃ R:LoopState->Option Code->Obj,R=fun st pe => .loop { state:=st,pending:=pe,fn,tmps:=a.tmps,params:=ps,assign,body,defers:=w.heap.size }:=⟨_,rfl⟩
 have hRc:∀ st pe,(R st pe).isCells=false:=fun st pe=>by rw[hR];rfl
 obtain⟨V,hV⟩:=exq ((w.alloc (.deferred (some []))).alloc (R .ready none));have hsz:V.heap.size=w.heap.size+2:=by rw[<- hV];simp
 have hbV:Below w.heap.size w V:=by rw[<- hV];exact ((Below.refl _ w).alloc (Nat.le_refl _) _).alloc (by simp) _
 have hrec:V.heap[w.heap.size+1]?=some (R .ready none):=by rw[<- hV];have:=World.alloc_heap_new (w.alloc (.deferred (some []))) (R .ready none);rwa [World.size_alloc] at this
 have hdef:V.heap[w.heap.size]?=some (.deferred (some [])):=by rw[<- hV];exact (Below.heap_alloc _ _ _ (by simp)).trans (World.alloc_heap_new w _)
 -- a turn of the record leaves what is below
 have turn:∀ (F:Nat->Prop) (X:World) (o:Obj),¬ F (w.heap.size+1)->KJ w.heap.size F X (X.putObj (w.heap.size+1) o):=fun F X o h=>KJ.put h (by omega) o
 have turnB:∀ (X:World) (o:Obj),Below w.heap.size X (X.putObj (w.heap.size+1) o):=fun X o=>⟨rfl,rfl,rfl,by simp,fun k hk=>World.putObj_heap_other (by omega)⟩
 refine⟨w.heap.size+1,[{ target := .collected w.heap.size,args:=#[] }],V,{ target := .fn (.func gf) lb,args:=#[.func (.yield (w.heap.size+1)) #[] #[]] },V,gf,
   #[.func (.yield (w.heap.size+1)) #[] #[]]++lb,V,?_,?_,?_,?_,fun h=>absurd h (by simp[Fence.wide]),callsIn_wide.2 ?_⟩
 ·rw[<- hV,hR];exact run_enterLoop_outer _ _ _ _ _
 ·(
 simp only[resolve,hg];simp[go_sem])
 ·intro f' _;trivial
 ·(
 simp[invoke,go_sem]
 exact eg _ _)
 ·(
 refine (hseq (w.heap.size+1)
   (fun k F W=>I k F W/\W.heap[w.heap.size+1]?=some (R .ready none)/\W.heap[w.heap.size]?=some (.deferred (some []))/\¬ F (w.heap.size+1)/\¬ F w.heap.size)
   (fun k W=>∃ c,Ix c k W/\W.heap[w.heap.size+1]?=some (R .done (some c))/\W.heap[w.heap.size]?=some (.deferred (some [])))
   V hbV ?_ ?_ ?_ ⟨hI _ _ _ _ h0 (KJ.of_below hbV (Nat.le_refl _)),hrec,hdef,id,id⟩).mono ?_
 ·(
 rintro k F X Y ⟨h1,h2,h3,h4,h5⟩ hb;exact⟨hI _ _ _ _ h1 (hb.mono (by omega)),(hb.bel.block _ (by omega)).trans h2,(hb.bel.block _ (by omega)).trans h3,h4,h5⟩)
 ·(
 rintro k X Y ⟨c,h1,h2,h3⟩ hb;exact⟨c,hIx c _ _ _ h1 (hb.mono (by omega)),(hb.block _ (by omega)).trans h2,(hb.block _ (by omega)).trans h3⟩)
 ·(
 rintro k F x X hx ⟨hi,hl,hd,nF1,nF0⟩ hXs;have hy:=run_yield (P:=P) (args:=encs x) (l:=w.heap.size+1) (by rw[hR] at hl;exact hl) (hps x);refine⟨fn,_,assign,body,hy,roundIn_of_wpIn trivial (hassign _ k x X _ hx ?_)⟩;intro a' Y hbY hax;have hlY:Y.heap[w.heap.size+1]?=some (R .ready none):=(hbY.block _ (by omega)).trans hl;have hdY:Y.heap[w.heap.size]?=some (.deferred (some [])):=(hbY.block _ (by omega)).trans hd;have hltY:w.heap.size+1<Y.heap.size:=(Array.getElem?_eq_some_iff.1 hlY).1;have hbeg:(Instr.beginRound (w.heap.size+1)).run P Y = .ok () (Y.putObj (w.heap.size+1) (R .busy none)):=by (
 rw[hR] at hlY ⊢;exact run_beginRound hlY rfl)
 refine⟨_,hbeg,?_⟩;have hiZ:I k F (Y.putObj (w.heap.size+1) (R .busy none)):=hI _ _ _ _ hi ((KJ.of_below hbY (by omega)).trans (turn _ _ _ nF1));have hlZ:(Y.putObj (w.heap.size+1) (R .busy none)).heap[w.heap.size+1]?=some (R .busy none):=World.putObj_heap_same hltY;have hdZ:(Y.putObj (w.heap.size+1) (R .busy none)).heap[w.heap.size]?=some (.deferred (some [])):=(World.putObj_heap_other (by omega)).trans hdY;have hkZ:KP N V.heap.size F X (Y.putObj (w.heap.size+1) (R .busy none)):=(KP.of_below hbY).trans (KP.put (by omega) (by omega) _);have hkZf:KF V.heap.size X (Y.putObj (w.heap.size+1) (R .busy none)):=(KF.of_below hbY).trans (KF.put (by omega) _);have hfin:∀ (jump:Option Code) (Z:World),Z.heap[w.heap.size+1]?=some (R .busy none) ->
     (Instr.endRound (w.heap.size+1) jump).run P Z = .ok (.bool jump.isNone) (Z.putObj (w.heap.size+1) (R (if jump.isNone then .ready else .done) jump)):=fun jump Z hz=>by
   rw[hR] at hz ⊢
   exact run_endRound jump hz
 refine wpIn_mono (hbody _ k F x a' _ (by simp;omega) hx hiZ ((hAx x a').putObj (s:=()) _ hax (by omega) hlY (hRc _ _))) ?_;have leave:∀ (c:Code) (Z:World),KF w.heap.size (Y.putObj (w.heap.size+1) (R .busy none)) Z->Ix c k Z->∃ v w',(Instr.endRound (w.heap.size+1) (some c)).run P Z = .ok v w' /\
     ((Ending.returned v = .returned (.bool true)/\∃ F',Grow X.heap.size F F'/\(I (k+1) F' w'/\w'.heap[w.heap.size+1]?=some (R .ready none)/\w'.heap[w.heap.size]?=some (.deferred (some []))/\¬ F' (w.heap.size+1)/\¬ F' w.heap.size)/\KP N V.heap.size F X w') \/
       (Ending.returned v = .returned (.bool false)/\(∃ c,Ix c k w'/\w'.heap[w.heap.size+1]?=some (R .done (some c))/\w'.heap[w.heap.size]?=some (.deferred (some [])))/\KF V.heap.size X w')):=fun c Z hk hi=>by
   have h1:=hk.same _ _ (by omega) hlZ
   have h2:=hk.same _ _ (Nat.le_refl _) hdZ
   exact⟨_,_,hfin (some c) Z h1,.inr ⟨rfl,⟨c,hIx c _ _ _ hi (turnB _ _),World.putObj_heap_same (Array.getElem?_eq_some_iff.1 h1).1,(World.putObj_heap_other (by omega)).trans h2⟩,
     hkZf.trans ((hk.mono (by omega)).trans (KF.put (by omega) _))⟩⟩
 rintro e a3 Z hp;cases e with
 | normal=>(
 obtain⟨hk,F',hgr,hi3⟩:=hp;have hgr2:Grow X.heap.size F F':=fun b hb=>(hgr b hb).imp id fun h=>leT hbY.size (by simpa using h)
 have hlX:w.heap.size+1<X.heap.size:=by omega
 have nG1:¬ F' (w.heap.size+1):=fun h=>by rcases hgr2 _ h with h | h;exact nF1 h;omega
 have nG0:¬ F' w.heap.size:=fun h=>by rcases hgr2 _ h with h | h;exact nF0 h;omega
 have h1:=hk.same _ _ hlZ (.inr ⟨by omega,nF1⟩);have h2:=hk.same _ _ hdZ (.inr ⟨Nat.le_refl _,nF0⟩);exact⟨_,_,hfin none Z h1,.inl ⟨rfl,F',hgr2,⟨hI _ _ _ _ hi3 (turn _ _ _ nG1),World.putObj_heap_same (Array.getElem?_eq_some_iff.1 h1).1,(World.putObj_heap_other (by omega)).trans h2,nG1,nG0⟩,
   hkZ.trans ((hk.mono (by omega)).trans (KP.put (by omega) (by omega) _))⟩⟩)
 | ret=>exact leave .ret Z hp.1 hp.2
 | exit id=>exact leave (.exit id) Z hp.1 hp.2
 | goto t=>exact leave (.goto t) Z hp.1 hp.2
 | panic ch=>exact hp.elim
 | outgrown=>exact hp.elim)
 ·(
 rintro e X ⟨⟨v,rfl⟩,⟨F,hi,hl,hd,nF1,nF0⟩ | ⟨k,hk,c,hi,hl,hd⟩⟩
 ·(
 refine⟨none,_,by rw[hR] at hl;exact run_endLoop hl (by simp),?_⟩;exact hdone _ _ _ (Nat.le_refl _) nF0 (hI _ _ _ _ hi (turn _ _ _ nF1)) ((World.putObj_heap_other (by omega)).trans hd))
 ·(
 refine⟨some c,_,by rw[hR] at hl;exact run_endLoop hl (by simp),?_⟩;exact hstop _ c k _ (Nat.le_refl _) hk (hIx c _ _ _ hi (turnB _ _)) ((World.putObj_heap_other (by omega)).trans hd))))
end J5
end Go.Proofs.YtobggoephhjofaaGreatDoor
namespace Go.Proofs
open Go.Shelf
def Tryz.lays213_ren : Go.Shelf.Ren := ⟨fun | 213 => 121 | 265 => 153 | n => n, fun | 9 => 9 | 3 => 3 | n => n, fun | n => n⟩
theorem Tryz.lays213 : Go.Proofs.Lays.n213 Tryz.prog Tryz.lays213_ren := {
  mixed := by kernel_rfl
  f213 := Tryz.func121.trans (congrArg some (by kernel_rfl))
  f265 := Tryz.func153.trans (congrArg some (by kernel_rfl))
  t3 := Tryz.underlying3
  a3 := Tryz.isAgg3
  z3 := Tryz.sizeOf3
  v3 := Tryz.zeroValue3
  t9 := Tryz.underlying9
  a9 := Tryz.isAgg9
  z9 := Tryz.sizeOf9
  v9 := Tryz.zeroValue9 }
open Go.RowKit in
theorem Tryz.bytealg_CompareString (a b : ByteArray) (w : World) :
    Calls Tryz.prog 121 #[.string a, .string b] w fun e w' => e = .returned (.int .i64 (Lib.compareBytes a.data.toList b.data.toList)) ∧ w' = w := Any.bytealg_CompareString Tryz.lays213 a b w
def Tryz.lays106_ren : Go.Shelf.Ren := ⟨fun | 106 => 76 | 213 => 121 | 265 => 153 | n => n, fun | 9 => 9 | 3 => 3 | n => n, fun | n => n⟩
theorem Tryz.lays106 : Go.Proofs.Lays.n106 Tryz.prog Tryz.lays106_ren := {
  mixed := by kernel_rfl
  f106 := Tryz.func76.trans (congrArg some (by kernel_rfl))
  f213 := Tryz.func121.trans (congrArg some (by kernel_rfl))
  f265 := Tryz.func153.trans (congrArg some (by kernel_rfl))
  t3 := Tryz.underlying3
  a3 := Tryz.isAgg3
  z3 := Tryz.sizeOf3
  v3 := Tryz.zeroValue3
  t9 := Tryz.underlying9
  a9 := Tryz.isAgg9
  z9 := Tryz.sizeOf9
  v9 := Tryz.zeroValue9 }
open Go.RowKit in
theorem Tryz.strings_Compare (a b : ByteArray) (w : World) :
    Calls Tryz.prog 76 #[.string a, .string b] w fun e w' => e = .returned (.int .i64 (Lib.compareBytes a.data.toList b.data.toList)) ∧ w' = w := Any.strings_Compare Tryz.lays106 a b w
def Tryz.lays215_ren : Go.Shelf.Ren := ⟨fun | 215 => 168 | n => n, fun | 3 => 3 | 4 => 4 | n => n, fun | n => n⟩
theorem Tryz.lays215 : Go.Proofs.Lays.n215 Tryz.prog Tryz.lays215_ren := {
  mixed := by kernel_rfl
  f215 := Tryz.func168.trans (congrArg some (by kernel_rfl))
  t3 := Tryz.underlying3
  a3 := Tryz.isAgg3
  z3 := Tryz.sizeOf3
  v3 := Tryz.zeroValue3
  t4 := Tryz.underlying4
  a4 := Tryz.isAgg4
  z4 := Tryz.sizeOf4
  v4 := Tryz.zeroValue4 }
open Go.RowKit in
theorem Tryz.cmp_isNaN_int (x : Int) (w : World) :
    Calls Tryz.prog 168 #[.int .i64 x] w fun e w' => e = .returned (.bool false) ∧ w' = w := Any.cmp_isNaN_int Tryz.lays215 x w
def Tryz.lays122_ren : Go.Shelf.Ren := ⟨fun | 122 => 156 | 215 => 168 | n => n, fun | 3 => 3 | 4 => 4 | n => n, fun | n => n⟩
theorem Tryz.lays122 : Go.Proofs.Lays.n122 Tryz.prog Tryz.lays122_ren := {
  mixed := by kernel_rfl
  f122 := Tryz.func156.trans (congrArg some (by kernel_rfl))
  f215 := Tryz.func168.trans (congrArg some (by kernel_rfl))
  t3 := Tryz.underlying3
  a3 := Tryz.isAgg3
  z3 := Tryz.sizeOf3
  v3 := Tryz.zeroValue3
  t4 := Tryz.underlying4
  a4 := Tryz.isAgg4
  z4 := Tryz.sizeOf4
  v4 := Tryz.zeroValue4 }
open Go.RowKit in
theorem Tryz.cmp_Compare_int (x y : Int) (w : World) :
    Calls Tryz.prog 156 #[.int .i64 x, .int .i64 y] w fun e w' => e = .returned (.int .i64 (Lib.compareInt x y)) ∧ w' = w := Any.cmp_Compare_int Tryz.lays122 x y w
def Tryz.laysNm216_ren : Go.Shelf.Ren := ⟨fun | 16 => 80 | n => n, fun | 24 => 26 | 9 => 9 | 4 => 4 | n => n, fun | n => n⟩
theorem Tryz.laysNm216 : Go.Proofs.Lays2.n16 Tryz.prog Tryz.laysNm216_ren := {
  mixed := by kernel_rfl
  f16 := Tryz.func80.trans (congrArg some (by kernel_rfl))
  t4 := Tryz.underlying4
  a4 := Tryz.isAgg4
  z4 := Tryz.sizeOf4
  v4 := Tryz.zeroValue4
  t9 := Tryz.underlying9
  a9 := Tryz.isAgg9
  z9 := Tryz.sizeOf9
  v9 := Tryz.zeroValue9
  t24 := Tryz.underlying26
  a24 := Tryz.isAgg26
  z24 := Tryz.sizeOf26
  v24 := Tryz.zeroValue26
  i9 := by kernel_rfl }
open Go.RowKit Go.Lib in
theorem Tryz.slices_Clone_string (b off n c : Nat) (zs : List ByteArray) (w : World) (hz : n ≤ zs.length) (hbig : n * 16 ≤ 140737488355328) (hc : ∀ j, j < zs.length → w.cell? ⟨b, off + j, none⟩ = some (.string (zs.getD j ByteArray.empty))) :
    Calls Tryz.prog 80 #[.slice (some ⟨b, off, none⟩) n c] w fun e w' => ∃ v', e = .returned v' ∧ w'.ownsRow w.heap.size 9 1 v' n ((zs.take n).map (Value.string)) ∧ v' ≠ .slice none 0 0 ∧ Below w.heap.size w w' := Any.slices_Clone_string Tryz.laysNm216 b off n c zs w hz hbig hc
open Go.RowKit Go.Lib in
theorem Tryz.slices_Clone_string_nil (n c : Nat) (w : World) :
    Calls Tryz.prog 80 #[.slice none n c] w fun e w' => e = .returned (.slice none 0 0) ∧ w' = w := Any.slices_Clone_string_nil Tryz.laysNm216 n c w
open Go.RowKit Go.Lib in
theorem Tryz.slices_Clone_string_zero (a : Addr) (c : Nat) (w : World) :
    Calls Tryz.prog 80 #[.slice (some a) 0 c] w fun e w' => ∃ v', e = .returned v' ∧ w'.ownsRow w.heap.size 9 1 v' 0 [] ∧ v' ≠ .slice none 0 0 ∧ Below w.heap.size w w' := Any.slices_Clone_string_zero Tryz.laysNm216 a c w
end Go.Proofs
namespace Go.Proofs.YtobggoephhjofaaGreatDoor
end Go.Proofs.YtobggoephhjofaaGreatDoor
