/- A part. No condition. -/
import Derived.Test.YtobggoephhjofaaGreatDoorMj03
set_option maxRecDepth 100000
set_option maxHeartbeats 16000000
namespace Go.Proofs.YtobggoephhjofaaGreatDoor
namespace V4
open Go.RowKit
open C3 (Tk Asc isC ofC jxo Nok In jzj jzf jqo jrj)
open S2 (Tr Sc isT)
def jqh:Tr->Va
  | .mk k [a,b]=>if isT 16 (.mk k [a,b])=true/\k=5 then .mk 0 0 [] [] [jqh a,jqh b] else .zero
  | .mk _ _ => .zero
theorem jv5{a b:Tr}(h:isT 16 (.mk 5 [a,b])=true):jqh (.mk 5 [a,b]) = .mk 0 0 [] [] [jqh a,jqh b]:=by rw[jqh,if_pos ⟨h,rfl⟩]
theorem jx8{t:Tr}(h:¬ (isT 16 t=true/\t.k=5)):jqh t = .zero:=by
 obtain⟨k,l⟩:=t;match l with
 | []=>rw[jqh];simp
 | [x]=>rw[jqh];simp
 | [a,b]=>rw[jqh];exact if_neg h
 | x :: y :: z :: l=>rw[jqh];simp
theorem jg1{n:Nat}{k:Int}{l:List Tr}(h:isT n (.mk k l)=true):(l.length:Int)=S2.arI k:=by
 cases n with
 | zero=>simp[isT] at h
 | succ n=>rw[isT] at h;rw[Bool.and_eq_true] at h;exact of_decide_eq_true h.1
theorem jxk{α:Type}:∀ {l:List α},l.length=2->∃ x y,l=[x,y]
  | [x,y],_=>⟨x,y,rfl⟩
theorem jq7(P:Nat->Prop)(w:World):(Vl.mk 0 0 none 0 [] none 0 [] none 0 []).Inp P w :=
  .mk _ _ _ _ _ _ _ _ _ _ _ (by omega) (by omega) .nil (by simp[maxLen]) (by simp) .nil (by simp[maxLen]) (by simp) .nil (by simp[maxLen]) (by simp)
theorem jzq{fn:Func}{p:Tmp}(h:fn.results=#[.cell p 30])(tmps:Array Value)(w:World)(g:Nat)(v0 v1 v2 v3 v4:Value)(hp:tmps.getD p undef = .pointer (some ⟨g,0,none⟩))(h0:w.cell? ⟨g,0,none⟩=some v0)(h1:w.cell? ⟨g,1,none⟩=some v1)(h2:w.cell? ⟨g,2,none⟩=some v2)(h3:w.cell? ⟨g,3,none⟩=some v3)(h4:w.cell? ⟨g,4,none⟩=some v4):(results fn tmps).run Tryz.prog w = .ok (.agg #[v0,v1,v2,v3,v4]) w:=by
 have hp':tmps[p]?.getD undef = .pointer (some ⟨g,0,none⟩):=by simpa using hp
 simp[results,h,hp',asAddr]
 go_simp
theorem ju4(k:Int)(A:Option Addr)(c:Nat)(l:List Sc)(v:Bool)(w:World)(h:(Sc.mk k A c l).In w.heap.size w)(hv:isT 16 (Sc.mk k A c l).er=v) :
    Calls Tryz.prog 26 #[.agg #[.int .i64 k,.slice A l.length c]] w (jqd w (.bool v)):=hv▸S2.jvu _ w h
def jwk(x:Vl):List Value:=[.int .u64 x.n,.int .u64 x.m,x.s1,x.c1,x.v1]
theorem jfz{w w3 w5:World}{x y:Vl}{t:TypeId}(hx:x.Inp (fun b=>w.heap.size+2<=b/\b<w3.heap.size) w3)(hy:y.Inp (fun b=>w.heap.size+2<=b/\b<w3.heap.size) w3)(hz:w.heap.size+2<=w3.heap.size)(hs:w5.heap.size=w3.heap.size)(hk:∀ b,w.heap.size+2<=b->w5.heap[b]?=w3.heap[b]?)(hb:Below w.heap.size w w5):jc3 w (.mk 0 0 [] [] [x.er,y.er]) (.returned (.agg #[.int .u64 0,.int .u64 0,.slice none 0 0,.slice none 0 0,.slice (some ⟨w3.heap.size,0,none⟩) 2 2])) (w5.alloc (.cells (jwk x++jwk y).toArray t)):=by
 have hk2:∀ b,w.heap.size+2<=b/\b<w3.heap.size->(w5.alloc (.cells (jwk x++jwk y).toArray t)).heap[b]?=w3.heap[b]?:=fun b h=>(Below.heap_alloc _ _ _ (by rw[hs];exact h.2)).trans (hk b h.1)
 refine⟨.mk 0 0 none 0 [] none 0 [] (some ⟨w3.heap.size,0,none⟩) 2 [x,y],rfl,by rw[jzt];rfl,?_,jzj hb⟩;refine .mk _ _ _ _ _ _ _ _ _ _ _ (by omega) (by omega) .nil (by simp[maxLen]) (by simp) .nil (by simp[maxLen]) (by simp) (.inr ⟨w3.heap.size,0,rfl,⟨by omega,by rw[World.size_alloc];omega⟩,fun i u hu=>?_⟩) (by simp[maxLen]) (fun z hz'=>?_)
 ·(
 have hu':(jwk x++jwk y)[i]?=some u:=by simpa[jzk,jwk] using hu
 rw[<- hs,World.cell?_alloc_mark,Nat.zero_add];simpa using hu')
 ·(
 have hz2:z.Inp (fun b=>w.heap.size+2<=b/\b<w3.heap.size) w3:=by (
 rcases List.mem_cons.1 hz' with rfl | h'
 ·exact hx
 ·rw[List.mem_singleton.1 h'];exact hy)
 exact (hz2.keep hk2).mono fun b hP=>⟨by omega,by rw[World.size_alloc];omega⟩)
theorem jwt:∀ (s:Sc) (w:World),s.In w.heap.size w->Calls Tryz.prog 27 #[s.val] w (jc3 w (jqh s.er)):=by
 intro s;induction s using S2.Sc.ind with
 | h k A c l ih=>(
 intro w hin;have HB0:Hid (Below w.heap.size w ((w.alloc (.cells #[.int .i64 k,.slice A l.length c] 24)).alloc (.cells #[.int .u64 0,.int .u64 0,.slice none 0 0,.slice none 0 0,.slice none 0 0] 30))):=jzj (jzf _ _);have HIN:=Lh (hin.later HB0.out);have HI0:=Lh hin;have IH:=Lh ih;clear hin ih;obtain⟨p,hp⟩:=exq (isT 16 (Sc.mk k A c l).er);have HP:=Lh hp;clear hp;simp only[S2.jzh];go_enter Tryz.func27,Tryz.ntmps27;go_wp2_with fail;refine (ju4 k A c l p _ HIN.out HP.out).mono ?_;rintro e w1 ⟨rfl,hb1⟩;have a0:w1.cell? ⟨w.heap.size,0,none⟩=some (.int .i64 k):=(hb1.cell (p:=⟨w.heap.size,0,none⟩) (by simp;omega)).trans (by go_simp);have a1:w1.cell? ⟨w.heap.size,1,none⟩=some (.slice A l.length c):=(hb1.cell (p:=⟨w.heap.size,1,none⟩) (by simp;omega)).trans (by go_simp);have b0:w1.cell? ⟨w.heap.size+1,0,none⟩=some (.int .u64 0):=(hb1.cell (p:=⟨w.heap.size+1,0,none⟩) (by simp)).trans (by go_simp);have b1:w1.cell? ⟨w.heap.size+1,1,none⟩=some (.int .u64 0):=(hb1.cell (p:=⟨w.heap.size+1,1,none⟩) (by simp)).trans (by go_simp);have b2:w1.cell? ⟨w.heap.size+1,2,none⟩=some (.slice none 0 0):=(hb1.cell (p:=⟨w.heap.size+1,2,none⟩) (by simp)).trans (by go_simp);have b3:w1.cell? ⟨w.heap.size+1,3,none⟩=some (.slice none 0 0):=(hb1.cell (p:=⟨w.heap.size+1,3,none⟩) (by simp)).trans (by go_simp);have b4:w1.cell? ⟨w.heap.size+1,4,none⟩=some (.slice none 0 0):=(hb1.cell (p:=⟨w.heap.size+1,4,none⟩) (by simp)).trans (by go_simp);have f0:w1.frozen? ⟨w.heap.size+1,0,none⟩=false:=(hb1.frozen (p:=⟨w.heap.size+1,0,none⟩) (by simp)).trans (by go_simp);have f1:w1.frozen? ⟨w.heap.size+1,1,none⟩=false:=(hb1.frozen (p:=⟨w.heap.size+1,1,none⟩) (by simp)).trans (by go_simp);have f2:w1.frozen? ⟨w.heap.size+1,2,none⟩=false:=(hb1.frozen (p:=⟨w.heap.size+1,2,none⟩) (by simp)).trans (by go_simp);have f3:w1.frozen? ⟨w.heap.size+1,3,none⟩=false:=(hb1.frozen (p:=⟨w.heap.size+1,3,none⟩) (by simp)).trans (by go_simp);have f4:w1.frozen? ⟨w.heap.size+1,4,none⟩=false:=(hb1.frozen (p:=⟨w.heap.size+1,4,none⟩) (by simp)).trans (by go_simp);have hsz:w.heap.size+1<w1.heap.size:=ltl (by simp) hb1.size;have HB1:Hid (Below w.heap.size w w1):=HB0.out.trans (hb1.mono HB0.out.size);have HI1:=Lh (HIN.out.later hb1);clear hb1 HB0 HIN;by_cases hc:p=true/\k=5
 ·(
 obtain⟨rfl,rfl⟩:=hc;have hl2:l.length=2:=by (
 have:=jg1 (n:=16) (k:=5) (l:=l.map Sc.er) (by rw[<- S2.jzt 5 A c];exact HP.out);simp[S2.arI] at this
 omega)
 obtain⟨x,y,rfl⟩:=jxk hl2;obtain⟨-,-,-,hall⟩:=HI1.out.out;obtain⟨hl0,-,-,-⟩:=HI0.out.out;have hll:S2.jwq w.heap.size w1 A [x,y]:=hl0.below HB1.out;obtain⟨b,off,rfl,hb,hcl⟩:=hll.get (k:=0) (by simp);have hbn:b≠w.heap.size+1:=by omega
 have hbn':w.heap.size+1≠b:=by omega
 replace hb:b<w1.heap.size:=by omega
 obtain⟨c0,c1⟩:=hcl 0 x rfl;obtain⟨c2,c3⟩:=hcl 1 y rfl;have HX:=Lh (hall x (by simp));have HY:=Lh (hall y (by simp));have IHX:=Lh (IH.out x (by simp));have IHY:=Lh (IH.out y (by simp));have HT:Hid (jqh (Sc.mk 5 (some ⟨b,off,none⟩) c [x,y]).er = .mk 0 0 [] [] [jqh x.er,jqh y.er]):=by (
 show jqh _=_
 have:=HP.out;rw[S2.jzt] at this ⊢;exact jv5 this)
 rw[HT.out];clear hll hl0 hall hcl IH hl2 HP HI0 HI1;obtain⟨xk,xA,xc,xl⟩:=x;obtain⟨yk,yA,yc,yl⟩:=y;simp only[S2.Sc.v1,S2.Sc.k,Nat.zero_mul,Nat.add_zero,Nat.one_mul] at c0 c1 c2 c3;simp only[S2.jzh] at IHX IHY;replace HX:=Lh (HX.out.later (jqo w1));replace HY:=Lh (HY.out.later (jqo w1));replace HB1:Hid (Below w.heap.size w w1.drew):=HB1.out.drew;simp only[List.length_cons,List.length_nil,Nat.zero_add,Nat.reduceAdd] at a1;have hs0:w.heap.size<w1.heap.size:=by omega
 have hsn:=Nat.ne_of_lt hsz;go_wp2_with fail;go_region_held3 (fun w'=>w'.cell? ⟨w.heap.size,1,none⟩=some (.slice (some ⟨b,off,none⟩) 2 c)/\w'.cell? ⟨b,off,none⟩=some (.int .i64 xk)/\w'.cell? ⟨b,off+1,none⟩=some (.slice xA xl.length xc)/\w'.cell? ⟨b,off+2,none⟩=some (.int .i64 yk)/\w'.cell? ⟨b,off+2+1,none⟩=some (.slice yA yl.length yc))
   (first
     | (with_reducible exact⟨a1,c0,c1,c2,c3⟩)
     | (refine⟨?_,?_,?_,?_,?_⟩ <;> go_simp))
   (first
     | (go_at_call 27;refine (IHX.out _ HX.out).mono ?_;rintro e w2 ⟨⟨pn,pm,pK,pL,pM,pN,pO,pP,pQ,pR,pS⟩,rfl,hpe,hpi,hb2⟩;(simp only[jzh];have HPE:=Lh hpe;have HPI:Hid ((Vl.mk pn pm pK pL pM pN pO pP pQ pR pS).Inp (fun b=>w.heap.size+2<=b/\b<w2.heap.size) w2):=hpi.mono (fun b hP=>⟨leT hsz hP.1,hP.2⟩);replace HY:=Lh (HY.out.later hb2);clear hpe hpi HX IHX;replace a1:=(hb2.cell (p:=⟨w.heap.size,1,none⟩) hs0).trans a1;replace c0:=(hb2.cell (p:=⟨b,off,none⟩) hb).trans c0;replace c1:=(hb2.cell (p:=⟨b,off+1,none⟩) hb).trans c1;replace c2:=(hb2.cell (p:=⟨b,off+2,none⟩) hb).trans c2;replace c3:=(hb2.cell (p:=⟨b,off+2+1,none⟩) hb).trans c3;replace b0:=(hb2.cell (p:=⟨w.heap.size+1,0,none⟩) hsz).trans b0;replace b1:=(hb2.cell (p:=⟨w.heap.size+1,1,none⟩) hsz).trans b1;replace b2:=(hb2.cell (p:=⟨w.heap.size+1,2,none⟩) hsz).trans b2;replace b3:=(hb2.cell (p:=⟨w.heap.size+1,3,none⟩) hsz).trans b3;replace b4:=(hb2.cell (p:=⟨w.heap.size+1,4,none⟩) hsz).trans b4;replace f0:=(hb2.frozen (p:=⟨w.heap.size+1,0,none⟩) hsz).trans f0;replace f1:=(hb2.frozen (p:=⟨w.heap.size+1,1,none⟩) hsz).trans f1;replace f2:=(hb2.frozen (p:=⟨w.heap.size+1,2,none⟩) hsz).trans f2;replace f3:=(hb2.frozen (p:=⟨w.heap.size+1,3,none⟩) hsz).trans f3;replace f4:=(hb2.frozen (p:=⟨w.heap.size+1,4,none⟩) hsz).trans f4;replace hb:b<w2.heap.size:=ltl hb hb2.size;replace hs0:w.heap.size<w2.heap.size:=ltl hs0 hb2.size;replace hsz:w.heap.size+1<w2.heap.size:=ltl hsz hb2.size;replace hsn:=Nat.ne_of_lt hsz;replace HB1:Hid (Below w.heap.size w w2):=HB1.out.trans (hb2.mono HB1.out.size);clear hb2))
     | (go_at_call 27;refine (IHY.out _ HY.out).mono ?_;rintro e w3 ⟨⟨qn,qm,qK,qL,qM,qN,qO,qP,qQ,qS,qU⟩,rfl,hqe,hqi,hb3⟩;(simp only[jzh];have HQE:=Lh hqe;have HQI:Hid ((Vl.mk qn qm qK qL qM qN qO qP qQ qS qU).Inp (fun b=>w.heap.size+2<=b/\b<w3.heap.size) w3):=hqi.mono (fun b hP=>⟨leT hsz hP.1,hP.2⟩);replace HPI:Hid ((Vl.mk pn pm pK pL pM pN pO pP pQ pR pS).Inp (fun b=>w.heap.size+2<=b/\b<w3.heap.size) w3):=(HPI.out.keep fun b hP=>hb3.block b hP.2).mono (fun b hP=>⟨hP.1,ltl hP.2 hb3.size⟩);clear hqe hqi;replace a1:=(hb3.cell (p:=⟨w.heap.size,1,none⟩) hs0).trans a1;replace c0:=(hb3.cell (p:=⟨b,off,none⟩) hb).trans c0;replace c1:=(hb3.cell (p:=⟨b,off+1,none⟩) hb).trans c1;replace c2:=(hb3.cell (p:=⟨b,off+2,none⟩) hb).trans c2;replace c3:=(hb3.cell (p:=⟨b,off+2+1,none⟩) hb).trans c3;replace b0:=(hb3.cell (p:=⟨w.heap.size+1,0,none⟩) hsz).trans b0;replace b1:=(hb3.cell (p:=⟨w.heap.size+1,1,none⟩) hsz).trans b1;replace b2:=(hb3.cell (p:=⟨w.heap.size+1,2,none⟩) hsz).trans b2;replace b3:=(hb3.cell (p:=⟨w.heap.size+1,3,none⟩) hsz).trans b3;replace b4:=(hb3.cell (p:=⟨w.heap.size+1,4,none⟩) hsz).trans b4;replace f0:=(hb3.frozen (p:=⟨w.heap.size+1,0,none⟩) hsz).trans f0;replace f1:=(hb3.frozen (p:=⟨w.heap.size+1,1,none⟩) hsz).trans f1;replace f2:=(hb3.frozen (p:=⟨w.heap.size+1,2,none⟩) hsz).trans f2;replace f3:=(hb3.frozen (p:=⟨w.heap.size+1,3,none⟩) hsz).trans f3;replace f4:=(hb3.frozen (p:=⟨w.heap.size+1,4,none⟩) hsz).trans f4;replace hb:b<w3.heap.size:=ltl hb hb3.size;replace hs0:w.heap.size<w3.heap.size:=ltl hs0 hb3.size;replace hsz:w.heap.size+1<w3.heap.size:=ltl hsz hb3.size;replace hsn:=Nat.ne_of_lt hsz;replace HB1:Hid (Below w.heap.size w w3):=HB1.out.trans (hb3.mono HB1.out.size);clear hb3)))
 go_wp2_with fail;refine bodyPost_ret (jzq rfl _ _ (w.heap.size+1) (.int .u64 0) (.int .u64 0) (.slice none 0 0) (.slice none 0 0) (.slice (some ⟨w3.heap.size,0,none⟩) 2 2) rfl (by go_simp) (by go_simp) (by go_simp) (by go_simp) (by go_simp)) rfl ?_;rw[HT.out,<- HPE.out,<- HQE.out];exact jfz HPI.out HQI.out hsz (by simp) (fun b hbb=>by
   rw[Below.heap_setCell _ _ _ _ (by show b≠w.heap.size+1;omega),Below.heap_setCell _ _ _ _ (by show b≠w.heap.size+1;omega),Below.heap_setCell _ _ _ _ (by show b≠w.heap.size+1;omega),Below.heap_setCell _ _ _ _ (by show b≠w.heap.size+1;omega),Below.heap_setCell _ _ _ _ (by show b≠w.heap.size+1;omega)])
   (((((HB1.out.setCell (by simp) _).setCell (by simp) _).setCell (by simp) _).setCell (by simp) _).setCell (by simp) _))
 ·(
 have HT:Hid (jqh (Sc.mk k A c l).er = .zero):=jx8 (by rw[HP.out,S2.er_k];exact hc);rw[HT.out];by_cases h5:k=5
 ·(
 subst h5;obtain rfl:p=false:=by cases p with | false=>rfl | true=>exact absurd ⟨rfl,rfl⟩ hc
 go_wp2_with fail;refine bodyPost_ret (jzq rfl _ _ (w.heap.size+1) (.int .u64 0) (.int .u64 0) (.slice none 0 0) (.slice none 0 0) (.slice none 0 0) rfl (by go_simp) (by go_simp) (by go_simp) (by go_simp) (by go_simp)) rfl ?_;exact⟨.mk 0 0 none 0 [] none 0 [] none 0 [],rfl,by rw[HT.out];rfl,jq7 _ _,((((HB1.out.setCell (by simp) _).setCell (by simp) _).setCell (by simp) _).setCell (by simp) _).setCell (by simp) _⟩)
 ·(
 have h5':(k == 5)=false:=by simp[h5]
 cases p
 all_goals
   go_wp2_with fail
   refine bodyPost_ret (jzq rfl _ _ (w.heap.size+1) (.int .u64 0) (.int .u64 0) (.slice none 0 0) (.slice none 0 0) (.slice none 0 0) rfl (by go_simp) (by go_simp) (by go_simp) (by go_simp) (by go_simp)) rfl ?_
   exact⟨.mk 0 0 none 0 [] none 0 [] none 0 [],rfl,by rw[HT.out];rfl,jq7 _ _,((((HB1.out.setCell (by simp) _).setCell (by simp) _).setCell (by simp) _).setCell (by simp) _).setCell (by simp) _⟩)))
theorem ju5(k:Int)(A:Option Addr)(c:Nat)(l:List Sc)(w:World)(h:(Sc.mk k A c l).In w.heap.size w) :
    Calls Tryz.prog 27 #[.agg #[.int .i64 k,.slice A l.length c]] w (jc3 w (jqh (Sc.mk k A c l).er)):=jwt _ w h
theorem jk9(s:Sc)(x:Vl)(w:World)(hs:s.In w.heap.size w)(hx:x.In w):Calls Tryz.prog 19 #[s.val,x.val] w (jqd w (.bool (decide (x.er=jqh s.er)))):=by
 obtain⟨k,A,c,l⟩:=s;obtain⟨n,m,sA,sc,ss,cA,cc,cs,vA,vc,vs⟩:=x;have HB0:Hid (Below w.heap.size w ((w.alloc (.cells #[.int .i64 k,.slice A l.length c] 24)).alloc (.cells #[.int .u64 n,.int .u64 m,.slice sA ss.length sc,.slice cA cs.length cc,.slice vA vs.length vc] 30)).drew):=(jzj (jzf _ _)).drew;have HS:=Lh (hs.later HB0.out);have HX:=Lh (hx.later HB0.out);clear hs hx;obtain⟨q,hq⟩:=exq (decide ((Vl.mk n m sA sc ss cA cc cs vA vc vs).er=jqh (Sc.mk k A c l).er));have HQ:=Lh hq;rw[hq];clear hq;simp only[S2.jzh,jzh];go_enter Tryz.func19,Tryz.ntmps19;go_wp2_with fail;have a0:((w.alloc (.cells #[.int .i64 k,.slice A l.length c] 24)).alloc (.cells #[.int .u64 n,.int .u64 m,.slice sA ss.length sc,.slice cA cs.length cc,.slice vA vs.length vc] 30)).cell? ⟨w.heap.size,0,none⟩=some (.int .i64 k):=by go_simp
 have a1:((w.alloc (.cells #[.int .i64 k,.slice A l.length c] 24)).alloc (.cells #[.int .u64 n,.int .u64 m,.slice sA ss.length sc,.slice cA cs.length cc,.slice vA vs.length vc] 30)).cell? ⟨w.heap.size,1,none⟩=some (.slice A l.length c):=by go_simp
 have b0:((w.alloc (.cells #[.int .i64 k,.slice A l.length c] 24)).alloc (.cells #[.int .u64 n,.int .u64 m,.slice sA ss.length sc,.slice cA cs.length cc,.slice vA vs.length vc] 30)).cell? ⟨w.heap.size+1,0,none⟩=some (.int .u64 n):=by go_simp
 have b1:((w.alloc (.cells #[.int .i64 k,.slice A l.length c] 24)).alloc (.cells #[.int .u64 n,.int .u64 m,.slice sA ss.length sc,.slice cA cs.length cc,.slice vA vs.length vc] 30)).cell? ⟨w.heap.size+1,1,none⟩=some (.int .u64 m):=by go_simp
 have b2:((w.alloc (.cells #[.int .i64 k,.slice A l.length c] 24)).alloc (.cells #[.int .u64 n,.int .u64 m,.slice sA ss.length sc,.slice cA cs.length cc,.slice vA vs.length vc] 30)).cell? ⟨w.heap.size+1,2,none⟩=some (.slice sA ss.length sc):=by go_simp
 have b3:((w.alloc (.cells #[.int .i64 k,.slice A l.length c] 24)).alloc (.cells #[.int .u64 n,.int .u64 m,.slice sA ss.length sc,.slice cA cs.length cc,.slice vA vs.length vc] 30)).cell? ⟨w.heap.size+1,3,none⟩=some (.slice cA cs.length cc):=by go_simp
 have b4:((w.alloc (.cells #[.int .i64 k,.slice A l.length c] 24)).alloc (.cells #[.int .u64 n,.int .u64 m,.slice sA ss.length sc,.slice cA cs.length cc,.slice vA vs.length vc] 30)).cell? ⟨w.heap.size+1,4,none⟩=some (.slice vA vs.length vc):=by go_simp
 generalize ((w.alloc (.cells #[.int .i64 k,.slice A l.length c] 24)).alloc (.cells #[.int .u64 n,.int .u64 m,.slice sA ss.length sc,.slice cA cs.length cc,.slice vA vs.length vc] 30))=W0 at *;have hs1:w.heap.size+1<W0.heap.size:=World.block_lt_of_cell? W0 _ b0;have hs0:w.heap.size<W0.heap.size:=by omega
 go_region_held3 (fun w'=>w'.cell? ⟨w.heap.size,0,none⟩=some (.int .i64 k)/\w'.cell? ⟨w.heap.size,1,none⟩=some (.slice A l.length c)/\w'.cell? ⟨w.heap.size+1,0,none⟩=some (.int .u64 n)/\w'.cell? ⟨w.heap.size+1,1,none⟩=some (.int .u64 m)/\w'.cell? ⟨w.heap.size+1,2,none⟩=some (.slice sA ss.length sc)/\w'.cell? ⟨w.heap.size+1,3,none⟩=some (.slice cA cs.length cc)/\w'.cell? ⟨w.heap.size+1,4,none⟩=some (.slice vA vs.length vc))
   (first
     | exact⟨a0,a1,b0,b1,b2,b3,b4⟩)
   (first
     | (go_at_call 27;refine (ju5 k A c l _ HS.out).mono ?_;rintro e w2 ⟨⟨pn,pm,pK,pL,pM,pN,pO,pP,pQ,pR,pS⟩,rfl,hpe,hpi,hb2⟩;(simp only[jzh];have HPE:=Lh hpe;have HPI:Hid ((Vl.mk pn pm pK pL pM pN pO pP pQ pR pS).In w2):=hpi.mono (fun b hP=>hP.2);replace HX:=Lh (HX.out.later hb2);clear hpe hpi HS;replace a0:=(hb2.cell (p:=⟨w.heap.size,0,none⟩) hs0).trans a0;replace a1:=(hb2.cell (p:=⟨w.heap.size,1,none⟩) hs0).trans a1;replace b0:=(hb2.cell (p:=⟨w.heap.size+1,0,none⟩) hs1).trans b0;replace b1:=(hb2.cell (p:=⟨w.heap.size+1,1,none⟩) hs1).trans b1;replace b2:=(hb2.cell (p:=⟨w.heap.size+1,2,none⟩) hs1).trans b2;replace b3:=(hb2.cell (p:=⟨w.heap.size+1,3,none⟩) hs1).trans b3;replace b4:=(hb2.cell (p:=⟨w.heap.size+1,4,none⟩) hs1).trans b4;replace hs0:w.heap.size<w2.heap.size:=ltl hs0 hb2.size;replace hs1:w.heap.size+1<w2.heap.size:=ltl hs1 hb2.size;replace HB0:Hid (Below w.heap.size w w2):=HB0.out.trans (hb2.mono HB0.out.size);clear hb2))
     | (go_at_call 11;refine (jke (.mk n m sA sc ss cA cc cs vA vc vs) (.mk pn pm pK pL pM pN pO pP pQ pR pS) _ HX.out HPI.out).mono ?_;rintro e w3 ⟨rfl,hb2⟩;(rw[HPE.out,HQ.out];replace a0:=(hb2.cell (p:=⟨w.heap.size,0,none⟩) hs0).trans a0;replace a1:=(hb2.cell (p:=⟨w.heap.size,1,none⟩) hs0).trans a1;replace b0:=(hb2.cell (p:=⟨w.heap.size+1,0,none⟩) hs1).trans b0;replace b1:=(hb2.cell (p:=⟨w.heap.size+1,1,none⟩) hs1).trans b1;replace b2:=(hb2.cell (p:=⟨w.heap.size+1,2,none⟩) hs1).trans b2;replace b3:=(hb2.cell (p:=⟨w.heap.size+1,3,none⟩) hs1).trans b3;replace b4:=(hb2.cell (p:=⟨w.heap.size+1,4,none⟩) hs1).trans b4;replace HB0:Hid (Below w.heap.size w w3):=HB0.out.trans (hb2.mono HB0.out.size);clear hb2)))
 go_wp2_with fail;go_ret;exact⟨rfl,HB0.out⟩
end V4
end Go.Proofs.YtobggoephhjofaaGreatDoor
