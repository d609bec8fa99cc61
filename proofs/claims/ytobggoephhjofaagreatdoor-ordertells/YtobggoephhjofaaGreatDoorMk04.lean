/- A part. No condition. -/
import Derived.Test.YtobggoephhjofaaGreatDoorMk03
set_option maxRecDepth 100000
set_option maxHeartbeats 16000000
namespace Go.Proofs.YtobggoephhjofaaGreatDoor
namespace V4
open Go.RowKit
open C3 (Tk Asc isC ofC jxt Nok In jzk jzf jqz RetT)
open S2 (Tr Sc isT)
def jqv:Tr->Va
  | .mk k [a,b]=>if isT 16 (.mk k [a,b])=true/\k=5 then .mk 0 0 [] [] [jqv a,jqv b] else .zero
  | .mk _ _ => .zero
theorem jpb{a b:Tr}(h:isT 16 (.mk 5 [a,b])=true):jqv (.mk 5 [a,b]) = .mk 0 0 [] [] [jqv a,jqv b]:=by rw[jqv,if_pos ⟨h,rfl⟩]
theorem jyd{t:Tr}(h:¬ (isT 16 t=true/\t.k=5)):jqv t = .zero:=by
 obtain⟨k,l⟩:=t;match l with
 | []=>rw[jqv];simp
 | [x]=>rw[jqv];simp
 | [a,b]=>rw[jqv];exact if_neg h
 | x :: y :: z :: l=>rw[jqv];simp
theorem jm3{n:Nat}{k:Int}{l:List Tr}(h:isT n (.mk k l)=true):(l.length:Int)=S2.arI k:=by
 cases n with
 | zero=>simp[isT] at h
 | succ n=>rw[isT] at h;rw[Bool.and_eq_true] at h;exact of_decide_eq_true h.1
theorem jx7{α:Type}:∀ {l:List α},l.length=2->∃ x y,l=[x,y]
  | [x,y],_=>⟨x,y,rfl⟩
theorem jxy(P:Nat->Prop)(w:World):(Vl.mk 0 0 none 0 [] none 0 [] none 0 []).Inp P w :=
  .mk _ _ _ _ _ _ _ _ _ _ _ (by omega) (by omega) .nil (by simp[maxLen]) (by simp) .nil (by simp[maxLen]) (by simp) .nil (by simp[maxLen]) (by simp)
theorem jzv{fn:Func}{p:Tmp}(h:fn.results=#[.cell p 30])(tmps:Array Value)(w:World)(g:Nat)(v0 v1 v2 v3 v4:Value)(hp:tmps.getD p undef = .pointer (some ⟨g,0,none⟩))(h0:w.cell? ⟨g,0,none⟩=some v0)(h1:w.cell? ⟨g,1,none⟩=some v1)(h2:w.cell? ⟨g,2,none⟩=some v2)(h3:w.cell? ⟨g,3,none⟩=some v3)(h4:w.cell? ⟨g,4,none⟩=some v4):(results fn tmps).run Tryz.prog w = .ok (.agg #[v0,v1,v2,v3,v4]) w:=by
 have iD:tmps[p]?.getD undef = .pointer (some ⟨g,0,none⟩):=by simpa using hp
 simp[results,h,iD,asAddr]
 go_simp
theorem jcd(k:Int)(A:Option Addr)(c:Nat)(l:List Sc)(v:Bool)(w:World)(h:(Sc.mk k A c l).In w.heap.size w)(hv:isT 16 (Sc.mk k A c l).er=v) :
    Calls Tryz.prog 26 #[.agg #[.int .i64 k,.slice A l.length c]] w (jz6 w (.bool v)):=hv▸S2.jgp _ w h
def jwt(x:Vl):List Value:=[.int .u64 x.n,.int .u64 x.m,x.s1,x.c1,x.v1]
theorem jrr{w w3 w5:World}{x y:Vl}{t:TypeId}(hx:x.Inp (fun b=>w.heap.size+2<=b/\b<w3.heap.size) w3)(hy:y.Inp (fun b=>w.heap.size+2<=b/\b<w3.heap.size) w3)(hz:w.heap.size+2<=w3.heap.size)(hs:w5.heap.size=w3.heap.size)(hk:∀ b,w.heap.size+2<=b->w5.heap[b]?=w3.heap[b]?)(hb:Below w.heap.size w w5):jrw w (.mk 0 0 [] [] [x.er,y.er]) (.returned (.agg #[.int .u64 0,.int .u64 0,.slice none 0 0,.slice none 0 0,.slice (some ⟨w3.heap.size,0,none⟩) 2 2])) (w5.alloc (.cells (jwt x++jwt y).toArray t)):=by
 have fC:∀ b,w.heap.size+2<=b/\b<w3.heap.size->(w5.alloc (.cells (jwt x++jwt y).toArray t)).heap[b]?=w3.heap[b]?:=fun b h=>(Below.heap_alloc _ _ _ (by rw[hs];exact h.2)).trans (hk b h.1)
 refine⟨.mk 0 0 none 0 [] none 0 [] (some ⟨w3.heap.size,0,none⟩) 2 [x,y],rfl,by rw[jzw];rfl,?_,jzk hb⟩;refine .mk _ _ _ _ _ _ _ _ _ _ _ (by omega) (by omega) .nil (by simp[maxLen]) (by simp) .nil (by simp[maxLen]) (by simp) (.inr ⟨w3.heap.size,0,rfl,⟨by omega,by rw[World.size_alloc];omega⟩,fun i u hu=>?_⟩) (by simp[maxLen]) (fun z hz'=>?_)
 ·(
 have pD:(jwt x++jwt y)[i]?=some u:=by simpa[jzj,jwt] using hu
 rw[<- hs,World.cell?_alloc_mark,Nat.zero_add];simpa using pD)
 ·(
 have db:z.Inp (fun b=>w.heap.size+2<=b/\b<w3.heap.size) w3:=by (
 rcases List.mem_cons.1 hz' with rfl | h'
 ·exact hx
 ·rw[List.mem_singleton.1 h'];exact hy)
 exact (db.keep fC).mono fun b hP=>⟨by omega,by rw[World.size_alloc];omega⟩)
theorem jv1:∀ (s:Sc) (w:World),s.In w.heap.size w->Calls Tryz.prog 27 #[s.val] w (jrw w (jqv s.er)):=by
 intro s;induction s using S2.Sc.ind with
 | h k A c l ih=>(
 intro w bx;have cE:Hid (Below w.heap.size w ((w.alloc (.cells #[.int .i64 k,.slice A l.length c] 24)).alloc (.cells #[.int .u64 0,.int .u64 0,.slice none 0 0,.slice none 0 0,.slice none 0 0] 30))):=jzk (jzf _ _);have jd:=Lh (bx.later cE.out);have HI0:=Lh bx;have IH:=Lh ih;clear bx ih;obtain⟨p,hp⟩:=exq (isT 16 (Sc.mk k A c l).er);have HP:=Lh hp;clear hp;simp only[S2.jzh];go_enter Tryz.func27,Tryz.ntmps27;go_wp2_with fail;refine (jcd k A c l p _ jd.out HP.out).mono ?_;rintro e w1 ⟨rfl,af⟩;have a0:w1.cell? ⟨w.heap.size,0,none⟩=some (.int .i64 k):=(af.cell (p:=⟨w.heap.size,0,none⟩) (by simp;omega)).trans (by go_simp);have a1:w1.cell? ⟨w.heap.size,1,none⟩=some (.slice A l.length c):=(af.cell (p:=⟨w.heap.size,1,none⟩) (by simp;omega)).trans (by go_simp);have b0:w1.cell? ⟨w.heap.size+1,0,none⟩=some (.int .u64 0):=(af.cell (p:=⟨w.heap.size+1,0,none⟩) (by simp)).trans (by go_simp);have b1:w1.cell? ⟨w.heap.size+1,1,none⟩=some (.int .u64 0):=(af.cell (p:=⟨w.heap.size+1,1,none⟩) (by simp)).trans (by go_simp);have b2:w1.cell? ⟨w.heap.size+1,2,none⟩=some (.slice none 0 0):=(af.cell (p:=⟨w.heap.size+1,2,none⟩) (by simp)).trans (by go_simp);have b3:w1.cell? ⟨w.heap.size+1,3,none⟩=some (.slice none 0 0):=(af.cell (p:=⟨w.heap.size+1,3,none⟩) (by simp)).trans (by go_simp);have b4:w1.cell? ⟨w.heap.size+1,4,none⟩=some (.slice none 0 0):=(af.cell (p:=⟨w.heap.size+1,4,none⟩) (by simp)).trans (by go_simp);have f0:w1.frozen? ⟨w.heap.size+1,0,none⟩=false:=(af.frozen (p:=⟨w.heap.size+1,0,none⟩) (by simp)).trans (by go_simp);have f1:w1.frozen? ⟨w.heap.size+1,1,none⟩=false:=(af.frozen (p:=⟨w.heap.size+1,1,none⟩) (by simp)).trans (by go_simp);have f2:w1.frozen? ⟨w.heap.size+1,2,none⟩=false:=(af.frozen (p:=⟨w.heap.size+1,2,none⟩) (by simp)).trans (by go_simp);have f3:w1.frozen? ⟨w.heap.size+1,3,none⟩=false:=(af.frozen (p:=⟨w.heap.size+1,3,none⟩) (by simp)).trans (by go_simp);have f4:w1.frozen? ⟨w.heap.size+1,4,none⟩=false:=(af.frozen (p:=⟨w.heap.size+1,4,none⟩) (by simp)).trans (by go_simp);have ae:w.heap.size+1<w1.heap.size:=ltl (by simp) af.size;have gD:Hid (Below w.heap.size w w1):=cE.out.trans (af.mono cE.out.size);have iH:=Lh (jd.out.later af);clear af cE jd;by_cases hc:p=true/\k=5
 ·(
 obtain⟨rfl,rfl⟩:=hc;have qf:l.length=2:=by (
 have:=jm3 (n:=16) (k:=5) (l:=l.map Sc.er) (by rw[<- S2.jzw 5 A c];exact HP.out);simp[S2.arI] at this
 omega)
 obtain⟨x,y,rfl⟩:=jx7 qf;obtain⟨-,-,-,bu⟩:=iH.out.out;obtain⟨gl,-,-,-⟩:=HI0.out.out;have rD:S2.jw9 w.heap.size w1 A [x,y]:=gl.below gD.out;obtain⟨b,off,rfl,hb,b8⟩:=rD.get (k:=0) (by simp);have aa:b≠w.heap.size+1:=by omega
 have hbn':w.heap.size+1≠b:=by omega
 replace hb:b<w1.heap.size:=by omega
 obtain⟨c0,c1⟩:=b8 0 x rfl;obtain⟨c2,c3⟩:=b8 1 y rfl;have HX:=Lh (bu x (by simp));have HY:=Lh (bu y (by simp));have IHX:=Lh (IH.out x (by simp));have IHY:=Lh (IH.out y (by simp));have HT:Hid (jqv (Sc.mk 5 (some ⟨b,off,none⟩) c [x,y]).er = .mk 0 0 [] [] [jqv x.er,jqv y.er]):=by (
 show jqv _=_
 have:=HP.out;rw[S2.jzw] at this ⊢;exact jpb this)
 rw[HT.out];clear rD gl bu b8 IH qf HP HI0 iH;obtain⟨xk,xA,xc,xl⟩:=x;obtain⟨yk,yA,yc,yl⟩:=y;simp only[S2.Sc.v1,S2.Sc.k,Nat.zero_mul,Nat.add_zero,Nat.one_mul] at c0 c1 c2 c3;simp only[S2.jzh] at IHX IHY;replace HX:=Lh (HX.out.later (jqz w1));replace HY:=Lh (HY.out.later (jqz w1));replace gD:Hid (Below w.heap.size w w1.drew):=gD.out.drew;simp only[List.length_cons,List.length_nil,Nat.zero_add,Nat.reduceAdd] at a1;have bz:w.heap.size<w1.heap.size:=by omega
 have hsn:=Nat.ne_of_lt ae;go_wp2_with fail;go_region_held3 (fun w'=>w'.cell? ⟨w.heap.size,1,none⟩=some (.slice (some ⟨b,off,none⟩) 2 c)/\w'.cell? ⟨b,off,none⟩=some (.int .i64 xk)/\w'.cell? ⟨b,off+1,none⟩=some (.slice xA xl.length xc)/\w'.cell? ⟨b,off+2,none⟩=some (.int .i64 yk)/\w'.cell? ⟨b,off+2+1,none⟩=some (.slice yA yl.length yc))
   (first
     | (with_reducible exact⟨a1,c0,c1,c2,c3⟩)
     | (refine⟨?_,?_,?_,?_,?_⟩ <;> go_simp))
   (first
     | (go_at_call 27;refine (IHX.out _ HX.out).mono ?_;rintro e w2 ⟨⟨pn,pm,pK,pL,pM,pN,pO,pP,pQ,pR,pS⟩,rfl,vh,vg,ab⟩;(simp only[jzh];have re:=Lh vh;have wW:Hid ((Vl.mk pn pm pK pL pM pN pO pP pQ pR pS).Inp (fun b=>w.heap.size+2<=b/\b<w2.heap.size) w2):=vg.mono (fun b hP=>⟨leT ae hP.1,hP.2⟩);replace HY:=Lh (HY.out.later ab);clear vh vg HX IHX;replace a1:=(ab.cell (p:=⟨w.heap.size,1,none⟩) bz).trans a1;replace c0:=(ab.cell (p:=⟨b,off,none⟩) hb).trans c0;replace c1:=(ab.cell (p:=⟨b,off+1,none⟩) hb).trans c1;replace c2:=(ab.cell (p:=⟨b,off+2,none⟩) hb).trans c2;replace c3:=(ab.cell (p:=⟨b,off+2+1,none⟩) hb).trans c3;replace b0:=(ab.cell (p:=⟨w.heap.size+1,0,none⟩) ae).trans b0;replace b1:=(ab.cell (p:=⟨w.heap.size+1,1,none⟩) ae).trans b1;replace b2:=(ab.cell (p:=⟨w.heap.size+1,2,none⟩) ae).trans b2;replace b3:=(ab.cell (p:=⟨w.heap.size+1,3,none⟩) ae).trans b3;replace b4:=(ab.cell (p:=⟨w.heap.size+1,4,none⟩) ae).trans b4;replace f0:=(ab.frozen (p:=⟨w.heap.size+1,0,none⟩) ae).trans f0;replace f1:=(ab.frozen (p:=⟨w.heap.size+1,1,none⟩) ae).trans f1;replace f2:=(ab.frozen (p:=⟨w.heap.size+1,2,none⟩) ae).trans f2;replace f3:=(ab.frozen (p:=⟨w.heap.size+1,3,none⟩) ae).trans f3;replace f4:=(ab.frozen (p:=⟨w.heap.size+1,4,none⟩) ae).trans f4;replace hb:b<w2.heap.size:=ltl hb ab.size;replace bz:w.heap.size<w2.heap.size:=ltl bz ab.size;replace ae:w.heap.size+1<w2.heap.size:=ltl ae ab.size;replace hsn:=Nat.ne_of_lt ae;replace gD:Hid (Below w.heap.size w w2):=gD.out.trans (ab.mono gD.out.size);clear ab))
     | (go_at_call 27;refine (IHY.out _ HY.out).mono ?_;rintro e w3 ⟨⟨qn,qm,qK,qL,qM,qN,qO,qP,qQ,qS,qU⟩,rfl,hqe,hqi,bj⟩;(simp only[jzh];have HQE:=Lh hqe;have HQI:Hid ((Vl.mk qn qm qK qL qM qN qO qP qQ qS qU).Inp (fun b=>w.heap.size+2<=b/\b<w3.heap.size) w3):=hqi.mono (fun b hP=>⟨leT ae hP.1,hP.2⟩);replace wW:Hid ((Vl.mk pn pm pK pL pM pN pO pP pQ pR pS).Inp (fun b=>w.heap.size+2<=b/\b<w3.heap.size) w3):=(wW.out.keep fun b hP=>bj.block b hP.2).mono (fun b hP=>⟨hP.1,ltl hP.2 bj.size⟩);clear hqe hqi;replace a1:=(bj.cell (p:=⟨w.heap.size,1,none⟩) bz).trans a1;replace c0:=(bj.cell (p:=⟨b,off,none⟩) hb).trans c0;replace c1:=(bj.cell (p:=⟨b,off+1,none⟩) hb).trans c1;replace c2:=(bj.cell (p:=⟨b,off+2,none⟩) hb).trans c2;replace c3:=(bj.cell (p:=⟨b,off+2+1,none⟩) hb).trans c3;replace b0:=(bj.cell (p:=⟨w.heap.size+1,0,none⟩) ae).trans b0;replace b1:=(bj.cell (p:=⟨w.heap.size+1,1,none⟩) ae).trans b1;replace b2:=(bj.cell (p:=⟨w.heap.size+1,2,none⟩) ae).trans b2;replace b3:=(bj.cell (p:=⟨w.heap.size+1,3,none⟩) ae).trans b3;replace b4:=(bj.cell (p:=⟨w.heap.size+1,4,none⟩) ae).trans b4;replace f0:=(bj.frozen (p:=⟨w.heap.size+1,0,none⟩) ae).trans f0;replace f1:=(bj.frozen (p:=⟨w.heap.size+1,1,none⟩) ae).trans f1;replace f2:=(bj.frozen (p:=⟨w.heap.size+1,2,none⟩) ae).trans f2;replace f3:=(bj.frozen (p:=⟨w.heap.size+1,3,none⟩) ae).trans f3;replace f4:=(bj.frozen (p:=⟨w.heap.size+1,4,none⟩) ae).trans f4;replace hb:b<w3.heap.size:=ltl hb bj.size;replace bz:w.heap.size<w3.heap.size:=ltl bz bj.size;replace ae:w.heap.size+1<w3.heap.size:=ltl ae bj.size;replace hsn:=Nat.ne_of_lt ae;replace gD:Hid (Below w.heap.size w w3):=gD.out.trans (bj.mono gD.out.size);clear bj)))
 go_wp2_with fail;refine bodyPost_ret (jzv rfl _ _ (w.heap.size+1) (.int .u64 0) (.int .u64 0) (.slice none 0 0) (.slice none 0 0) (.slice (some ⟨w3.heap.size,0,none⟩) 2 2) rfl (by go_simp) (by go_simp) (by go_simp) (by go_simp) (by go_simp)) rfl ?_;rw[HT.out,<- re.out,<- HQE.out];exact jrr wW.out HQI.out ae (by simp) (fun b cD=>by
   rw[Below.heap_setCell _ _ _ _ (by show b≠w.heap.size+1;omega),Below.heap_setCell _ _ _ _ (by show b≠w.heap.size+1;omega),Below.heap_setCell _ _ _ _ (by show b≠w.heap.size+1;omega),Below.heap_setCell _ _ _ _ (by show b≠w.heap.size+1;omega),Below.heap_setCell _ _ _ _ (by show b≠w.heap.size+1;omega)])
   (((((gD.out.setCell (by simp) _).setCell (by simp) _).setCell (by simp) _).setCell (by simp) _).setCell (by simp) _))
 ·(
 have HT:Hid (jqv (Sc.mk k A c l).er = .zero):=jyd (by rw[HP.out,S2.er_k];exact hc);rw[HT.out];by_cases h5:k=5
 ·(
 subst h5;obtain rfl:p=false:=by cases p with | false=>rfl | true=>exact absurd ⟨rfl,rfl⟩ hc
 go_wp2_with fail;refine bodyPost_ret (jzv rfl _ _ (w.heap.size+1) (.int .u64 0) (.int .u64 0) (.slice none 0 0) (.slice none 0 0) (.slice none 0 0) rfl (by go_simp) (by go_simp) (by go_simp) (by go_simp) (by go_simp)) rfl ?_;exact⟨.mk 0 0 none 0 [] none 0 [] none 0 [],rfl,by rw[HT.out];rfl,jxy _ _,((((gD.out.setCell (by simp) _).setCell (by simp) _).setCell (by simp) _).setCell (by simp) _).setCell (by simp) _⟩)
 ·(
 have h5':(k == 5)=false:=by simp[h5]
 cases p
 all_goals
   go_wp2_with fail
   refine bodyPost_ret (jzv rfl _ _ (w.heap.size+1) (.int .u64 0) (.int .u64 0) (.slice none 0 0) (.slice none 0 0) (.slice none 0 0) rfl (by go_simp) (by go_simp) (by go_simp) (by go_simp) (by go_simp)) rfl ?_
   exact⟨.mk 0 0 none 0 [] none 0 [] none 0 [],rfl,by rw[HT.out];rfl,jxy _ _,((((gD.out.setCell (by simp) _).setCell (by simp) _).setCell (by simp) _).setCell (by simp) _).setCell (by simp) _⟩)))
theorem jce(k:Int)(A:Option Addr)(c:Nat)(l:List Sc)(w:World)(h:(Sc.mk k A c l).In w.heap.size w) :
    Calls Tryz.prog 27 #[.agg #[.int .i64 k,.slice A l.length c]] w (jrw w (jqv (Sc.mk k A c l).er)):=jv1 _ w h
theorem jgo(s:Sc)(x:Vl)(w:World)(hs:s.In w.heap.size w)(hx:x.In w):Calls Tryz.prog 19 #[s.val,x.val] w (jz6 w (.bool (decide (x.er=jqv s.er)))):=by
 obtain⟨k,A,c,l⟩:=s;obtain⟨n,m,sA,sc,ss,cA,cc,cs,vA,vc,vs⟩:=x;have cE:Hid (Below w.heap.size w ((w.alloc (.cells #[.int .i64 k,.slice A l.length c] 24)).alloc (.cells #[.int .u64 n,.int .u64 m,.slice sA ss.length sc,.slice cA cs.length cc,.slice vA vs.length vc] 30)).drew):=(jzk (jzf _ _)).drew;have HS:=Lh (hs.later cE.out);have HX:=Lh (hx.later cE.out);clear hs hx;obtain⟨q,hq⟩:=exq (decide ((Vl.mk n m sA sc ss cA cc cs vA vc vs).er=jqv (Sc.mk k A c l).er));have HQ:=Lh hq;rw[hq];clear hq;simp only[S2.jzh,jzh];go_enter Tryz.func19,Tryz.ntmps19;go_wp2_with fail;have a0:((w.alloc (.cells #[.int .i64 k,.slice A l.length c] 24)).alloc (.cells #[.int .u64 n,.int .u64 m,.slice sA ss.length sc,.slice cA cs.length cc,.slice vA vs.length vc] 30)).cell? ⟨w.heap.size,0,none⟩=some (.int .i64 k):=by go_simp
 have a1:((w.alloc (.cells #[.int .i64 k,.slice A l.length c] 24)).alloc (.cells #[.int .u64 n,.int .u64 m,.slice sA ss.length sc,.slice cA cs.length cc,.slice vA vs.length vc] 30)).cell? ⟨w.heap.size,1,none⟩=some (.slice A l.length c):=by go_simp
 have b0:((w.alloc (.cells #[.int .i64 k,.slice A l.length c] 24)).alloc (.cells #[.int .u64 n,.int .u64 m,.slice sA ss.length sc,.slice cA cs.length cc,.slice vA vs.length vc] 30)).cell? ⟨w.heap.size+1,0,none⟩=some (.int .u64 n):=by go_simp
 have b1:((w.alloc (.cells #[.int .i64 k,.slice A l.length c] 24)).alloc (.cells #[.int .u64 n,.int .u64 m,.slice sA ss.length sc,.slice cA cs.length cc,.slice vA vs.length vc] 30)).cell? ⟨w.heap.size+1,1,none⟩=some (.int .u64 m):=by go_simp
 have b2:((w.alloc (.cells #[.int .i64 k,.slice A l.length c] 24)).alloc (.cells #[.int .u64 n,.int .u64 m,.slice sA ss.length sc,.slice cA cs.length cc,.slice vA vs.length vc] 30)).cell? ⟨w.heap.size+1,2,none⟩=some (.slice sA ss.length sc):=by go_simp
 have b3:((w.alloc (.cells #[.int .i64 k,.slice A l.length c] 24)).alloc (.cells #[.int .u64 n,.int .u64 m,.slice sA ss.length sc,.slice cA cs.length cc,.slice vA vs.length vc] 30)).cell? ⟨w.heap.size+1,3,none⟩=some (.slice cA cs.length cc):=by go_simp
 have b4:((w.alloc (.cells #[.int .i64 k,.slice A l.length c] 24)).alloc (.cells #[.int .u64 n,.int .u64 m,.slice sA ss.length sc,.slice cA cs.length cc,.slice vA vs.length vc] 30)).cell? ⟨w.heap.size+1,4,none⟩=some (.slice vA vs.length vc):=by go_simp
 generalize ((w.alloc (.cells #[.int .i64 k,.slice A l.length c] 24)).alloc (.cells #[.int .u64 n,.int .u64 m,.slice sA ss.length sc,.slice cA cs.length cc,.slice vA vs.length vc] 30))=W0 at *;have fm:w.heap.size+1<W0.heap.size:=World.block_lt_of_cell? W0 _ b0;have bz:w.heap.size<W0.heap.size:=by omega
 go_region_held3 (fun w'=>w'.cell? ⟨w.heap.size,0,none⟩=some (.int .i64 k)/\w'.cell? ⟨w.heap.size,1,none⟩=some (.slice A l.length c)/\w'.cell? ⟨w.heap.size+1,0,none⟩=some (.int .u64 n)/\w'.cell? ⟨w.heap.size+1,1,none⟩=some (.int .u64 m)/\w'.cell? ⟨w.heap.size+1,2,none⟩=some (.slice sA ss.length sc)/\w'.cell? ⟨w.heap.size+1,3,none⟩=some (.slice cA cs.length cc)/\w'.cell? ⟨w.heap.size+1,4,none⟩=some (.slice vA vs.length vc))
   (first
     | exact⟨a0,a1,b0,b1,b2,b3,b4⟩)
   (first
     | (go_at_call 27;refine (jce k A c l _ HS.out).mono ?_;rintro e w2 ⟨⟨pn,pm,pK,pL,pM,pN,pO,pP,pQ,pR,pS⟩,rfl,vh,vg,ab⟩;(simp only[jzh];have re:=Lh vh;have wW:Hid ((Vl.mk pn pm pK pL pM pN pO pP pQ pR pS).In w2):=vg.mono (fun b hP=>hP.2);replace HX:=Lh (HX.out.later ab);clear vh vg HS;replace a0:=(ab.cell (p:=⟨w.heap.size,0,none⟩) bz).trans a0;replace a1:=(ab.cell (p:=⟨w.heap.size,1,none⟩) bz).trans a1;replace b0:=(ab.cell (p:=⟨w.heap.size+1,0,none⟩) fm).trans b0;replace b1:=(ab.cell (p:=⟨w.heap.size+1,1,none⟩) fm).trans b1;replace b2:=(ab.cell (p:=⟨w.heap.size+1,2,none⟩) fm).trans b2;replace b3:=(ab.cell (p:=⟨w.heap.size+1,3,none⟩) fm).trans b3;replace b4:=(ab.cell (p:=⟨w.heap.size+1,4,none⟩) fm).trans b4;replace bz:w.heap.size<w2.heap.size:=ltl bz ab.size;replace fm:w.heap.size+1<w2.heap.size:=ltl fm ab.size;replace cE:Hid (Below w.heap.size w w2):=cE.out.trans (ab.mono cE.out.size);clear ab))
     | (go_at_call 11;refine (jbd (.mk n m sA sc ss cA cc cs vA vc vs) (.mk pn pm pK pL pM pN pO pP pQ pR pS) _ HX.out wW.out).mono ?_;rintro e w3 ⟨rfl,ab⟩;(rw[re.out,HQ.out];replace a0:=(ab.cell (p:=⟨w.heap.size,0,none⟩) bz).trans a0;replace a1:=(ab.cell (p:=⟨w.heap.size,1,none⟩) bz).trans a1;replace b0:=(ab.cell (p:=⟨w.heap.size+1,0,none⟩) fm).trans b0;replace b1:=(ab.cell (p:=⟨w.heap.size+1,1,none⟩) fm).trans b1;replace b2:=(ab.cell (p:=⟨w.heap.size+1,2,none⟩) fm).trans b2;replace b3:=(ab.cell (p:=⟨w.heap.size+1,3,none⟩) fm).trans b3;replace b4:=(ab.cell (p:=⟨w.heap.size+1,4,none⟩) fm).trans b4;replace cE:Hid (Below w.heap.size w w3):=cE.out.trans (ab.mono cE.out.size);clear ab)))
 go_wp2_with fail;go_ret;exact⟨rfl,cE.out⟩
end V4
end Go.Proofs.YtobggoephhjofaaGreatDoor
