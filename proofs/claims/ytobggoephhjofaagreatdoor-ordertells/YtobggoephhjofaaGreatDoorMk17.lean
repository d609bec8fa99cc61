/- A part. No condition. -/
import Derived.Test.YtobggoephhjofaaGreatDoorMk16
import Derived.Shelf.Small.Strs
import Derived.Shelf.Small.Wraps
import Derived.Ground.Names2Prog
import Derived.Shelf.Slices.Clone
import Derived.Test.YtobggoephhjofaaGreatDoorProg
set_option maxRecDepth 100000
set_option maxHeartbeats 16000000
namespace Go.Proofs.YtobggoephhjofaaGreatDoor
namespace V4
open Go.RowKit Go.Shelf
open C3 (Tk isC jzk)
open S2 (jzf)
def jvd(x:Vl×Vl):Bool:=decide (x.1.n=x.2.n) && (decide (x.1.m=x.2.m) && (decide (x.1.ss=x.2.ss) && (decide (x.1.cs.map Ck.l=x.2.cs.map Ck.l) && decide (x.1.vs.length=x.2.vs.length))))
def TwoB(x:Vl×Vl)(pa pb:Nat)(w:World):Prop :=
  (∀ i v,(#[.int .u64 x.1.n,.int .u64 x.1.m,x.1.s1,x.1.c1,x.1.v1]:Array Value)[i]?=some v->w.cell? ⟨pa,i,none⟩=some v)/\(∀ i v,(#[.int .u64 x.2.n,.int .u64 x.2.m,x.2.s1,x.2.c1,x.2.v1]:Array Value)[i]?=some v->w.cell? ⟨pb,i,none⟩=some v)
theorem juq(w:World)(o:Obj)(c1 c2:Array Value)(t1 t2:TypeId):(∀ i v,c1[i]?=some v->(((w.alloc o).alloc (.cells c1 t1)).alloc (.cells c2 t2)).drew.cell? ⟨w.heap.size+1,i,none⟩=some v)/\(∀ i v,c2[i]?=some v->(((w.alloc o).alloc (.cells c1 t1)).alloc (.cells c2 t2)).drew.cell? ⟨w.heap.size+1+1,i,none⟩=some v)/\Below w.heap.size w (((w.alloc o).alloc (.cells c1 t1)).alloc (.cells c2 t2)).drew:=by
 refine⟨fun i v h=>?_,fun i v h=>?_,(jzk (jzk (jzk (Below.refl _ _)))).drew⟩
 ·exact ((jq3 (Below.refl (w.heap.size+2) ((w.alloc o).alloc (.cells c1 t1))) (by simp)).cell (p:=⟨w.heap.size+1,i,none⟩) (by simp)).trans (jqt i v h)
 ·(have:=jqt (w:=w.alloc o) (a := .cells c1 t1) (t:=t2) i v h;rw[World.size_alloc] at this;exact this)
theorem jid(x:Vl×Vl)(w:World)(bx:InK w x):Calls Tryz.prog 67 #[jpo x] w (jz6 w (.bool (jvd x))):=by
 have jd:=Lh bx;clear bx;obtain⟨⟨yn,ym,yK,yL,yN,yO,yP,yQ,yR,yS,yT⟩,zn,zm,zK,zL,zM,zN,zO,zP,zQ,zR,zS⟩:=x;simp only[jpo,jqy,Vl.n,Vl.m,Vl.s1,Vl.c1,Vl.v1];go_enter Tryz.func67,Tryz.ntmps67;go_upto_region 1 with fail
 go_cut [3,4] (fun s3 s4 wx=>∃ (pa pb:Nat),s3 = .pointer (some ⟨pa,0,none⟩)/\s4 = .pointer (some ⟨pb,0,none⟩)/\TwoB (Vl.mk yn ym yK yL yN yO yP yQ yR yS yT,Vl.mk zn zm zK zL zM zN zO zP zQ zR zS) pa pb wx/\Below w.heap.size w wx)
 case first=>(
 go_region
 ·(
 go_wp2_with fail;go_meet
 have h:=juq w (.cells #[.int .u64 yn,.int .u64 ym,.slice yK yN.length yL,.slice yO yQ.length yP,.slice yR yT.length yS,.int .u64 zn,.int .u64 zm,.slice zK zM.length zL,.slice zN zP.length zO,.slice zQ zS.length zR] 105)
   #[.int .u64 yn,.int .u64 ym,.slice yK yN.length yL,.slice yO yQ.length yP,.slice yR yT.length yS] #[.int .u64 zn,.int .u64 zm,.slice zK zM.length zL,.slice zN zP.length zO,.slice zQ zS.length zR] 30 30
 exact⟨_,_,rfl,rfl,⟨h.1,h.2.1⟩,h.2.2⟩)
 ·(
 go_wp2_with fail;go_meet
 have h:=juq w (.cells #[.int .u64 yn,.int .u64 ym,.slice yK yN.length yL,.slice yO yQ.length yP,.slice yR yT.length yS,.int .u64 zn,.int .u64 zm,.slice zK zM.length zL,.slice zN zP.length zO,.slice zQ zS.length zR] 105)
   #[.int .u64 zn,.int .u64 zm,.slice zK zM.length zL,.slice zN zP.length zO,.slice zQ zS.length zR] #[.int .u64 yn,.int .u64 ym,.slice yK yN.length yL,.slice yO yQ.length yP,.slice yR yT.length yS] 30 30
 exact⟨_,_,rfl,rfl,⟨h.2.1,h.1⟩,h.2.2⟩))
 case rest=>(
 obtain⟨pa,pb,rfl,rfl,⟨ha,cD⟩,hB⟩:=hcut;have a0:=ha 0 _ rfl;have a1:=ha 1 _ rfl;have a2:=ha 2 _ rfl;have a3:=ha 3 _ rfl;have a4:=ha 4 _ rfl;have b0:=cD 0 _ rfl;have b1:=cD 1 _ rfl;have b2:=cD 2 _ rfl;have b3:=cD 3 _ rfl;have b4:=cD 4 _ rfl;simp only[Vl.n,Vl.m,Vl.s1,Vl.c1,Vl.v1] at a0 a1 a2 a3 a4 b0 b1 b2 b3 b4;have ig:=World.block_lt_of_cell? wc _ a0;have cu:=World.block_lt_of_cell? wc _ b0;simp only at ig cu;clear ha cD;have dC:=(jd.out.1.later hB).out;have fT:=(jd.out.2.later hB).out;have HES:=Lh (jrj yK zK yL zL yN zM wc dC.sl fT.sl (by have:=dC.sb;omega));have HEC:Hid (∀ Z,Below wc.heap.size wc Z->Calls Tryz.prog 109 #[.slice yO yQ.length yP,.slice zN zP.length zO,.func (.func 110) #[] #[]] Z (jz6 Z (.bool (decide (yQ.map Ck.l=zP.map Ck.l))))):=fun Z hZ=>by (have g1:=(jd.out.1.later hB).later hZ;have g2:=(jd.out.2.later hB).later hZ;exact jp5 yO zN yP zO yQ zP Z g1.out.cl g2.out.cl (by have:=g1.out.cb;omega) (ckIn _ _ _ _ _ _ _ _ _ _ _ g1) (ckIn _ _ _ _ _ _ _ _ _ _ _ g2))
 clear dC fT jd;obtain⟨q1,jh⟩:=exq (decide (yN=zM));obtain⟨q2,jw⟩:=exq (decide (yQ.map Ck.l=zP.map Ck.l));rw[jh] at HES;rw[jw] at HEC;obtain⟨res,a6⟩:=exq (jvd (Vl.mk yn ym yK yL yN yO yP yQ yR yS yT,Vl.mk zn zm zK zL zM zN zO zP zQ zR zS));have fQ:Hid ((decide (yn=zn) && (decide (ym=zm) && (q1 && (q2 && decide (yT.length=zS.length)))))=res):=by (
 show _=res
 rw[<- a6,<- jh,<- jw];rfl)
 clear jh jw;by_cases h1:yn=zn
 case neg=>(have k1:(yn == zn)=false:=jdc h1;rw[decide_eq_false h1] at fQ;clear h1;go_wp2_with fail;go_ret;exact⟨jzi (by rw[a6,<- fQ.out];rfl),hB⟩)
 have k1:(yn == zn)=true:=ibeq h1;rw[decide_eq_true h1] at fQ;clear h1;by_cases h2:ym=zm
 case neg=>(have k2:(ym == zm)=false:=jdc h2;rw[decide_eq_false h2] at fQ;clear h2;go_wp2_with fail;go_ret;exact⟨jzi (by rw[a6,<- fQ.out];rfl),hB⟩)
 have k2:(ym == zm)=true:=ibeq h2;rw[decide_eq_true h2] at fQ;clear h2;go_wp2_with fail;refine HES.out.mono ?_;clear HES;rintro e w2 ⟨rfl,ab⟩;have xt:=Lh (HEC.out w2 ab);clear HEC;replace hB:=hB.trans (ab.mono hB.size);replace a0:=(ab.cell (p:=⟨pa,0,none⟩) ig).trans a0;replace a1:=(ab.cell (p:=⟨pa,1,none⟩) ig).trans a1;replace a2:=(ab.cell (p:=⟨pa,2,none⟩) ig).trans a2;replace a3:=(ab.cell (p:=⟨pa,3,none⟩) ig).trans a3;replace a4:=(ab.cell (p:=⟨pa,4,none⟩) ig).trans a4;replace b0:=(ab.cell (p:=⟨pb,0,none⟩) cu).trans b0;replace b1:=(ab.cell (p:=⟨pb,1,none⟩) cu).trans b1;replace b2:=(ab.cell (p:=⟨pb,2,none⟩) cu).trans b2;replace b3:=(ab.cell (p:=⟨pb,3,none⟩) cu).trans b3;replace b4:=(ab.cell (p:=⟨pb,4,none⟩) cu).trans b4;replace ig:=ltl ig ab.size;replace cu:=ltl cu ab.size;clear ab;cases q1 with
 | false=>(go_wp2_with fail;go_ret;exact⟨jzi (by rw[a6,<- fQ.out];rfl),hB⟩)
 | true=>(
 go_wp2_with fail;refine xt.out.mono ?_;clear xt;rintro e w3 ⟨rfl,ab⟩;replace hB:=hB.trans (ab.mono hB.size);replace a0:=(ab.cell (p:=⟨pa,0,none⟩) ig).trans a0;replace a1:=(ab.cell (p:=⟨pa,1,none⟩) ig).trans a1;replace a2:=(ab.cell (p:=⟨pa,2,none⟩) ig).trans a2;replace a3:=(ab.cell (p:=⟨pa,3,none⟩) ig).trans a3;replace a4:=(ab.cell (p:=⟨pa,4,none⟩) ig).trans a4;replace b0:=(ab.cell (p:=⟨pb,0,none⟩) cu).trans b0;replace b1:=(ab.cell (p:=⟨pb,1,none⟩) cu).trans b1;replace b2:=(ab.cell (p:=⟨pb,2,none⟩) cu).trans b2;replace b3:=(ab.cell (p:=⟨pb,3,none⟩) cu).trans b3;replace b4:=(ab.cell (p:=⟨pb,4,none⟩) cu).trans b4;clear ab;cases q2 with
 | false=>(go_wp2_with fail;go_ret;exact⟨jzi (by rw[a6,<- fQ.out];rfl),hB⟩)
 | true=>(
 by_cases h5:yT.length=zS.length
 ·(have k5:((yT.length:Int) == (zS.length:Int))=true:=ibeq (by omega);rw[decide_eq_true h5] at fQ;clear h5;go_wp2_with fail;go_ret;exact⟨jzi (by rw[a6,<- fQ.out];rfl),hB⟩)
 ·(have k5:((yT.length:Int) == (zS.length:Int))=false:=jdc (by omega);rw[decide_eq_false h5] at fQ;clear h5;go_wp2_with fail;go_ret;exact⟨jzi (by rw[a6,<- fQ.out];rfl),hB⟩))))
open S2 (Sc isT jzf)
theorem inK_pre{w:World}:∀ (a b:Vl),InK w (a,b)->∀ x∈(jwe a b).pre,InK w x:=fun a b h x hx=>by
  have hg:=goodK (D:=w.heap.size) a b (h.1.bar (Nat.le_refl _)) (h.2.bar (Nat.le_refl _))
  have:=hg.all x hx
  exact⟨this.1.inn,this.2.inn⟩
theorem jrv{x:Vl×Vl}(h:jvd x=true):jw8 x:=by
 unfold jvd at h;simp only[Bool.and_eq_true,decide_eq_true_eq] at h;unfold jw8;omega
theorem jic(p:Vl×Vl->Bool)(a b:Vl):(jwe a b).pre.all p=(p (a,b) && (List.zipWith (fun x y=>(jwe x y).pre.all p) a.vs b.vs).all id):=by
 rw[jme,Nd.pre,List.all_cons];congr 1
 have h:∀ (l:List (Nd (Vl×Vl))),(Nd.preL l).all p=l.all fun t=>t.pre.all p:=fun l=>by (
 induction l with
 | nil=>rfl
 | cons t l ih=>rw[Nd.preL,List.all_append,ih,List.all_cons])
 rw[h];have h2:∀ (l l':List Vl),(List.zipWith jwe l l').all (fun t=>t.pre.all p)=(List.zipWith (fun x y=>(jwe x y).pre.all p) l l').all id:=fun l=>by (
 induction l with
 | nil=>intro l';simp
 | cons x l ih=>intro l';cases l' with
   | nil=>simp
   | cons y l'=>simp only[List.zipWith_cons_cons,List.all_cons,ih l',id])
 exact h2 _ _
theorem alike_mk(n m:Int)(sA:Option Addr)(sc:Nat)(ss:List Str)(cA:Option Addr)(cc:Nat)(cs:List Ck)(vA:Option Addr)(vc:Nat)(vs:List Vl)(n' m':Int)(sA':Option Addr)(sc':Nat)(ss':List Str)(cA':Option Addr)(cc':Nat)(cs':List Ck)(vA':Option Addr)(vc':Nat)(vs':List Vl) :
    jvd (Vl.mk n m sA sc ss cA cc cs vA vc vs,Vl.mk n' m' sA' sc' ss' cA' cc' cs' vA' vc' vs')=(decide (n=n') && (decide (m=m') && (decide (ss=ss') && (decide (cs.map Ck.l=cs'.map Ck.l) && decide (vs.length=vs'.length))))):=rfl
theorem same_all:∀ (a b:Vl),(jwe a b).pre.all jvd=decide (a.er=b.er):=by
 intro a;induction a using Vl.ind with
 | h n m sA sc ss cA cc cs vA vc vs ih=>(
 rintro ⟨n',m',sA',sc',ss',cA',cc',cs',vA',vc',vs'⟩;rw[jic,jzw,jzw];have hz:∀ (l l':List Vl),(∀ x∈l,∀ b,(jwe x b).pre.all jvd=decide (x.er=b.er))->l.length=l'.length->(List.zipWith (fun x y=>(jwe x y).pre.all jvd) l l').all id=decide (l.map Vl.er=l'.map Vl.er):=fun l=>by (
 induction l with
 | nil=>intro l' _ hl;cases l' with
   | nil=>rfl
   | cons y l'=>simp at hl
 | cons x l ihl=>intro l' hx hl;cases l' with
   | nil=>simp at hl
   | cons y l' =>
     simp only[List.zipWith_cons_cons,List.all_cons,id,List.map_cons]
     rw[hx x (by simp) y]
     have:=ihl l' (fun z hz=>hx z (List.mem_cons_of_mem _ hz)) (by simpa using hl)
     rw[show (List.zipWith (fun x y=>(jwe x y).pre.all jvd) l l').all id=decide (l.map Vl.er=l'.map Vl.er) from this,<- Bool.decide_and]
     refine decide_eq_decide.2 ?_
     rw[List.cons.injEq])
 rw[alike_mk];simp only[Vl.vs];by_cases hl:vs.length=vs'.length
 ·(
 rw[hz vs vs' ih hl,<- Bool.decide_and,<- Bool.decide_and,<- Bool.decide_and,<- Bool.decide_and,<- Bool.decide_and];refine decide_eq_decide.2 ?_;rw[jqp];constructor
 ·rintro ⟨⟨h1,h2,h3,h4,_⟩,h5⟩;exact⟨h1,h2,h3,h4,h5⟩
 ·rintro ⟨h1,h2,h3,h4,h5⟩;exact⟨⟨h1,h2,h3,h4,hl⟩,h5⟩)
 ·(rw[decide_eq_false hl];simp only[Bool.and_false,Bool.false_and];refine (decide_eq_false fun h=>hl ?_).symm;rw[jqp] at h;have:=congrArg List.length h.2.2.2.2;simpa using this))
theorem jb7(a b:Vl)(w:World)(ha:a.In w)(hb:b.In w):Calls Tryz.prog 33 #[a.val,b.val] w (jz6 w (.bool (decide (a.er=b.er)))):=by
 obtain⟨V,hV⟩:=exq (((w.alloc (.cells #[.int .u64 a.n,.int .u64 a.m,a.s1,a.c1,a.v1] 30)).alloc (.cells #[.int .u64 b.n,.int .u64 b.m,b.s1,b.c1,b.v1] 30)));have cm:Below w.heap.size w V:=by rw[<- hV];exact jzk (jzk (Below.refl _ _))
 have nW:∀ i u,(#[.int .u64 a.n,.int .u64 a.m,a.s1,a.c1,a.v1]:Array Value)[i]?=some u->V.cell? ⟨w.heap.size,i,none⟩=some u:=fun i u h=>by (rw[<- hV];exact ((jq3 (Below.refl (w.heap.size+1) (w.alloc (.cells #[.int .u64 a.n,.int .u64 a.m,a.s1,a.c1,a.v1] 30))) (by simp)).cell (p:=⟨w.heap.size,i,none⟩) (by simp)).trans (jzs i u h))
 have jl:∀ i u,(#[.int .u64 b.n,.int .u64 b.m,b.s1,b.c1,b.v1]:Array Value)[i]?=some u->V.cell? ⟨w.heap.size+1,i,none⟩=some u:=fun i u h=>by (rw[<- hV];exact jqt i u h)
 have bx:InK V (a,b):=⟨ha.later cm,hb.later cm⟩;have hn:=nested_K (jwe a b) V (fun D hD=>goodK a b (bx.1.bar hD) (bx.2.bar hD));rw[jur] at hn;have HN:=Lh hn;have HE:Hid (∀ (b1 b2:Nat) (w':World),Below V.heap.size V w'->(∀ D w2,Below w'.heap.size w' w2->V.heap.size<=D->D<w2.heap.size->jf8 Tryz.prog 105 #[.pointer (some ⟨b1,0,none⟩),.pointer (some ⟨b2,0,none⟩)] jrx D jw8 (jwe a b).pre w2) ->
     Calls Tryz.prog 64 #[.func (.func 105) #[] #[.pointer (some ⟨b1,0,none⟩),.pointer (some ⟨b2,0,none⟩)],.func (.func 67) #[] #[]] w' (jz6 w' (.bool (decide (a.er=b.er))))):=fun b1 b2 w' ar hs=>by
   rw[<- same_all]
   exact jd8 jvd (jwe a b).pre (fun y _ W hW=>jid y W hW) jw8 (fun y _ h=>jrv h) _ _ (enters_of Tryz.func105 (by kernel_rfl) rfl) w'
     (fun D w2 ab hD eK=>hs D w2 ab (leT ar.size hD) eK) (fun y hy=>inK_pre a b (bx.later ar) y hy)
 obtain⟨R,hR⟩:=exq (decide (a.er=b.er));rw[hR] at HE ⊢;clear bx ha hb hn hR;have a0:=nW 0 _ rfl;have a1:=nW 1 _ rfl;have a2:=nW 2 _ rfl;have a3:=nW 3 _ rfl;have a4:=nW 4 _ rfl;have g0:=jl 0 _ rfl;have g1:=jl 1 _ rfl;have g2:=jl 2 _ rfl;have g3:=jl 3 _ rfl;have g4:=jl 4 _ rfl;clear nW jl;obtain⟨yn,ym,yK,yL,yN,yO,yP,yQ,yR,yS,yT⟩:=a;obtain⟨n,m,sA,sc,ss,cA,cc,cs,vA,vc,vs⟩:=b;simp only[jzh,jpo,jqy,Vl.n,Vl.m,Vl.s1,Vl.c1,Vl.v1] at a0 a1 a2 a3 a4 g0 g1 g2 g3 g4 HN hV ⊢;go_enter Tryz.func33,Tryz.ntmps33;go_wp2_with fail;clear hV;refine HN.out.mono ?_;clear HN;rintro e w4 ⟨b1,b2,rfl,ca,bw⟩;have HE4:=Lh (HE.out b1 b2 w4 ca bw);clear HE bw;go_wp2_with fail;refine HE4.out.mono ?_;rintro e w5 ⟨rfl,bh⟩;go_wp2_with fail;go_ret;exact⟨rfl,cm.trans ((ca.trans (bh.mono ca.size)).mono cm.size)⟩
theorem jpl(s:Sc)(v:Vl)(w:World)(hs:s.In w.heap.size w)(hv:v.In w):Calls Tryz.prog 20 #[s.val,v.val] w (jz6 w (.bool (isT 16 s.er && isV s.er v.er))):=by
 have:=Is_walk s v w hs hv;cases h:isT 16 s.er with
 | false=>rw[h] at this;exact this
 | true=>rw[h,ju7 v s 16 (Nat.le_refl _) h] at this;exact this
end V4
namespace V4
open Go.RowKit Go.Shelf
open C3 (Tk isC jzk)
open S2 (Sc isT jzf)
attribute [local go_sem] Oper.semAt_some
end V4
namespace V4
open Go.RowKit Go.Shelf
open C3 (Tk isC jzk jqz)
open S2 (Sc isT jzf)
open C3 (Tk isC jzk)
open S2 (Sc Tr isT jzf)
def Bxd(W:World)(b:Nat)(cs:Array Value):Prop:=b<W.heap.size/\∀ i v,cs[i]?=some v->W.cell? ⟨b,i,none⟩=some v
theorem _root_.Go.Proofs.YtobggoephhjofaaGreatDoor.bx5 {W:World} {X:Nat} {a b c d e:Value} (h:Bxd W X #[a,b,c,d,e]):W.cell? ⟨X,0,none⟩=some a/\W.cell? ⟨X,1,none⟩=some b/\W.cell? ⟨X,2,none⟩=some c/\W.cell? ⟨X,3,none⟩=some d/\W.cell? ⟨X,4,none⟩=some e:=⟨h.2 0 _ rfl,h.2 1 _ rfl,h.2 2 _ rfl,h.2 3 _ rfl,h.2 4 _ rfl⟩
theorem _root_.Go.Proofs.YtobggoephhjofaaGreatDoor.bx2 {W:World} {X:Nat} {a b:Value} (h:Bxd W X #[a,b]):W.cell? ⟨X,0,none⟩=some a/\W.cell? ⟨X,1,none⟩=some b:=⟨h.2 0 _ rfl,h.2 1 _ rfl⟩
theorem Bxd.later{W W':World}{b:Nat}{cs:Array Value}(h:Bxd W b cs)(hb:Below W.heap.size W W'):Bxd W' b cs:=⟨ltl h.1 hb.size,fun i v hv=>(hb.cell (p:=⟨b,i,none⟩) h.1).trans (h.2 i v hv)⟩
theorem Bxd.new{W:World}{cs:Array Value}{t:TypeId}:Bxd (W.alloc (.cells cs t)) W.heap.size cs:=⟨by simp,fun i v h=>jzs i v h⟩
theorem Bxd.al{W:World}{b:Nat}{cs:Array Value}(h:Bxd W b cs)(o:Obj):Bxd (W.alloc o) b cs:=h.later (jzf W o)
def jfk(k:Int):Sc := .mk k none 0 []
def vlNum(n:Int):Vl := .mk n 0 none 0 [] none 0 [] none 0 []
theorem jkp(k:Int)(P:Nat->Prop)(W:World):(jfk k).Inp P W := .mk _ _ _ _ (.inl rfl) (by simp) (by simp) (by simp) (by simp)
theorem jlr(n:Int)(hn:0<=n/\n<=18446744073709551615)(P:Nat->Prop)(W:World):(vlNum n).Inp P W :=
  .mk _ _ _ _ _ _ _ _ _ _ _ hn (by omega) .nil (by simp[maxLen]) (by simp) .nil (by simp[maxLen]) (by simp) .nil (by simp[maxLen]) (by simp)
def jji(n b:Nat)(ss:List Str):Vl := .mk n 0 (some ⟨b,0,none⟩) ss.length ss none 0 [] none 0 []
theorem jkz{W:World}{b:Nat}{ss:List Str}{cs:Array Value}(n:Nat)(hn:n<=1000)(h:Bxd W b cs)(fq:cs=(jx4 ss).toArray)(hl:ss.length<=1000)(ht:∀ s∈ss,s.length<=1000):(jji n b ss).In W:=by
 refine .mk _ _ _ _ _ _ _ _ _ _ _ (by omega) (by omega) (.inr ⟨b,0,rfl,h.1,fun i u hu=>?_⟩) (by simp[maxLen];omega) (fun s hs=>by have:=ht s hs;unfold maxLen;omega) .nil (by simp[maxLen]) (by simp) .nil (by simp[maxLen]) (by simp);rw[Nat.zero_add];exact h.2 i u (by rw[fq];simpa using hu)
def scRow(k:Int)(b:Nat)(l:List Sc):Sc := .mk k (some ⟨b,0,none⟩) l.length l
theorem scRow_in{W:World}{b:Nat}{l:List Sc}{cs:Array Value}(k:Int)(h:Bxd W b cs)(fq:cs=(l.flatMap fun s=>[.int .i64 s.k,s.v1]).toArray)(hl:l.length<=1000)(bx:∀ s∈l,s.In W.heap.size W):(scRow k b l).In W.heap.size W:=by
 refine .mk _ _ _ _ (.inr ⟨b,0,rfl,h.1,fun i s hs=>?_⟩) (Nat.le_refl _) (by omega) (by omega) bx;have hc:∀ (l:List Sc) (i:Nat) (s:Sc),l[i]?=some s->(l.flatMap fun s=>[Value.int .i64 s.k,s.v1])[i*2]?=some (.int .i64 s.k)/\(l.flatMap fun s=>[Value.int .i64 s.k,s.v1])[i*2+1]?=some s.v1:=fun l=>by (
 induction l with
 | nil=>intro i s h;simp at h
 | cons y l ih=>(
 intro i s h;cases i with
 | zero=>simp at h;subst h;simp
 | succ i=>(have:=ih i s (by simpa using h);rw[show (i+1)*2=i*2+1+1 by omega];simpa using this)))
 obtain⟨h0,h1⟩:=hc l i s hs;rw[Nat.zero_add];exact⟨h.2 _ _ (by rw[fq];simpa using h0),h.2 _ _ (by rw[fq];simpa using h1)⟩
end V4
namespace J5
open Go.RowKit Go.Shelf
open C3 (Tk In jzk jzf jzx)
open S2 (Sc Tr isT)
open V4 (Va Vl Ck isV jzh jzw)
def RetX(P:Nat->Prop)(w:World)(o:Va)(e:Ending)(w':World):Prop:=∃ z:Vl,e = .returned z.val/\z.er=o/\z.Inp (fun b=>(P b\/w.heap.size<=b)/\b<w'.heap.size) w'/\Below w.heap.size w w'
theorem jjn(P:Nat->Prop)(k:Ck)(w:World)(h:k.Inp P w)(hP:∀ b,P b->b<w.heap.size):Calls Tryz.prog 51 #[k.v] w (RetX P w (if k.l=[] then .zero else .mk 0 0 [] [k.l] [])):=by
 obtain⟨A,c,l⟩:=k;unfold Ck.v;simp only;by_cases h0:l=[]
 ·(subst h0;rw[if_pos rfl];simp only[List.length_nil];go_enter Tryz.func51,Tryz.ntmps51;go_wp2_with fail;refine bodyPost_ret (V4.jzv rfl _ _ w.heap.size (.int .u64 0) (.int .u64 0) (.slice none 0 0) (.slice none 0 0) (.slice none 0 0) rfl (by go_simp) (by go_simp) (by go_simp) (by go_simp) (by go_simp)) rfl ?_;exact⟨.mk 0 0 none 0 [] none 0 [] none 0 [],rfl,by rw[jzw];rfl,V4.jxy _ _,jzk (Below.refl _ _)⟩)
 ·(
 rw[if_neg h0];have hg:(((l.length:Nat):Int) == 0)=false:=beq_eq_false_iff_ne.2 (by have:=List.length_pos_iff.2 h0;omega);have HI:=Lh h;clear h h0;go_enter Tryz.func51,Tryz.ntmps51;go_wp2_with fail;refine bodyPost_ret (V4.jzv rfl _ _ w.heap.size (.int .u64 0) (.int .u64 0) (.slice none 0 0) (.slice (some ⟨w.heap.size+1,0,none⟩) 1 1) (.slice none 0 0) rfl (by go_simp) (by go_simp) (by go_simp) (by go_simp) (by go_simp)) rfl ?_;have hX:=V4.Bxd.new (W:=w.alloc (.cells #[.int .u64 0,.int .u64 0,.slice none 0 0,.slice (some ⟨w.heap.size+1,0,none⟩) 1 1,.slice none 0 0] 30)) (cs:=#[.slice A l.length c]) (t:=54);rw[World.size_alloc] at hX;have hb:Below w.heap.size w ((w.alloc (.cells #[.int .u64 0,.int .u64 0,.slice none 0 0,.slice (some ⟨w.heap.size+1,0,none⟩) 1 1,.slice none 0 0] 30)).alloc (.cells #[.slice A l.length c] 54)):=jzk (jzk (Below.refl _ _));refine⟨.mk 0 0 none 0 [] (some ⟨w.heap.size+1,0,none⟩) 1 [⟨A,c,l⟩] none 0 [],rfl,by rw[jzw];rfl,?_,hb⟩;refine .mk _ _ _ _ _ _ _ _ _ _ _ (by omega) (by omega) .nil (by simp[maxLen]) (by simp) (.inr ⟨w.heap.size+1,0,rfl,⟨.inr (Nat.le_succ _),hX.1⟩,fun i u hu=>?_⟩) (by simp[maxLen]) (fun k fC=>?_) .nil (by simp[maxLen]) (by simp)
 ·(rw[Nat.zero_add];exact hX.2 i u (by simpa[V4.jzl,Ck.v] using hu))
 ·(rw[List.mem_singleton.1 fC];exact (HI.out.keep fun b hlt=>hb.block b (hP b hlt)).mono fun b hlt=>⟨.inl hlt,ltl (hP b hlt) hb.size⟩))
end J5
namespace J5
open Go.RowKit Go.Shelf
open V4 (KF Ab jqh)
structure KP (N B:Nat) (X:Nat->Prop) (W W':World):Prop where
  size:W.heap.size<=W'.heap.size
  same:∀ (b:Nat) (o:Obj),W.heap[b]?=some o->(b<N\/(B<=b/\¬ X b))->W'.heap[b]?=some o
structure KJ (B:Nat) (X:Nat->Prop) (W W':World):Prop where
  bel:Below B W W'
  same:∀ (b:Nat) (o:Obj),W.heap[b]?=some o->X b->W'.heap[b]?=some o
def Grow(n:Nat)(X X':Nat->Prop):Prop:=∀ b,X' b->X b\/n<=b
section
variable {N B:Nat} {F:Nat->Prop} {W W' X Y Z:World}
theorem KP.trans(h:KP N B F X Y)(k:KP N B F Y Z):KP N B F X Z:=⟨leT h.size k.size,fun b o h1 h2=>k.same b o (h.same b o h1 h2) h2⟩
theorem KP.mono{B':Nat}(h:KP N B F W W')(hB:B<=B'):KP N B' F W W':=⟨h.size,fun b o h1 h2=>h.same b o h1 (h2.imp id fun h=>⟨leT hB h.1,h.2⟩)⟩
theorem KP.of_below(h:Below W.heap.size W W'):KP N B F W W':=⟨h.size,fun b _ h1 _=>(h.block b (Array.getElem?_eq_some_iff.1 h1).1).trans h1⟩
theorem KP.put{l:Nat}(h1:N<=l)(h2:l<B)(o':Obj):KP N B F W (W.putObj l o'):=⟨by simp,fun b o2 h3 h4=>by rw[World.putObj_heap_other (by rcases h4 with h | ⟨h,_⟩ <;> omega)];exact h3⟩
theorem KP.low(h:KP N B F W W'){b:Nat}(hb:b<N)(hW:b<W.heap.size):W'.heap[b]?=W.heap[b]?:=by
 rw[Array.getElem?_eq_getElem hW];exact h.same b _ (Array.getElem?_eq_getElem hW) (.inl hb)
theorem KJ.trans(h:KJ B F X Y)(k:KJ B F Y Z):KJ B F X Z:=⟨h.bel.trans k.bel,fun b o h1 h2=>k.same b o (h.same b o h1 h2) h2⟩
theorem KJ.mono{B':Nat}(h:KJ B F W W')(hB:B'<=B):KJ B' F W W':=⟨h.bel.mono hB,h.same⟩
theorem KJ.of_below(h:Below W.heap.size W W')(hB:B<=W.heap.size):KJ B F W W':=⟨h.mono hB,fun b _ h1 _=>(h.block b (Array.getElem?_eq_some_iff.1 h1).1).trans h1⟩
theorem KJ.later(h:KJ B F X Y)(hb:Below Y.heap.size Y Z)(hB:B<=Y.heap.size):KJ B F X Z:=h.trans (KJ.of_below hb hB)
theorem KJ.put{l:Nat}(hl:¬ F l)(hB:B<=l)(o':Obj):KJ B F W (W.putObj l o') :=
  ⟨⟨rfl,rfl,rfl,by simp,fun k hk=>World.putObj_heap_other (by omega)⟩,fun b o2 h1 h2=>by
    have hne:b≠l:=fun e=>hl (by rw[<- e];exact h2)
    rw[World.putObj_heap_other hne];exact h1⟩
end
def AbJ(B:Nat)(J:Nat->(Nat->Prop)->World->Prop):Prop:=∀ k X W W',J k X W->KJ B X W W'->J k X W'
def jrz{α:Type}(P:Program)(g:Nat)(lb:Array Value)(encs:α->Array Value)(N:Nat)(zs:List α)(w:World):Prop :=
  ∀ (l:Nat) (J:Nat->(Nat->Prop)->World->Prop) (Jx:Nat->World->Prop) (W:World),Below w.heap.size w W->AbJ W.heap.size J->Ab W.heap.size Jx ->
    (∀ k X x W1,zs[k]?=some x->J k X W1->W.heap.size<=W1.heap.size->YieldAt Fence.wide 0 P l (encs x) W1 fun e W' =>
      (e = .returned (.bool true)/\∃ X',Grow W1.heap.size X X'/\J (k+1) X' W'/\KP N W.heap.size X W1 W')\/(e = .returned (.bool false)/\Jx k W'/\KF W.heap.size W1 W')) ->
    J 0 (fun _=>False) W ->
    Calls P g (#[.func (.yield l) #[] #[]]++lb) W fun e W'=>(∃ v,e = .returned v)/\((∃ X,J zs.length X W')\/∃ k,k<zs.length/\Jx k W')
theorem jrz.later{α:Type}{P:Program}{g:Nat}{lb:Array Value}{encs:α->Array Value}{N:Nat}{zs:List α}{w w':World}(h:jrz P g lb encs N zs w)(hb:Below w.heap.size w w'):jrz P g lb encs N zs w' :=
  fun l J Jx W hW=>h l J Jx W (hb.trans (hW.mono hb.size))
def postP(N B:Nat)(X:Nat->Prop)(I:Nat->(Nat->Prop)->World->Prop)(Ix:Code->Nat->World->Prop)(k:Nat)(W:World):Exit->Act->World->Prop
  | .normal,_,W'=>KP N B X W W'/\∃ X',Grow W.heap.size X X'/\I (k+1) X' W'
  | .ret,_,W'=>KF B W W'/\Ix .ret k W'
  | .exit id,_,W'=>KF B W W'/\Ix (.exit id) k W'
  | .goto t,_,W'=>KF B W W'/\Ix (.goto t) k W'
  | .panic _,_,_=>False
  | .outgrown,_,_=>False
theorem jgs{α:Type}{n:Nat}{P:Program}{g:Operand}{ps:Array Tmp}{assign body:Code}{Q:Exit->Act->World->Prop}{a:Act}{w:World}{gf:Nat}{lb:Array Value}(hg:a.eval g = .func (.func gf) #[] lb)(eg:Enters P gf){encs:α->Array Value}{N:Nat}(hN:N<=w.heap.size){zs:List α}(bw:jrz P gf lb encs N zs w)(hps:∀ x,(encs x).size=ps.size)(I:Nat->(Nat->Prop)->World->Prop)(Ix:Code->Nat->World->Prop)(hI:AbJ w.heap.size I)(sP:∀ c,Ab w.heap.size (Ix c))(h0:I 0 (fun _=>False) w)(Ax:α->Act->World->Prop)(hAx:∀ x a',OwnFrom w.heap.size (fun (_:Unit) W=>Ax x a' W))(iS:∀ (l k:Nat) (x:α) (W:World) (K:Act->World->Prop),zs[k]?=some x->(∀ a' W',Below W.heap.size W W'->Ax x a' W'->K a' W')->assign.wpIn (Fence.wide.inRound l) 0 P (Exit.then K (fun _ _ _=>False)) { tmps:=(ps.zip (encs x)).foldl (fun t (p,v)=>t.setIfInBounds p v) a.tmps,defers:=[] } W)(nf:∀ (l k:Nat) (X:Nat->Prop) (x:α) (a':Act) (W:World),w.heap.size<=W.heap.size->zs[k]?=some x->I k X W->Ax x a' W->body.wpIn (Fence.wide.inRound l) 0 P (postP N w.heap.size X I Ix k W) a' W)(mV:∀ (E:Nat) (X:Nat->Prop) (W:World),w.heap.size<=E->¬ X E->I zs.length X W->W.heap[E]?=some (.deferred (some []))->Q .normal { a with defers:={ target := .collected E,args:=#[] } :: a.defers } W)(mB:∀ (E:Nat) (c:Code) (k:Nat) (W:World),w.heap.size<=E->k<zs.length->Ix c k W->W.heap[E]?=some (.deferred (some []))->c.wpIn Fence.wide n P Q { a with defers:={ target := .collected E,args:=#[] } :: a.defers } W):(Code.rangeFunc g ps assign body).wpIn Fence.wide n P Q a w:=by
 refine wpIn_rangeFunc fun fn hfn=>?_
 show ∃ _ _ _ _ _ _ _ _,_
 obtain⟨R,hR⟩:∃ R:LoopState->Option Code->Obj,R=fun st pe => .loop { state:=st,pending:=pe,fn,tmps:=a.tmps,params:=ps,assign,body,defers:=w.heap.size }:=⟨_,rfl⟩
 have t7:∀ st pe,(R st pe).isCells=false:=fun st pe=>by rw[hR];rfl
 obtain⟨V,hV⟩:=exq ((w.alloc (.deferred (some []))).alloc (R .ready none));have ae:V.heap.size=w.heap.size+2:=by rw[<- hV];simp
 have ai:Below w.heap.size w V:=by rw[<- hV];exact ((Below.refl _ w).alloc (Nat.le_refl _) _).alloc (by simp) _
 have rr:V.heap[w.heap.size+1]?=some (R .ready none):=by rw[<- hV];have:=World.alloc_heap_new (w.alloc (.deferred (some []))) (R .ready none);rwa [World.size_alloc] at this
 have sj:V.heap[w.heap.size]?=some (.deferred (some [])):=by rw[<- hV];exact (Below.heap_alloc _ _ _ (by simp)).trans (World.alloc_heap_new w _)
 -- a turn of the record leaves what is below
 have turn:∀ (F:Nat->Prop) (X:World) (o:Obj),¬ F (w.heap.size+1)->KJ w.heap.size F X (X.putObj (w.heap.size+1) o):=fun F X o h=>KJ.put h (by omega) o
 have turnB:∀ (X:World) (o:Obj),Below w.heap.size X (X.putObj (w.heap.size+1) o):=fun X o=>⟨rfl,rfl,rfl,by simp,fun k hk=>World.putObj_heap_other (by omega)⟩
 refine⟨w.heap.size+1,[{ target := .collected w.heap.size,args:=#[] }],V,{ target := .fn (.func gf) lb,args:=#[.func (.yield (w.heap.size+1)) #[] #[]] },V,gf,
   #[.func (.yield (w.heap.size+1)) #[] #[]]++lb,V,?_,?_,?_,?_,fun h=>absurd h (by simp[Fence.wide]),callsIn_wide.2 ?_⟩
 ·rw[<- hV,hR];exact run_enterLoop_outer _ _ _ _ _
 ·(simp only[resolve,hg];simp[go_sem])
 ·intro f' _;trivial
 ·(
 simp[invoke,go_sem]
 exact eg _ _)
 ·(
 refine (bw (w.heap.size+1)
   (fun k F W=>I k F W/\W.heap[w.heap.size+1]?=some (R .ready none)/\W.heap[w.heap.size]?=some (.deferred (some []))/\¬ F (w.heap.size+1)/\¬ F w.heap.size)
   (fun k W=>∃ c,Ix c k W/\W.heap[w.heap.size+1]?=some (R .done (some c))/\W.heap[w.heap.size]?=some (.deferred (some [])))
   V ai ?_ ?_ ?_ ⟨hI _ _ _ _ h0 (KJ.of_below ai (Nat.le_refl _)),rr,sj,id,id⟩).mono ?_
 ·(rintro k F X Y ⟨h1,h2,h3,h4,h5⟩ hb;exact⟨hI _ _ _ _ h1 (hb.mono (by omega)),(hb.bel.block _ (by omega)).trans h2,(hb.bel.block _ (by omega)).trans h3,h4,h5⟩)
 ·(rintro k X Y ⟨c,h1,h2,h3⟩ hb;exact⟨c,sP c _ _ _ h1 (hb.mono (by omega)),(hb.block _ (by omega)).trans h2,(hb.block _ (by omega)).trans h3⟩)
 ·(
 rintro k F x X hx ⟨hi,hl,hd,nF1,nF0⟩ nr;have hy:=run_yield (P:=P) (args:=encs x) (l:=w.heap.size+1) (by rw[hR] at hl;exact hl) (hps x);refine⟨fn,_,assign,body,hy,roundIn_of_wpIn trivial (iS _ k x X _ hx ?_)⟩;intro a' Y du hax;have nS:Y.heap[w.heap.size+1]?=some (R .ready none):=(du.block _ (by omega)).trans hl;have hdY:Y.heap[w.heap.size]?=some (.deferred (some [])):=(du.block _ (by omega)).trans hd;have rA:w.heap.size+1<Y.heap.size:=(Array.getElem?_eq_some_iff.1 nS).1;have sv:(Instr.beginRound (w.heap.size+1)).run P Y = .ok () (Y.putObj (w.heap.size+1) (R .busy none)):=by (rw[hR] at nS ⊢;exact run_beginRound nS rfl)
 refine⟨_,sv,?_⟩;have hiZ:I k F (Y.putObj (w.heap.size+1) (R .busy none)):=hI _ _ _ _ hi ((KJ.of_below du (by omega)).trans (turn _ _ _ nF1));have v5:(Y.putObj (w.heap.size+1) (R .busy none)).heap[w.heap.size+1]?=some (R .busy none):=World.putObj_heap_same rA;have wt:(Y.putObj (w.heap.size+1) (R .busy none)).heap[w.heap.size]?=some (.deferred (some [])):=(World.putObj_heap_other (by omega)).trans hdY;have hkZ:KP N V.heap.size F X (Y.putObj (w.heap.size+1) (R .busy none)):=(KP.of_below du).trans (KP.put (by omega) (by omega) _);have hkZf:KF V.heap.size X (Y.putObj (w.heap.size+1) (R .busy none)):=(KF.of_below du).trans (KF.put (by omega) _);have iN:∀ (jump:Option Code) (Z:World),Z.heap[w.heap.size+1]?=some (R .busy none) ->
     (Instr.endRound (w.heap.size+1) jump).run P Z = .ok (.bool jump.isNone) (Z.putObj (w.heap.size+1) (R (if jump.isNone then .ready else .done) jump)):=fun jump Z hz=>by
   rw[hR] at hz ⊢
   exact run_endRound jump hz
 refine wpIn_mono (nf _ k F x a' _ (by simp;omega) hx hiZ ((hAx x a').putObj (s:=()) _ hax (by omega) nS (t7 _ _))) ?_;have leave:∀ (c:Code) (Z:World),KF w.heap.size (Y.putObj (w.heap.size+1) (R .busy none)) Z->Ix c k Z->∃ v w',(Instr.endRound (w.heap.size+1) (some c)).run P Z = .ok v w' /\
     ((Ending.returned v = .returned (.bool true)/\∃ F',Grow X.heap.size F F'/\(I (k+1) F' w'/\w'.heap[w.heap.size+1]?=some (R .ready none)/\w'.heap[w.heap.size]?=some (.deferred (some []))/\¬ F' (w.heap.size+1)/\¬ F' w.heap.size)/\KP N V.heap.size F X w') \/
       (Ending.returned v = .returned (.bool false)/\(∃ c,Ix c k w'/\w'.heap[w.heap.size+1]?=some (R .done (some c))/\w'.heap[w.heap.size]?=some (.deferred (some [])))/\KF V.heap.size X w')):=fun c Z hk hi=>by
   have h1:=hk.same _ _ (by omega) v5
   have h2:=hk.same _ _ (Nat.le_refl _) wt
   exact⟨_,_,iN (some c) Z h1,.inr ⟨rfl,⟨c,sP c _ _ _ hi (turnB _ _),World.putObj_heap_same (Array.getElem?_eq_some_iff.1 h1).1,(World.putObj_heap_other (by omega)).trans h2⟩,
     hkZf.trans ((hk.mono (by omega)).trans (KF.put (by omega) _))⟩⟩
 rintro e a3 Z hp;cases e with
 | normal=>(
 obtain⟨hk,F',nV,hi3⟩:=hp;have sh:Grow X.heap.size F F':=fun b hb=>(nV b hb).imp id fun h=>leT du.size (by simpa using h)
 have hlX:w.heap.size+1<X.heap.size:=by omega
 have nG1:¬ F' (w.heap.size+1):=fun h=>by rcases sh _ h with h | h;exact nF1 h;omega
 have nG0:¬ F' w.heap.size:=fun h=>by rcases sh _ h with h | h;exact nF0 h;omega
 have h1:=hk.same _ _ v5 (.inr ⟨by omega,nF1⟩);have h2:=hk.same _ _ wt (.inr ⟨Nat.le_refl _,nF0⟩);exact⟨_,_,iN none Z h1,.inl ⟨rfl,F',sh,⟨hI _ _ _ _ hi3 (turn _ _ _ nG1),World.putObj_heap_same (Array.getElem?_eq_some_iff.1 h1).1,(World.putObj_heap_other (by omega)).trans h2,nG1,nG0⟩,
   hkZ.trans ((hk.mono (by omega)).trans (KP.put (by omega) (by omega) _))⟩⟩)
 | ret=>exact leave .ret Z hp.1 hp.2
 | exit id=>exact leave (.exit id) Z hp.1 hp.2
 | goto t=>exact leave (.goto t) Z hp.1 hp.2
 | panic ch=>exact hp.elim
 | outgrown=>exact hp.elim)
 ·(
 rintro e X ⟨⟨v,rfl⟩,⟨F,hi,hl,hd,nF1,nF0⟩ | ⟨k,hk,c,hi,hl,hd⟩⟩
 ·(refine⟨none,_,by rw[hR] at hl;exact run_endLoop hl (by simp),?_⟩;exact mV _ _ _ (Nat.le_refl _) nF0 (hI _ _ _ _ hi (turn _ _ _ nF1)) ((World.putObj_heap_other (by omega)).trans hd))
 ·(refine⟨some c,_,by rw[hR] at hl;exact run_endLoop hl (by simp),?_⟩;exact mB _ c k _ (Nat.le_refl _) hk (sP c _ _ _ hi (turnB _ _)) ((World.putObj_heap_other (by omega)).trans hd))))
end J5
end Go.Proofs.YtobggoephhjofaaGreatDoor
namespace Go.Proofs
open Go.Shelf
def Tryz.lays213_ren : Go.Shelf.Ren := ⟨fun | 213 => 121 | 265 => 153 | n => n, fun | 9 => 9 | 3 => 3 | n => n, fun | n => n⟩
theorem Tryz.lays213 : Go.Proofs.Lays.n213 Tryz.prog Tryz.lays213_ren := {
  mixed := by kernel_rfl
  f213 := Tryz.func121.trans (congrArg some (by kernel_rfl))
  f265 := Tryz.func153.trans (congrArg some (by kernel_rfl))
  t3 := Tryz.underlying3
  a3 := Tryz.isAgg3
  z3 := Tryz.sizeOf3
  v3 := Tryz.zeroValue3
  t9 := Tryz.underlying9
  a9 := Tryz.isAgg9
  z9 := Tryz.sizeOf9
  v9 := Tryz.zeroValue9 }
open Go.RowKit in
theorem Tryz.bytealg_CompareString (a b : ByteArray) (w : World) :
    Calls Tryz.prog 121 #[.string a, .string b] w fun e w' => e = .returned (.int .i64 (Lib.compareBytes a.data.toList b.data.toList)) ∧ w' = w := Any.bytealg_CompareString Tryz.lays213 a b w
def Tryz.lays106_ren : Go.Shelf.Ren := ⟨fun | 106 => 76 | 213 => 121 | 265 => 153 | n => n, fun | 9 => 9 | 3 => 3 | n => n, fun | n => n⟩
theorem Tryz.lays106 : Go.Proofs.Lays.n106 Tryz.prog Tryz.lays106_ren := {
  mixed := by kernel_rfl
  f106 := Tryz.func76.trans (congrArg some (by kernel_rfl))
  f213 := Tryz.func121.trans (congrArg some (by kernel_rfl))
  f265 := Tryz.func153.trans (congrArg some (by kernel_rfl))
  t3 := Tryz.underlying3
  a3 := Tryz.isAgg3
  z3 := Tryz.sizeOf3
  v3 := Tryz.zeroValue3
  t9 := Tryz.underlying9
  a9 := Tryz.isAgg9
  z9 := Tryz.sizeOf9
  v9 := Tryz.zeroValue9 }
open Go.RowKit in
theorem Tryz.strings_Compare (a b : ByteArray) (w : World) :
    Calls Tryz.prog 76 #[.string a, .string b] w fun e w' => e = .returned (.int .i64 (Lib.compareBytes a.data.toList b.data.toList)) ∧ w' = w := Any.strings_Compare Tryz.lays106 a b w
def Tryz.lays215_ren : Go.Shelf.Ren := ⟨fun | 215 => 168 | n => n, fun | 3 => 3 | 4 => 4 | n => n, fun | n => n⟩
theorem Tryz.lays215 : Go.Proofs.Lays.n215 Tryz.prog Tryz.lays215_ren := {
  mixed := by kernel_rfl
  f215 := Tryz.func168.trans (congrArg some (by kernel_rfl))
  t3 := Tryz.underlying3
  a3 := Tryz.isAgg3
  z3 := Tryz.sizeOf3
  v3 := Tryz.zeroValue3
  t4 := Tryz.underlying4
  a4 := Tryz.isAgg4
  z4 := Tryz.sizeOf4
  v4 := Tryz.zeroValue4 }
open Go.RowKit in
theorem Tryz.cmp_isNaN_int (x : Int) (w : World) :
    Calls Tryz.prog 168 #[.int .i64 x] w fun e w' => e = .returned (.bool false) ∧ w' = w := Any.cmp_isNaN_int Tryz.lays215 x w
def Tryz.lays122_ren : Go.Shelf.Ren := ⟨fun | 122 => 156 | 215 => 168 | n => n, fun | 3 => 3 | 4 => 4 | n => n, fun | n => n⟩
theorem Tryz.lays122 : Go.Proofs.Lays.n122 Tryz.prog Tryz.lays122_ren := {
  mixed := by kernel_rfl
  f122 := Tryz.func156.trans (congrArg some (by kernel_rfl))
  f215 := Tryz.func168.trans (congrArg some (by kernel_rfl))
  t3 := Tryz.underlying3
  a3 := Tryz.isAgg3
  z3 := Tryz.sizeOf3
  v3 := Tryz.zeroValue3
  t4 := Tryz.underlying4
  a4 := Tryz.isAgg4
  z4 := Tryz.sizeOf4
  v4 := Tryz.zeroValue4 }
open Go.RowKit in
theorem Tryz.cmp_Compare_int (x y : Int) (w : World) :
    Calls Tryz.prog 156 #[.int .i64 x, .int .i64 y] w fun e w' => e = .returned (.int .i64 (Lib.compareInt x y)) ∧ w' = w := Any.cmp_Compare_int Tryz.lays122 x y w
def Tryz.laysNm216_ren : Go.Shelf.Ren := ⟨fun | 16 => 80 | n => n, fun | 24 => 26 | 9 => 9 | 4 => 4 | n => n, fun | n => n⟩
theorem Tryz.laysNm216 : Go.Proofs.Lays2.n16 Tryz.prog Tryz.laysNm216_ren := {
  mixed := by kernel_rfl
  f16 := Tryz.func80.trans (congrArg some (by kernel_rfl))
  t4 := Tryz.underlying4
  a4 := Tryz.isAgg4
  z4 := Tryz.sizeOf4
  v4 := Tryz.zeroValue4
  t9 := Tryz.underlying9
  a9 := Tryz.isAgg9
  z9 := Tryz.sizeOf9
  v9 := Tryz.zeroValue9
  t24 := Tryz.underlying26
  a24 := Tryz.isAgg26
  z24 := Tryz.sizeOf26
  v24 := Tryz.zeroValue26
  i9 := by kernel_rfl }
open Go.RowKit Go.Lib in
theorem Tryz.slices_Clone_string (b off n c : Nat) (zs : List ByteArray) (w : World) (hz : n ≤ zs.length) (hbig : n * 16 ≤ 140737488355328) (hc : ∀ j, j < zs.length → w.cell? ⟨b, off + j, none⟩ = some (.string (zs.getD j ByteArray.empty))) :
    Calls Tryz.prog 80 #[.slice (some ⟨b, off, none⟩) n c] w fun e w' => ∃ v', e = .returned v' ∧ w'.ownsRow w.heap.size 9 1 v' n ((zs.take n).map (Value.string)) ∧ v' ≠ .slice none 0 0 ∧ Below w.heap.size w w' := Any.slices_Clone_string Tryz.laysNm216 b off n c zs w hz hbig hc
open Go.RowKit Go.Lib in
theorem Tryz.slices_Clone_string_nil (n c : Nat) (w : World) :
    Calls Tryz.prog 80 #[.slice none n c] w fun e w' => e = .returned (.slice none 0 0) ∧ w' = w := Any.slices_Clone_string_nil Tryz.laysNm216 n c w
open Go.RowKit Go.Lib in
theorem Tryz.slices_Clone_string_zero (a : Addr) (c : Nat) (w : World) :
    Calls Tryz.prog 80 #[.slice (some a) 0 c] w fun e w' => ∃ v', e = .returned v' ∧ w'.ownsRow w.heap.size 9 1 v' 0 [] ∧ v' ≠ .slice none 0 0 ∧ Below w.heap.size w w' := Any.slices_Clone_string_zero Tryz.laysNm216 a c w
end Go.Proofs
namespace Go.Proofs.YtobggoephhjofaaGreatDoor
end Go.Proofs.YtobggoephhjofaaGreatDoor
