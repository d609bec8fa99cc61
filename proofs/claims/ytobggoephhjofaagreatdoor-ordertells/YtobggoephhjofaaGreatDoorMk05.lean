/- A part. No condition. -/
import Derived.Test.YtobggoephhjofaaGreatDoorMk04
set_option maxRecDepth 100000
set_option maxHeartbeats 16000000
namespace Go.Proofs.YtobggoephhjofaaGreatDoor
namespace V4
open Go.RowKit
open C3 (Tk Asc isC ofC jxt Nok In jzk jzf jqz RetT)
open S2 (Tr Sc isT)
def jxk(pre:List (List Tk))(c:List Tk):Bool:=match pre.getLast? with
  | none=>true
  | some d=>jz2 d c
def jkj(p:Va->Bool):List (List Tk)->List (List Tk)->List Va->Bool
  | pre,c :: cs,v :: vs=>isC c && (p v && (jxk pre c && (pre.all (fun d=>decide (jxt d c=2)) && jkj p (pre++[c]) cs vs)))
  | _,_,_=>true
def jmk(p:Va->Bool)(x:Va):Bool:=decide (x.c.length<=40) && jkj p [] x.c x.v
theorem joh{p:Va->Bool}{cs:List (List Tk)}{vs:List Va}{i:Nat}{c:List Tk}{v:Va}(hc:cs[i]?=some c)(hv:vs[i]?=some v):jkj p (cs.take i) (cs.drop i) (vs.drop i)=(isC c && (p v && (jxk (cs.take i) c && ((cs.take i).all (fun d=>decide (jxt d c=2)) && jkj p (cs.take (i+1)) (cs.drop (i+1)) (vs.drop (i+1)))))):=by
 obtain⟨h1,e1⟩:=List.getElem?_eq_some_iff.1 hc;obtain⟨h2,e2⟩:=List.getElem?_eq_some_iff.1 hv;rw[List.drop_eq_getElem_cons h1,List.drop_eq_getElem_cons h2,e1,e2,jkj,List.take_succ_eq_append_getElem h1,e1]
theorem jhf{p:Va->Bool}{pre cs:List (List Tk)}{vs:List Va}(h:cs=[]):jkj p pre cs vs=true:=by
 subst h;rw[jkj];simp
theorem jh5(cs:List (List Tk))(c:List Tk):jxk (cs.take 0) c=true:=by simp[jxk]
theorem jh6{cs:List (List Tk)}{j:Nat}{c d:List Tk}(h:cs[j]?=some d):jxk (cs.take (j+1)) c=jz2 d c:=by
 obtain⟨hi,he⟩:=List.getElem?_eq_some_iff.1 h;unfold jxk;rw[List.take_succ_eq_append_getElem hi,List.getLast?_append,he];simp
theorem jwn(A:Option Addr)(c:Nat)(l:List Tk)(v:Bool)(w:World)(h:In w A c l)(hv:isC l=v):Calls Tryz.prog 93 #[.slice A l.length c] w (jz6 w (.bool v)):=hv▸C3.jgp A c l w h
theorem jgr(A A':Option Addr)(c c':Nat)(l l':List Tk)(v:Bool)(w:World)(h:In w A c l)(h':In w A' c' l')(hv:jz2 l l'=v) :
    Calls Tryz.prog 99 #[.slice A l.length c,.slice A' l'.length c'] w (jz6 w (.bool v)):=hv▸jbe A A' c c' l l' w h h'
theorem jhn(A A':Option Addr)(c c':Nat)(l l':List Tk)(v:Int)(w:World)(h:In w A c l)(h':In w A' c' l')(hv:jxt l l'=v) :
    Calls Tryz.prog 98 #[.slice A l.length c,.slice A' l'.length c'] w (jz6 w (.int .i64 v)):=hv▸C3.jk2 A A' c c' l l' w h h'
structure jk6 (w W:World) (A:Option Addr) (c:Nat) (b off:Nat) (ak:Int) (aA:Option Addr) (ac al:Nat) (cA:Option Addr) (cc cn:Nat) (vA:Option Addr) (vc vn:Nat):Prop where
  i1:W.cell? ⟨w.heap.size,1,none⟩=some (.slice A 1 c)
  c3:W.cell? ⟨w.heap.size+1,3,none⟩=some (.slice cA cn cc)
  c4:W.cell? ⟨w.heap.size+1,4,none⟩=some (.slice vA vn vc)
  s0:W.cell? ⟨b,off,none⟩=some (.int .i64 ak)
  s1:W.cell? ⟨b,off+1,none⟩=some (.slice aA al ac)
  sz:w.heap.size+1<W.heap.size
  bb:b<W.heap.size
  bel:Below w.heap.size w W
theorem jk6.later{w W W':World}{A:Option Addr}{c b off:Nat}{ak:Int}{aA:Option Addr}{ac al:Nat}{cA:Option Addr}{cc cn:Nat}{vA:Option Addr}{vc vn:Nat}(h:jk6 w W A c b off ak aA ac al cA cc cn vA vc vn)(hb:Below W.heap.size W W') :
    jk6 w W' A c b off ak aA ac al cA cc cn vA vc vn :=
  ⟨(hb.cell (p:=⟨w.heap.size,1,none⟩) (by have:=h.sz;show w.heap.size<_;omega)).trans h.i1,(hb.cell (p:=⟨w.heap.size+1,3,none⟩) h.sz).trans h.c3,(hb.cell (p:=⟨w.heap.size+1,4,none⟩) h.sz).trans h.c4,(hb.cell (p:=⟨b,off,none⟩) h.bb).trans h.s0,(hb.cell (p:=⟨b,off+1,none⟩) h.bb).trans h.s1,
    ltl h.sz hb.size,ltl h.bb hb.size,h.bel.trans (hb.mono h.bel.size)⟩
structure SibE (w:World) (A:Option Addr) (c:Nat) (b off:Nat) (ak:Int) (aA:Option Addr) (ac:Nat) (al:List Sc) (cA:Option Addr) (cc cn:Nat) (vA:Option Addr) (vc vn:Nat) (b1 o1 b2 o2:Nat) (x:Ck) (y:Vl) (W:World):Prop where
  S:jk6 w W A c b off ak aA ac al.length cA cc cn vA vc vn
  x0:W.cell? ⟨b1,o1,none⟩=some (.slice x.A x.l.length x.c)
  y0:W.cell? ⟨b2,o2,none⟩=some (.int .u64 y.n)
  y1:W.cell? ⟨b2,o2+1,none⟩=some (.int .u64 y.m)
  y2:W.cell? ⟨b2,o2+2,none⟩=some y.s1
  y3:W.cell? ⟨b2,o2+3,none⟩=some y.c1
  y4:W.cell? ⟨b2,o2+4,none⟩=some y.v1
  l1:b1<W.heap.size
  l2:b2<W.heap.size
  ix:In W x.A x.c x.l
  iy:y.In W
  ia:(Sc.mk ak aA ac al).In W.heap.size W
theorem SibE.later{w:World}{A:Option Addr}{c b off:Nat}{ak:Int}{aA:Option Addr}{ac:Nat}{al:List Sc}{cA:Option Addr}{cc cn:Nat}{vA:Option Addr}{vc vn b1 o1 b2 o2:Nat}{x:Ck}{y:Vl}{W W':World}
    (h:SibE w A c b off ak aA ac al cA cc cn vA vc vn b1 o1 b2 o2 x y W) (hb:Below W.heap.size W W'):SibE w A c b off ak aA ac al cA cc cn vA vc vn b1 o1 b2 o2 x y W' :=
  ⟨h.S.later hb,(hb.cell (p:=⟨b1,o1,none⟩) h.l1).trans h.x0,(hb.cell (p:=⟨b2,o2,none⟩) h.l2).trans h.y0,(hb.cell (p:=⟨b2,o2+1,none⟩) h.l2).trans h.y1,(hb.cell (p:=⟨b2,o2+2,none⟩) h.l2).trans h.y2,(hb.cell (p:=⟨b2,o2+3,none⟩) h.l2).trans h.y3,(hb.cell (p:=⟨b2,o2+4,none⟩) h.l2).trans h.y4,
    ltl h.l1 hb.size,ltl h.l2 hb.size,h.ix.later hb,h.iy.later hb,h.ia.later hb⟩
structure SibZ (b1 o1:Nat) (x:Ck) (W:World):Prop where
  x0:W.cell? ⟨b1,o1,none⟩=some (.slice x.A x.l.length x.c)
  l1:b1<W.heap.size
  ix:In W x.A x.c x.l
theorem SibZ.later{b1 o1:Nat}{x:Ck}{W W':World}(h:SibZ b1 o1 x W)(hb:Below W.heap.size W W'):SibZ b1 o1 x W':=⟨(hb.cell (p:=⟨b1,o1,none⟩) h.l1).trans h.x0,ltl h.l1 hb.size,h.ix.later hb⟩
theorem jzd{P:Program}{ops:Array Oper}{Q:Exit->Act->World->Prop}{md:Region.Mode}{S:World->Prop}(i d:Nat){oi:Oper}{v:Value}{fuel:Nat}{listed:Array Bool}{l:List Value}{df:List Deferred}{w:World}(hi:ops[i]?=some oi)(hd:oi.dst=some d)(hs:Region.noSelect ops=true)(hf:Region.free md ops listed i=true)(hr:(Region.ready md ops listed).contains i=true)(hQ:∀ c a w,Q (.panic c) (Act.put a (some d) v) w->Q (.panic c) a w)(hy:YieldsIf P ops S oi v ⟨l.toArray,df⟩)(hS:S w)(h:wpAnyH P md ops Q S fuel (listed.setIfInBounds i true) ⟨(l.set d v).toArray,df⟩ w):wpAnyH P md ops Q S (fuel+1) listed ⟨l.toArray,df⟩ w:=by
 refine wpAnyH_take hi hs hf hr (by rw[hd];exact hQ) hy hS ?_;rw[hd];simpa[Act.put] using h
theorem _root_.Go.Proofs.YtobggoephhjofaaGreatDoor.lz {α:Type} {a b:α} {l:List α}:(a :: l).set 0 b=b :: l:=rfl
theorem _root_.Go.Proofs.YtobggoephhjofaaGreatDoor.ls {α:Type} {a b:α} {l:List α} {n:Nat}:(a :: l).set (n+1) b=a :: l.set n b:=rfl
theorem _root_.Go.Proofs.YtobggoephhjofaaGreatDoor.tkH {P:Program} {ops:Array Oper} {Q:Exit->Act->World->Prop} {md:Region.Mode} {S:World->Prop} (i d:Nat) {oi:Oper} {v:Value} {fuel:Nat} {listed:Array Bool} {l:List Value} {df:List Deferred} {w:World} {l':List Value} (h:wpAnyH P md ops Q S fuel (listed.setIfInBounds i true) ⟨l'.toArray,df⟩ w) (hi:ops[i]?=some oi:=by exact rfl) (hd:oi.dst=some d:=by exact rfl) (hs:Region.noSelect ops=true:=by kernel_rfl) (hf:Region.free md ops listed i=true:=by kernel_rfl) (hr:(Region.ready md ops listed).contains i=true:=by kernel_rfl) (hQ:∀ c a w,Q (.panic c) (Act.put a (some d) v) w->Q (.panic c) a w:=by exact fun _ _ _ h=>h) (hy:YieldsIf P ops S oi v ⟨l.toArray,df⟩:=by exact Or.inl ⟨by rfl,by intro w hSw;(try dsimp only at hSw);go_simp;try (with_reducible rfl)⟩) (hS:S w:=by assumption) (hl:l.set d v=l':=by (simp only[lz,ls];exact rfl)):wpAnyH P md ops Q S (fuel+1) listed ⟨l.toArray,df⟩ w :=
  jzd i d hi hd hs hf hr hQ hy hS (hl▸h)
theorem _root_.Go.Proofs.YtobggoephhjofaaGreatDoor.tkU {P:Program} {ops:Array Oper} {Q:Exit->Act->World->Prop} {md:Region.Mode} {S:World->Prop} (i d:Nat) {oi:Oper} {fuel:Nat} {listed:Array Bool} {l:List Value} {df:List Deferred} {w:World} {l':List Value} (h:wpAnyH P md ops Q S fuel (listed.setIfInBounds i true) ⟨l'.toArray,df⟩ w) (hi:ops[i]?=some oi:=by exact rfl) (hd:oi.dst=some d:=by exact rfl) (hs:Region.noSelect ops=true:=by kernel_rfl) (hf:Region.free md ops listed i=true:=by kernel_rfl) (hr:(Region.ready md ops listed).contains i=true:=by kernel_rfl) (hQ:∀ c a w,Q (.panic c) (Act.put a (some d) undef) w->Q (.panic c) a w:=by exact fun _ _ _ h=>h) (hy:YieldsIf P ops S oi undef ⟨l.toArray,df⟩:=by exact Or.inr ⟨by rfl,rfl⟩) (hS:S w:=by assumption) (hl:l.set d undef=l':=by (simp only[lz,ls];exact rfl)):wpAnyH P md ops Q S (fuel+1) listed ⟨l.toArray,df⟩ w :=
  jzd i d hi hd hs hf hr hQ hy hS (hl▸h)
theorem _root_.Go.Proofs.YtobggoephhjofaaGreatDoor.rdH {P:Program} {ops:Array Oper} {Q:Exit->Act->World->Prop} {md:Region.Mode} {S:World->Prop} (i:Nat) {o:Oper} {fuel:Nat} {listed:Array Bool} {a:Act} {w:World} (h:∀ K':Act->World->Prop,Shut (∀ a w,S w->(S w->wpAnyH P md ops Q S fuel (listed.setIfInBounds i true) a w)->K' a w)->if Region.wanted o (yielded ops a.tmps)=true then Oper.wp P o a w K' Q else K' (a.put o.dst undef) w) (hr:Region.ready md ops listed=[i]:=by kernel_rfl) (ho:ops[i]?=some o:=by exact rfl):wpAnyH P md ops Q S (fuel+1) listed a w :=
  wpAnyH_ready hr (by simp) (AllReadyH.cons ho h AllReadyH.nil)
theorem _root_.Go.Proofs.YtobggoephhjofaaGreatDoor.rgH {P:Program} {ops:Array Oper} {Q:Exit->Act->World->Prop} {S:World->Prop} {id:Nat} {a:Act} {w:World} (HK:Hid (∀ W,Below w.heap.size w W->S W)) (h:S w.drew->wpAnyH P .any ops Q S ops.size (Array.replicate ops.size false) a w.drew) (hm:P.follows .mixedOrders=true:=by kernel_rfl):(Code.region id ops true).wp P Q a w:=wp_region_held_drew hm (HK.out _ (Below.refl _ _).drew) h
theorem _root_.Go.Proofs.YtobggoephhjofaaGreatDoor.nmY {K:Act->World->Prop} {a:Act} {X:World} (h:∀ Y,X=Y->K a Y):K a X:=h X rfl
theorem _root_.Go.Proofs.YtobggoephhjofaaGreatDoor.hzk {A:Prop} {x:Vl} {P:Nat->Prop} (Q:Nat->Prop) {W W':World} (h:Hid (A/\x.Inp P W)) (hk:∀ b,P b->W'.heap[b]?=W.heap[b]?) (hm:∀ b,P b->Q b):Hid (A/\x.Inp Q W'):=⟨h.out.1,(h.out.2.keep hk).mono hm⟩
theorem jbh{α β:Type}{f:α->β}{l:List α}{i:Nat}{x:α}(h:l[i]?=some x):(l.map f)[i]?=some (f x):=by rw[List.getElem?_map,h];rfl
theorem jop(k:Int)(A:Option Addr)(c:Nat)(a:Sc)(x:Vl)(w:World)(hs:(Sc.mk k A c [a]).In w.heap.size w)(hx:x.In w)(aq:x.er.c.length=x.er.v.length)(p:Va->Bool)(ih:∀ (y:Vl) (w:World),a.In w.heap.size w->y.In w->Calls Tryz.prog 47 #[a.val,y.val] w (jz6 w (.bool (p y.er)))):Calls Tryz.prog 94 #[(Sc.mk k A c [a]).val,x.val] w (jz6 w (.bool (jmk p x.er))):=by
 obtain⟨n,m,sA,sc,ss,cA,cc,cs,vA,vc,vs⟩:=x;have cE:Hid (Below w.heap.size w ((w.alloc (.cells #[.int .i64 k,.slice A 1 c] 24)).alloc (.cells #[.int .u64 n,.int .u64 m,.slice sA ss.length sc,.slice cA cs.length cc,.slice vA vs.length vc] 30))):=jzk (jzf _ _);obtain⟨gl,-,-,bu⟩:=hs.out;obtain⟨b,off,rfl,hb,b8⟩:=gl.get (k:=0) (by simp);obtain⟨h0,h1⟩:=b8 0 a rfl;have HA:=Lh (bu a (by simp));have P:=hx.out;have HP:=Lh P;have d8:cs.length<=9223372036854775807:=by have:=P.cb;unfold maxLen at this;omega
 have fF:Hid (cs.length=vs.length):=by show cs.length=vs.length;rw[jzw] at aq;simpa[Va.c,Va.v] using aq
 have HR:Hid (jmk p (Vl.mk n m sA sc ss cA cc cs vA vc vs).er=(decide (cs.length<=40) && jkj p [] (cs.map Ck.l) (vs.map Vl.er))):=by (
 show jmk _ _=_
 rw[jzw];unfold jmk Va.c Va.v;simp)
 have IH:=Lh ih;rw[HR.out];clear gl bu b8 hs hx P aq ih HR;obtain⟨ak,aA,ac,al⟩:=a;simp only[S2.Sc.v1,S2.Sc.k,Nat.zero_mul,Nat.add_zero] at h0 h1;simp only[S2.jzh] at IH;simp only[S2.jzh,jzh,List.length_cons,List.length_nil,Nat.zero_add];have HC:Hid (jk6 w ((w.alloc (.cells #[.int .i64 k,.slice (some ⟨b,off,none⟩) 1 c] 24)).alloc (.cells #[.int .u64 n,.int .u64 m,.slice sA ss.length sc,.slice cA cs.length cc,.slice vA vs.length vc] 30)) (some ⟨b,off,none⟩) c b off ak aA ac al.length cA cc cs.length vA vc vs.length) :=
   ⟨by go_simp,by go_simp,by go_simp,(cE.out.cell (p:=⟨b,off,none⟩) hb).trans h0,(cE.out.cell (p:=⟨b,off+1,none⟩) hb).trans h1,by simp,by simp;omega,cE.out⟩
 clear cE h0 h1 hb;by_cases c40:cs.length<=40
 ·(
 rw[decide_eq_true c40,Bool.true_and];have d40:decide (40<(cs.length:Int))=false:=decide_eq_false (by omega);obtain⟨R,hR⟩:=exq (jkj p [] (cs.map Ck.l) (vs.map Vl.er));rw[hR];have HR:=Lh hR;clear hR;go_enter Tryz.func94,Tryz.ntmps94;go_wp2_with fail;generalize ((w.alloc (.cells #[.int .i64 k,.slice (some ⟨b,off,none⟩) 1 c] 24)).alloc (.cells #[.int .u64 n,.int .u64 m,.slice sA ss.length sc,.slice cA cs.length cc,.slice vA vs.length vc] 30))=W0 at *;go_loopw [5] (fun iv wr=>∃ (i:Nat),i<=cs.length/\iv = .int .i64 i/\Hid (jkj p ((cs.map Ck.l).take i) ((cs.map Ck.l).drop i) ((vs.map Vl.er).drop i)=R)/\Hid (jk6 w wr (some ⟨b,off,none⟩) c b off ak aA ac al.length cA cc cs.length vA vc vs.length)) (fun iv _=>cs.length - (intOf iv).toNat)
 case atStart=>exact⟨0,Nat.zero_le _,rfl,by simp only[List.take_zero,List.drop_zero];exact HR,HC⟩
 case round=>(
 obtain⟨i,hi,rfl,h0,hC⟩:=hrel;clear HR HC;obtain⟨q1,q2,q3,q4,q5,ae,cD,ar⟩:=hC.out;by_cases hlt:i<cs.length
 ·(
 have hltv:i<vs.length:=by have:=fF.out;omega
 obtain⟨x,hx⟩:∃ x,cs[i]?=some x:=⟨_,List.getElem?_eq_getElem hlt⟩
 obtain⟨y,hy⟩:∃ y,vs[i]?=some y:=⟨_,List.getElem?_eq_getElem hltv⟩
 obtain⟨b1,off1,rfl,af,fV⟩:=jqi (HP.out.cl.below ar) hx;obtain⟨b2,off2,rfl,ab,cN,eb,ga,ou,oq⟩:=jqo (HP.out.vl.below ar) hy;have hIX:=(HP.out.ck x (List.mem_of_getElem? hx)).later ar;have hIY:=(HP.out.vk y (List.mem_of_getElem? hy)).later ar;have HE:Hid (SibE w (some ⟨b,off,none⟩) c b off ak aA ac al (some ⟨b1,off1,none⟩) cc cs.length (some ⟨b2,off2,none⟩) vc vs.length b1 (off1+i) b2 (off2+i*5) x y wr.drew) :=
   SibE.later ⟨hC.out,fV,cN,eb,ga,ou,oq,ltl af ar.size,ltl ab ar.size,hIX,hIY,(HA.out.keep ar).up ar.size⟩ (jqz wr)
 have HX:=Lh hx;have HY:=Lh hy;have HG:=Lh ((joh (p:=p) (jbh (f:=Ck.l) hx) (jbh (f:=Vl.er) hy)).symm.trans h0.out);obtain⟨u1,my⟩:=exq (isC x.l);obtain⟨u2,mw⟩:=exq (p y.er);rw[my,mw] at HG;have ma:=Lh my;have pq:=Lh mw;clear hx hy fV cN eb ga ou oq hIX hIY my mw h0 hC ar;obtain⟨xA,xc,xl⟩:=x;obtain⟨yn,ym,yK,yL,yN,yO,yP,yQ,yR,yS,yT⟩:=y;dsimp only at ma HG
 have hli:(i:Int)<(cs.length:Int):=by omega
 have hliv:(i:Int)<(vs.length:Int):=by omega
 clear q1 q3 q4 q5;cases u1 with
 | false=>(
 have HF:Hid (R=false):=by show R=false;rw[<- HG.out];rfl
 go_wp2_with fail;refine wp_region_noPanic ?_;refine wp_region_held_drew (S:=(fun w'=>w'.cell? ⟨w.heap.size,1,none⟩=some (.slice (some ⟨b,off,none⟩) 1 c)/\w'.cell? ⟨w.heap.size+1,3,none⟩=some (.slice (some ⟨b1,off1,none⟩) cs.length cc)/\w'.cell? ⟨w.heap.size+1,4,none⟩=some (.slice (some ⟨b2,off2,none⟩) vs.length vc)/\w'.cell? ⟨b,off,none⟩=some (.int .i64 ak)/\w'.cell? ⟨b,off+1,none⟩=some (.slice aA al.length ac)/\w'.cell? ⟨b1,off1+i,none⟩=some (.slice xA xl.length xc)/\w'.cell? ⟨b2,off2+i*5,none⟩=some (.int .u64 yn)/\w'.cell? ⟨b2,off2+i*5+1,none⟩=some (.int .u64 ym)/\w'.cell? ⟨b2,off2+i*5+2,none⟩=some (.slice yK yN.length yL)/\w'.cell? ⟨b2,off2+i*5+3,none⟩=some (.slice yO yQ.length yP)/\w'.cell? ⟨b2,off2+i*5+4,none⟩=some (.slice yR yT.length yS))) (by kernel_rfl) ?_ (fun hHeld=>?_)
 ·exact⟨HE.out.S.i1,HE.out.S.c3,HE.out.S.c4,HE.out.S.s0,HE.out.S.s1,HE.out.x0,HE.out.y0,HE.out.y1,HE.out.y2,HE.out.y3,HE.out.y4⟩
 refine tkH 0 18 ?_;refine tkH 1 19 ?_;refine tkH 2 20 ?_;refine tkH 3 21 ?_;refine tkH 4 22 ?_;refine rdH 5 (fun K hK=>?_);go_simp;go_wp2_with (go_at_call 93;refine (jwn xA xc xl _ _ HE.out.ix ma.out).mono ?_;rintro e w5 ⟨rfl,bh⟩;(replace HE:=Lh (HE.out.later bh);clear bh))
 refine hK.out _ _ ?_ (fun hHeld=>?_)
 ·exact⟨HE.out.S.i1,HE.out.S.c3,HE.out.S.c4,HE.out.S.s0,HE.out.S.s1,HE.out.x0,HE.out.y0,HE.out.y1,HE.out.y2,HE.out.y3,HE.out.y4⟩
 clear hK K;refine tkH 6 24 ?_;refine tkH 7 25 ?_;refine tkU 8 26 ?_;refine tkU 9 27 ?_;refine tkU 10 28 ?_;refine tkU 11 29 ?_;refine tkU 12 30 ?_;refine tkU 13 31 ?_;refine tkU 14 32 ?_;refine tkU 15 33 ?_;refine tkU 16 34 ?_;refine tkU 17 35 ?_;refine tkU 18 36 ?_;refine tkH 19 37 ?_;refine tkH 20 38 ?_;refine tkU 21 39 ?_;refine tkU 22 40 ?_;refine tkU 23 41 ?_;refine tkU 24 42 ?_;refine tkU 25 43 ?_;refine tkU 26 44 ?_;refine tkU 27 45 ?_;refine tkU 28 46 ?_;refine tkU 29 47 ?_;refine tkU 30 48 ?_;refine tkU 31 49 ?_;refine tkU 32 50 ?_;refine tkU 33 51 ?_;refine tkU 34 52 ?_;refine tkU 35 53 ?_;refine tkU 36 54 ?_;refine tkU 37 55 ?_;refine tkH 38 56 ?_;refine wpAnyH_done (by kernel_rfl) ?_ _;refine NoPanic.normal ?_;go_wp2_with fail;go_ret;exact⟨jzi HF.out.symm,HE.out.S.bel⟩)
 | true=>(
 cases u2 with
 | false=>(
 have HF:Hid (R=false):=by show R=false;rw[<- HG.out];rfl
 go_wp2_with fail;refine wp_region_noPanic ?_;refine wp_region_held_drew (S:=(fun w'=>w'.cell? ⟨w.heap.size,1,none⟩=some (.slice (some ⟨b,off,none⟩) 1 c)/\w'.cell? ⟨w.heap.size+1,3,none⟩=some (.slice (some ⟨b1,off1,none⟩) cs.length cc)/\w'.cell? ⟨w.heap.size+1,4,none⟩=some (.slice (some ⟨b2,off2,none⟩) vs.length vc)/\w'.cell? ⟨b,off,none⟩=some (.int .i64 ak)/\w'.cell? ⟨b,off+1,none⟩=some (.slice aA al.length ac)/\w'.cell? ⟨b1,off1+i,none⟩=some (.slice xA xl.length xc)/\w'.cell? ⟨b2,off2+i*5,none⟩=some (.int .u64 yn)/\w'.cell? ⟨b2,off2+i*5+1,none⟩=some (.int .u64 ym)/\w'.cell? ⟨b2,off2+i*5+2,none⟩=some (.slice yK yN.length yL)/\w'.cell? ⟨b2,off2+i*5+3,none⟩=some (.slice yO yQ.length yP)/\w'.cell? ⟨b2,off2+i*5+4,none⟩=some (.slice yR yT.length yS))) (by kernel_rfl) ?_ (fun hHeld=>?_)
 ·exact⟨HE.out.S.i1,HE.out.S.c3,HE.out.S.c4,HE.out.S.s0,HE.out.S.s1,HE.out.x0,HE.out.y0,HE.out.y1,HE.out.y2,HE.out.y3,HE.out.y4⟩
 refine tkH 0 18 ?_;refine tkH 1 19 ?_;refine tkH 2 20 ?_;refine tkH 3 21 ?_;refine tkH 4 22 ?_;refine rdH 5 (fun K hK=>?_);go_simp;go_wp2_with (go_at_call 93;refine (jwn xA xc xl _ _ HE.out.ix ma.out).mono ?_;rintro e w5 ⟨rfl,bh⟩;(replace HE:=Lh (HE.out.later bh);clear bh))
 refine hK.out _ _ ?_ (fun hHeld=>?_)
 ·exact⟨HE.out.S.i1,HE.out.S.c3,HE.out.S.c4,HE.out.S.s0,HE.out.S.s1,HE.out.x0,HE.out.y0,HE.out.y1,HE.out.y2,HE.out.y3,HE.out.y4⟩
 clear hK K;refine tkH 6 24 ?_;refine tkH 7 25 ?_;refine tkH 8 26 ?_;refine tkH 9 27 ?_;refine tkH 10 28 ?_;refine tkH 11 29 ?_;refine tkH 12 30 ?_;refine tkH 13 31 ?_;refine tkH 14 32 ?_;refine tkH 15 33 ?_;refine tkH 16 34 ?_;refine rdH 17 (fun K hK=>?_);go_simp;go_wp2_with (go_at_call 47;refine (IH.out (.mk yn ym yK yL yN yO yP yQ yR yS yT) _ HE.out.ia HE.out.iy).mono ?_;rintro e w6 ⟨rfl,bh⟩;(rw[pq.out];replace HE:=Lh (HE.out.later bh);clear bh))
 refine hK.out _ _ ?_ (fun hHeld=>?_)
 ·exact⟨HE.out.S.i1,HE.out.S.c3,HE.out.S.c4,HE.out.S.s0,HE.out.S.s1,HE.out.x0,HE.out.y0,HE.out.y1,HE.out.y2,HE.out.y3,HE.out.y4⟩
 clear hK K;refine tkH 18 36 ?_;refine tkH 19 37 ?_;refine tkH 20 38 ?_;refine tkU 21 39 ?_;refine tkU 22 40 ?_;refine tkU 23 41 ?_;refine tkU 24 42 ?_;refine tkU 25 43 ?_;refine tkU 26 44 ?_;refine tkU 27 45 ?_;refine tkU 28 46 ?_;refine tkU 29 47 ?_;refine tkU 30 48 ?_;refine tkU 31 49 ?_;refine tkU 32 50 ?_;refine tkU 33 51 ?_;refine tkU 34 52 ?_;refine tkU 35 53 ?_;refine tkU 36 54 ?_;refine tkU 37 55 ?_;refine tkH 38 56 ?_;refine wpAnyH_done (by kernel_rfl) ?_ _;refine NoPanic.normal ?_;go_wp2_with fail;go_ret;exact⟨jzi HF.out.symm,HE.out.S.bel⟩)
 | true=>(
 obtain⟨u3,uD⟩:=exq (jxk ((cs.map Ck.l).take i) xl);rw[uD] at HG;by_cases mS:i=0
 ·(
 have e3:u3=true:=by rw[<- uD,mS];exact jh5 _ _
 subst e3;have d0:¬ 0<i:=by omega
 clear uD mS;go_wp2_with fail;refine wp_region_noPanic ?_;refine wp_region_held_drew (S:=(fun w'=>w'.cell? ⟨w.heap.size,1,none⟩=some (.slice (some ⟨b,off,none⟩) 1 c)/\w'.cell? ⟨w.heap.size+1,3,none⟩=some (.slice (some ⟨b1,off1,none⟩) cs.length cc)/\w'.cell? ⟨w.heap.size+1,4,none⟩=some (.slice (some ⟨b2,off2,none⟩) vs.length vc)/\w'.cell? ⟨b,off,none⟩=some (.int .i64 ak)/\w'.cell? ⟨b,off+1,none⟩=some (.slice aA al.length ac)/\w'.cell? ⟨b1,off1+i,none⟩=some (.slice xA xl.length xc)/\w'.cell? ⟨b2,off2+i*5,none⟩=some (.int .u64 yn)/\w'.cell? ⟨b2,off2+i*5+1,none⟩=some (.int .u64 ym)/\w'.cell? ⟨b2,off2+i*5+2,none⟩=some (.slice yK yN.length yL)/\w'.cell? ⟨b2,off2+i*5+3,none⟩=some (.slice yO yQ.length yP)/\w'.cell? ⟨b2,off2+i*5+4,none⟩=some (.slice yR yT.length yS))) (by kernel_rfl) ?_ (fun hHeld=>?_)
 ·exact⟨HE.out.S.i1,HE.out.S.c3,HE.out.S.c4,HE.out.S.s0,HE.out.S.s1,HE.out.x0,HE.out.y0,HE.out.y1,HE.out.y2,HE.out.y3,HE.out.y4⟩
 refine tkH 0 18 ?_;refine tkH 1 19 ?_;refine tkH 2 20 ?_;refine tkH 3 21 ?_;refine tkH 4 22 ?_;refine rdH 5 (fun K hK=>?_);go_simp;go_wp2_with (go_at_call 93;refine (jwn xA xc xl _ _ HE.out.ix ma.out).mono ?_;rintro e w5 ⟨rfl,bh⟩;(replace HE:=Lh (HE.out.later bh);clear bh))
 refine hK.out _ _ ?_ (fun hHeld=>?_)
 ·exact⟨HE.out.S.i1,HE.out.S.c3,HE.out.S.c4,HE.out.S.s0,HE.out.S.s1,HE.out.x0,HE.out.y0,HE.out.y1,HE.out.y2,HE.out.y3,HE.out.y4⟩
 clear hK K;refine tkH 6 24 ?_;refine tkH 7 25 ?_;refine tkH 8 26 ?_;refine tkH 9 27 ?_;refine tkH 10 28 ?_;refine tkH 11 29 ?_;refine tkH 12 30 ?_;refine tkH 13 31 ?_;refine tkH 14 32 ?_;refine tkH 15 33 ?_;refine tkH 16 34 ?_;refine rdH 17 (fun K hK=>?_);go_simp;go_wp2_with (go_at_call 47;refine (IH.out (.mk yn ym yK yL yN yO yP yQ yR yS yT) _ HE.out.ia HE.out.iy).mono ?_;rintro e w6 ⟨rfl,bh⟩;(rw[pq.out];replace HE:=Lh (HE.out.later bh);clear bh))
 refine hK.out _ _ ?_ (fun hHeld=>?_)
 ·exact⟨HE.out.S.i1,HE.out.S.c3,HE.out.S.c4,HE.out.S.s0,HE.out.S.s1,HE.out.x0,HE.out.y0,HE.out.y1,HE.out.y2,HE.out.y3,HE.out.y4⟩
 clear hK K;refine tkH 18 36 ?_;refine tkH 19 37 ?_;refine tkH 20 38 ?_;refine tkH 21 39 ?_;refine tkH 22 40 ?_;refine tkH 23 41 ?_;refine tkU 24 42 ?_;refine tkU 25 43 ?_;refine tkU 26 44 ?_;refine tkU 27 45 ?_;refine tkU 28 46 ?_;refine tkU 29 47 ?_;refine tkU 30 48 ?_;refine tkU 31 49 ?_;refine tkU 32 50 ?_;refine tkU 33 51 ?_;refine tkU 34 52 ?_;refine tkU 35 53 ?_;refine tkU 36 54 ?_;refine tkH 37 55 ?_;refine tkH 38 56 ?_;refine wpAnyH_done (by kernel_rfl) ?_ _;refine NoPanic.normal ?_;go_wp2_with fail;go_loopw [6] (fun kv wr=>∃ (k2:Nat),k2<=i/\kv = .int .i64 k2/\Hid (((cs.map Ck.l).take k2).all (fun d=>decide (jxt d xl=2))=true)/\Hid (SibE w (some ⟨b,off,none⟩) c b off ak aA ac al (some ⟨b1,off1,none⟩) cc cs.length (some ⟨b2,off2,none⟩) vc vs.length b1 (off1+i) b2 (off2+i*5) ⟨xA,xc,xl⟩ (.mk yn ym yK yL yN yO yP yQ yR yS yT) wr)) (fun kv _=>i - (intOf kv).toNat)
 case atStart=>exact⟨0,Nat.zero_le _,rfl,by simp[Hid],HE⟩
 case round=>(
 clear HE;rename_i wq
 obtain⟨k2,fC,rfl,lp,HE⟩:=hrel;by_cases rB:k2<i
 ·exact absurd rB (by omega)
 ·(
 have mP:k2=i:=by omega
 subst mP;have HN:Hid (jkj p ((cs.map Ck.l).take (k2+1)) ((cs.map Ck.l).drop (k2+1)) ((vs.map Vl.er).drop (k2+1))=R):=by (have:=HG.out;rw[lp.out] at this;exact this)
 go_wp2_with fail;go_roundw
 case rel=>exact⟨k2+1,by omega,by go_num,HN,HE.out.S⟩
 case measure=>simp[intOf];omega)))
 ·(
 obtain⟨j,hj⟩:∃ j,i=j+1:=⟨i - 1,by omega⟩
 obtain⟨z,hz⟩:∃ z,cs[j]?=some z:=⟨_,List.getElem?_eq_getElem (by omega)⟩
 have HU3:Hid (jz2 z.l xl=u3):=by (
 show jz2 z.l xl=u3
 rw[<- uD,hj];exact (jh6 (jbh (f:=Ck.l) hz)).symm)
 obtain⟨b3,off3,qi,bj,wu⟩:=jqi (HP.out.cl.below HE.out.S.bel) hz;obtain⟨rfl,rfl⟩:b1=b3/\off1=off3:=by cases qi;exact⟨rfl,rfl⟩
 have HZ:Hid (SibZ b1 (off1+j) z wr.drew):=⟨wu,HE.out.l1,(HP.out.ck z (List.mem_of_getElem? hz)).later HE.out.S.bel⟩;obtain⟨zA,zc,zl⟩:=z;dsimp only at HU3
 have d0:0<i:=by omega
 have s1:IntKind.i64.wrap ((i:Int) - 1)=(i:Int) - 1:=IntWalk.i64_in _ (by omega);have s2:0<=(i:Int) - 1:=by omega
 have s3:((i:Int) - 1).toNat=j:=by omega
 have s4:(i:Int) - 1<(cs.length:Int):=by omega
 have s5:1<=(i:Int):=by omega
 clear uD mS hz qi wu hj;cases u3 with
 | false=>(
 have HF:Hid (R=false):=by show R=false;rw[<- HG.out];rfl
 go_wp2_with fail;refine wp_region_noPanic ?_;refine wp_region_held_drew (S:=(fun w'=>w'.cell? ⟨w.heap.size,1,none⟩=some (.slice (some ⟨b,off,none⟩) 1 c)/\w'.cell? ⟨w.heap.size+1,3,none⟩=some (.slice (some ⟨b1,off1,none⟩) cs.length cc)/\w'.cell? ⟨w.heap.size+1,4,none⟩=some (.slice (some ⟨b2,off2,none⟩) vs.length vc)/\w'.cell? ⟨b,off,none⟩=some (.int .i64 ak)/\w'.cell? ⟨b,off+1,none⟩=some (.slice aA al.length ac)/\w'.cell? ⟨b1,off1+i,none⟩=some (.slice xA xl.length xc)/\w'.cell? ⟨b2,off2+i*5,none⟩=some (.int .u64 yn)/\w'.cell? ⟨b2,off2+i*5+1,none⟩=some (.int .u64 ym)/\w'.cell? ⟨b2,off2+i*5+2,none⟩=some (.slice yK yN.length yL)/\w'.cell? ⟨b2,off2+i*5+3,none⟩=some (.slice yO yQ.length yP)/\w'.cell? ⟨b2,off2+i*5+4,none⟩=some (.slice yR yT.length yS)/\w'.cell? ⟨b1,off1+j,none⟩=some (.slice zA zl.length zc))) (by kernel_rfl) ?_ (fun hHeld=>?_)
 ·exact⟨HE.out.S.i1,HE.out.S.c3,HE.out.S.c4,HE.out.S.s0,HE.out.S.s1,HE.out.x0,HE.out.y0,HE.out.y1,HE.out.y2,HE.out.y3,HE.out.y4,HZ.out.x0⟩
 refine tkH 0 18 ?_;refine tkH 1 19 ?_;refine tkH 2 20 ?_;refine tkH 3 21 ?_;refine tkH 4 22 ?_;refine rdH 5 (fun K hK=>?_);go_simp;go_wp2_with (go_at_call 93;refine (jwn xA xc xl _ _ HE.out.ix ma.out).mono ?_;rintro e w5 ⟨rfl,bh⟩;(replace HE:=Lh (HE.out.later bh);replace HZ:=Lh (HZ.out.later bh);clear bh))
 refine hK.out _ _ ?_ (fun hHeld=>?_)
 ·exact⟨HE.out.S.i1,HE.out.S.c3,HE.out.S.c4,HE.out.S.s0,HE.out.S.s1,HE.out.x0,HE.out.y0,HE.out.y1,HE.out.y2,HE.out.y3,HE.out.y4,HZ.out.x0⟩
 clear hK K;refine tkH 6 24 ?_;refine tkH 7 25 ?_;refine tkH 8 26 ?_;refine tkH 9 27 ?_;refine tkH 10 28 ?_;refine tkH 11 29 ?_;refine tkH 12 30 ?_;refine tkH 13 31 ?_;refine tkH 14 32 ?_;refine tkH 15 33 ?_;refine tkH 16 34 ?_;refine rdH 17 (fun K hK=>?_);go_simp;go_wp2_with (go_at_call 47;refine (IH.out (.mk yn ym yK yL yN yO yP yQ yR yS yT) _ HE.out.ia HE.out.iy).mono ?_;rintro e w6 ⟨rfl,bh⟩;(rw[pq.out];replace HE:=Lh (HE.out.later bh);replace HZ:=Lh (HZ.out.later bh);clear bh))
 refine hK.out _ _ ?_ (fun hHeld=>?_)
 ·exact⟨HE.out.S.i1,HE.out.S.c3,HE.out.S.c4,HE.out.S.s0,HE.out.S.s1,HE.out.x0,HE.out.y0,HE.out.y1,HE.out.y2,HE.out.y3,HE.out.y4,HZ.out.x0⟩
 clear hK K;refine tkH 18 36 ?_;refine tkH 19 37 ?_;refine tkH 20 38 ?_;refine tkH 21 39 ?_;refine tkH 22 40 ?_;refine tkH 23 41 ?_;refine tkH 24 42 ?_;refine tkH 25 43 ?_;refine tkH 26 44 ?_;refine tkH 27 45 ?_;refine tkH 28 46 ?_;refine tkH 29 47 ?_;refine tkH 30 48 ?_;refine tkH 31 49 ?_;refine tkH 32 50 ?_;refine tkH 33 51 ?_;refine tkH 34 52 ?_;refine rdH 35 (fun K hK=>?_);go_simp;go_wp2_with (go_at_call 99;refine (jgr zA xA zc xc zl xl _ _ HZ.out.ix HE.out.ix HU3.out).mono ?_;rintro e w7 ⟨rfl,bh⟩;(replace HE:=Lh (HE.out.later bh);replace HZ:=Lh (HZ.out.later bh);clear bh))
 refine hK.out _ _ ?_ (fun hHeld=>?_)
 ·exact⟨HE.out.S.i1,HE.out.S.c3,HE.out.S.c4,HE.out.S.s0,HE.out.S.s1,HE.out.x0,HE.out.y0,HE.out.y1,HE.out.y2,HE.out.y3,HE.out.y4,HZ.out.x0⟩
 clear hK K;refine tkH 36 54 ?_;refine tkH 37 55 ?_;refine tkH 38 56 ?_;refine wpAnyH_done (by kernel_rfl) ?_ _;refine NoPanic.normal ?_;go_wp2_with fail;go_ret;exact⟨jzi HF.out.symm,HE.out.S.bel⟩)
 | true=>(
 go_wp2_with fail;refine wp_region_noPanic ?_;refine wp_region_held_drew (S:=(fun w'=>w'.cell? ⟨w.heap.size,1,none⟩=some (.slice (some ⟨b,off,none⟩) 1 c)/\w'.cell? ⟨w.heap.size+1,3,none⟩=some (.slice (some ⟨b1,off1,none⟩) cs.length cc)/\w'.cell? ⟨w.heap.size+1,4,none⟩=some (.slice (some ⟨b2,off2,none⟩) vs.length vc)/\w'.cell? ⟨b,off,none⟩=some (.int .i64 ak)/\w'.cell? ⟨b,off+1,none⟩=some (.slice aA al.length ac)/\w'.cell? ⟨b1,off1+i,none⟩=some (.slice xA xl.length xc)/\w'.cell? ⟨b2,off2+i*5,none⟩=some (.int .u64 yn)/\w'.cell? ⟨b2,off2+i*5+1,none⟩=some (.int .u64 ym)/\w'.cell? ⟨b2,off2+i*5+2,none⟩=some (.slice yK yN.length yL)/\w'.cell? ⟨b2,off2+i*5+3,none⟩=some (.slice yO yQ.length yP)/\w'.cell? ⟨b2,off2+i*5+4,none⟩=some (.slice yR yT.length yS)/\w'.cell? ⟨b1,off1+j,none⟩=some (.slice zA zl.length zc))) (by kernel_rfl) ?_ (fun hHeld=>?_)
 ·exact⟨HE.out.S.i1,HE.out.S.c3,HE.out.S.c4,HE.out.S.s0,HE.out.S.s1,HE.out.x0,HE.out.y0,HE.out.y1,HE.out.y2,HE.out.y3,HE.out.y4,HZ.out.x0⟩
 refine tkH 0 18 ?_;refine tkH 1 19 ?_;refine tkH 2 20 ?_;refine tkH 3 21 ?_;refine tkH 4 22 ?_;refine rdH 5 (fun K hK=>?_);go_simp;go_wp2_with (go_at_call 93;refine (jwn xA xc xl _ _ HE.out.ix ma.out).mono ?_;rintro e w5 ⟨rfl,bh⟩;(replace HE:=Lh (HE.out.later bh);replace HZ:=Lh (HZ.out.later bh);clear bh))
 refine hK.out _ _ ?_ (fun hHeld=>?_)
 ·exact⟨HE.out.S.i1,HE.out.S.c3,HE.out.S.c4,HE.out.S.s0,HE.out.S.s1,HE.out.x0,HE.out.y0,HE.out.y1,HE.out.y2,HE.out.y3,HE.out.y4,HZ.out.x0⟩
 clear hK K;refine tkH 6 24 ?_;refine tkH 7 25 ?_;refine tkH 8 26 ?_;refine tkH 9 27 ?_;refine tkH 10 28 ?_;refine tkH 11 29 ?_;refine tkH 12 30 ?_;refine tkH 13 31 ?_;refine tkH 14 32 ?_;refine tkH 15 33 ?_;refine tkH 16 34 ?_;refine rdH 17 (fun K hK=>?_);go_simp;go_wp2_with (go_at_call 47;refine (IH.out (.mk yn ym yK yL yN yO yP yQ yR yS yT) _ HE.out.ia HE.out.iy).mono ?_;rintro e w6 ⟨rfl,bh⟩;(rw[pq.out];replace HE:=Lh (HE.out.later bh);replace HZ:=Lh (HZ.out.later bh);clear bh))
 refine hK.out _ _ ?_ (fun hHeld=>?_)
 ·exact⟨HE.out.S.i1,HE.out.S.c3,HE.out.S.c4,HE.out.S.s0,HE.out.S.s1,HE.out.x0,HE.out.y0,HE.out.y1,HE.out.y2,HE.out.y3,HE.out.y4,HZ.out.x0⟩
 clear hK K;refine tkH 18 36 ?_;refine tkH 19 37 ?_;refine tkH 20 38 ?_;refine tkH 21 39 ?_;refine tkH 22 40 ?_;refine tkH 23 41 ?_;refine tkH 24 42 ?_;refine tkH 25 43 ?_;refine tkH 26 44 ?_;refine tkH 27 45 ?_;refine tkH 28 46 ?_;refine tkH 29 47 ?_;refine tkH 30 48 ?_;refine tkH 31 49 ?_;refine tkH 32 50 ?_;refine tkH 33 51 ?_;refine tkH 34 52 ?_;refine rdH 35 (fun K hK=>?_);go_simp;go_wp2_with (go_at_call 99;refine (jgr zA xA zc xc zl xl _ _ HZ.out.ix HE.out.ix HU3.out).mono ?_;rintro e w7 ⟨rfl,bh⟩;(replace HE:=Lh (HE.out.later bh);replace HZ:=Lh (HZ.out.later bh);clear bh))
 refine hK.out _ _ ?_ (fun hHeld=>?_)
 ·exact⟨HE.out.S.i1,HE.out.S.c3,HE.out.S.c4,HE.out.S.s0,HE.out.S.s1,HE.out.x0,HE.out.y0,HE.out.y1,HE.out.y2,HE.out.y3,HE.out.y4,HZ.out.x0⟩
 clear hK K;refine tkH 36 54 ?_;refine tkH 37 55 ?_;refine tkH 38 56 ?_;refine wpAnyH_done (by kernel_rfl) ?_ _;refine NoPanic.normal ?_;clear s1 s2 s3 s4 s5 HZ HU3;go_wp2_with fail;go_loopw [6] (fun kv wr=>∃ (k2:Nat),k2<=i/\kv = .int .i64 k2/\Hid (((cs.map Ck.l).take k2).all (fun d=>decide (jxt d xl=2))=true)/\Hid (SibE w (some ⟨b,off,none⟩) c b off ak aA ac al (some ⟨b1,off1,none⟩) cc cs.length (some ⟨b2,off2,none⟩) vc vs.length b1 (off1+i) b2 (off2+i*5) ⟨xA,xc,xl⟩ (.mk yn ym yK yL yN yO yP yQ yR yS yT) wr)) (fun kv _=>i - (intOf kv).toNat)
 case atStart=>exact⟨0,Nat.zero_le _,rfl,by simp[Hid],HE⟩
 case round=>(
 clear HE;rename_i wq
 obtain⟨k2,fC,rfl,lp,HE⟩:=hrel;by_cases rB:k2<i
 ·(
 obtain⟨z2,db⟩:∃ z,cs[k2]?=some z:=⟨_,List.getElem?_eq_getElem (by omega)⟩
 obtain⟨b3,off3,qi,bj,wu⟩:=jqi (HP.out.cl.below HE.out.S.bel) db;obtain⟨rfl,rfl⟩:b1=b3/\off1=off3:=by cases qi;exact⟨rfl,rfl⟩
 have HIZ:=Lh ((HP.out.ck z2 (List.mem_of_getElem? db)).later HE.out.S.bel);have bd:=Lh db;clear db qi;obtain⟨zA2,zc2,zl2⟩:=z2;simp only[Ck.v] at wu;dsimp only at HIZ
 have e3:=HE.out.S.c3;have e0:=HE.out.x0;dsimp only at e0
 have hk2i:(k2:Int)<(cs.length:Int):=by omega
 obtain⟨u4,hu4⟩:=exq (jxt zl2 xl);have HU4:=Lh hu4;clear hu4;have hik:(k2:Int)<(i:Int):=by omega
 go_wp2_with fail;go_still_tail 10,(by kernel_rfl)
 change wpList _ _ _ _ _ wr.drew;go_wp2_with fail;refine (jhn zA2 xA zc2 xc zl2 xl u4 _ (HIZ.out.later (jqz wr)) (HE.out.ix.later (jqz wr)) HU4.out).mono ?_;rintro e w8 ⟨rfl,hb8⟩;replace HE:=Lh (HE.out.later ((jqz wr).trans hb8));clear hb8 wu e3 e0;by_cases h2:u4=2
 ·(
 subst h2;go_wp2_with fail;go_roundw
 case rel=>exact⟨k2+1,by omega,by go_num,jyf lp.out (jbh (f:=Ck.l) bd.out) (decide_eq_true HU4.out),HE⟩
 case measure=>simp[intOf];omega)
 ·(
 have d2:(u4 == 2)=false:=by simp[h2]
 have HF:Hid (R=false):=by (
 show R=false
 have ha:((cs.map Ck.l).take i).all (fun d=>decide (jxt d xl=2))=false:=jk5 (k:=k2) (x:=zl2) (by rw[List.getElem?_take_of_lt rB];exact jbh (f:=Ck.l) bd.out) (decide_eq_false (by rw[HU4.out];exact h2));rw[<- HG.out,ha];rfl)
 clear h2;go_wp2_with fail;go_ret;exact⟨jzi HF.out.symm,HE.out.S.bel⟩))
 ·(
 have mP:k2=i:=by omega
 subst mP;have HN:Hid (jkj p ((cs.map Ck.l).take (k2+1)) ((cs.map Ck.l).drop (k2+1)) ((vs.map Vl.er).drop (k2+1))=R):=by (have:=HG.out;rw[lp.out] at this;exact this)
 go_wp2_with fail;go_roundw
 case rel=>exact⟨k2+1,by omega,by go_num,HN,HE.out.S⟩
 case measure=>simp[intOf];omega)))))))
 ·(have hd:(cs.map Ck.l).drop i=[]:=List.drop_eq_nil_of_le (by rw[List.length_map];omega);have HEE:=Lh ((jhf (p:=p) (pre:=(cs.map Ck.l).take i) (vs:=(vs.map Vl.er).drop i) hd).symm.trans h0.out);clear hd h0;go_wp2_with fail;go_ret;exact⟨jzi HEE.out,ar⟩)))
 ·(
 rw[decide_eq_false c40,Bool.false_and];have d40:40<cs.length:=by omega
 go_enter Tryz.func94,Tryz.ntmps94;go_wp2_with fail;go_ret;exact⟨rfl,HC.out.bel⟩)
end V4
namespace R1
open Go.RowKit
theorem jca(A:Option Addr)(c:Nat)(xs:List Str)(w:World)(hl:jqr w A xs)(hn:xs.length<=maxLen):Calls Tryz.prog 92 #[.slice A xs.length c] w fun e w'=>e = .returned (.bool (decide (Srt xs)))/\∃ n,w'=w.drewN n:=by
 unfold maxLen at hn;go_enter Tryz.func92,Tryz.ntmps92;go_wp2
 go_loopw [3] (fun i wr=>∃ k n:Nat,(k+1<=xs.length\/k=0)/\i = .int .i64 (k+1:Nat)/\wr=w.drewN n/\Hid (Srt (xs.take (k+1)))) (fun i _=>xs.length - (intOf i).toNat)
 case atStart=>exact⟨0,0,.inr rfl,rfl,rfl,jba xs⟩
 case round=>(
 obtain⟨k,n,hk,rfl,rfl,h0⟩:=hrel;by_cases hlt:k+1<xs.length
 ·(
 obtain⟨b,off,rfl,hb,hc⟩:=hl.get hlt;obtain⟨x,hx⟩:∃ x,xs[k]?=some x:=⟨_,List.getElem?_eq_getElem (by omega)⟩
 obtain⟨y,hy⟩:∃ x,xs[k+1]?=some x:=⟨_,List.getElem?_eq_getElem hlt⟩
 have fV:=hc k x hx;have jj:=hc (k+1) y hy;have HX:=Lh hx;have HY:=Lh hy;clear hx hy hc hl;by_cases dz:x<y
 ·(
 have ab:=jkx dz;have HN:=Lh dz;clear dz;go_wp2
 go_quiet (fail)
 go_wp2
 go_roundw
 case rel=>exact⟨k+1,_,by omega,by go_num,rfl,jly h0.out HX.out HY.out HN.out⟩
 case measure=>simp[intOf];omega)
 ·(
 have ab:=jwb dz;have HN:=Lh dz;clear dz;go_wp2
 go_quiet (fail)
 go_wp2
 go_ret;exact⟨jzi (decide_eq_false (srt_no HX.out HY.out HN.out)).symm,drew2 _ _ _⟩))
 ·(
 go_wp2
 go_ret;exact⟨jzi (decide_eq_true (jhd h0.out (by omega))).symm,_,rfl⟩))
theorem jgk(A:Option Addr)(c:Nat)(xs:List Str)(w:World)(hl:jqr w A xs)(hn:xs.length<=maxLen):Calls Tryz.prog 159 #[.slice A xs.length c] w fun e w'=>e = .returned (.bool (decide (Srt xs)))/\∃ n,w'=w.drewN n:=by
 unfold maxLen at hn;go_enter Tryz.func159,Tryz.ntmps159;go_wp2
 go_loopw [3] (fun i wr=>∃ k n:Nat,(k+1<=xs.length\/k=0)/\i = .int .i64 (k+1:Nat)/\wr=w.drewN n/\Hid (Srt (xs.take (k+1)))) (fun i _=>xs.length - (intOf i).toNat)
 case atStart=>exact⟨0,0,.inr rfl,rfl,rfl,jba xs⟩
 case round=>(
 obtain⟨k,n,hk,rfl,rfl,h0⟩:=hrel;by_cases hlt:k+1<xs.length
 ·(
 obtain⟨b,off,rfl,hb,hc⟩:=hl.get hlt;obtain⟨x,hx⟩:∃ x,xs[k]?=some x:=⟨_,List.getElem?_eq_getElem (by omega)⟩
 obtain⟨y,hy⟩:∃ x,xs[k+1]?=some x:=⟨_,List.getElem?_eq_getElem hlt⟩
 have fV:=hc k x hx;have jj:=hc (k+1) y hy;have HX:=Lh hx;have HY:=Lh hy;clear hx hy hc hl;by_cases dz:x<y
 ·(
 have ab:=jwb (jxg dz);have bj:=jvr (fun e:y=x=>jqf x (e▸dz));have HN:=Lh dz;clear dz;go_wp2
 go_quiet (fail)
 go_wp2
 go_roundw
 case rel=>exact⟨k+1,_,by omega,by go_num,rfl,jly h0.out HX.out HY.out HN.out⟩
 case measure=>simp[intOf];omega)
 ·(
 have ab:(Op.bytesLess y x || y == x)=true:=by (
 rcases jvg x y with h | h | h
 ·exact absurd h dz
 ·subst h;simp
 ·rw[jkx h];rfl)
 have HN:=Lh dz;clear dz;go_wp2
 go_quiet (fail)
 go_wp2
 go_ret;exact⟨jzi (decide_eq_false (srt_no HX.out HY.out HN.out)).symm,drew2 _ _ _⟩))
 ·(
 go_wp2
 go_ret;exact⟨jzi (decide_eq_true (jhd h0.out (by omega))).symm,_,rfl⟩))
theorem jtj(A:Option Addr)(c:Nat)(xs:List Str)(w:World)(hl:jqr w A xs)(hn:xs.length<=maxLen):Calls Tryz.prog 141 #[.slice A xs.length c] w fun e w'=>e = .returned (.bool (decide (Srt xs)))/\∃ n,w'=w.drewN n:=by
 go_enter Tryz.func141,Tryz.ntmps141;go_wp2_with fail;refine (jgk A c xs w hl hn).mono ?_;rintro e w' ⟨rfl,n,rfl⟩;go_wp2
 go_ret;exact⟨rfl,n,rfl⟩
end R1
end Go.Proofs.YtobggoephhjofaaGreatDoor
