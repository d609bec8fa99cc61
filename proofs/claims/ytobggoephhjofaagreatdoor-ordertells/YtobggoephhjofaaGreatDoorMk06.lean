/- A part. No condition. -/
import Derived.Test.YtobggoephhjofaaGreatDoorMk05
set_option maxRecDepth 100000
set_option maxHeartbeats 16000000
namespace Go.Proofs.YtobggoephhjofaaGreatDoor
namespace V4
open Go.RowKit
open C3 (Tk Asc isC ofC jxt Nok In jzk jzf jqz RetT)
open S2 (Tr Sc isT)
def jq5(k:Int)(x:Va):Bool:=jql k x && (decide (R1.Srt x.s) && decide (x.s.length<=40))
def jhu(p:Va->Bool)(bot:Va)(vs:List Va):Bool:=vs.all fun y=>p y && !decide (y=bot)
def jvb(cs:List (List Tk)):Bool:=match cs with
  | []=>true
  | c :: _=>isC c && decide (0<c.length)
def jgt(p q:Va->Bool)(vs:List Va):Bool:=match vs with
  | y :: z :: _=>p y && q z
  | _=>false
def isV:Tr->Va->Bool
  | .mk k [],x=>jq5 k x && (if k=7 then jvb x.c else true)
  | .mk k [a],x=>jq5 k x && (if k=4 then jhu (isV a) (jqv a) x.v else jmk (isV a) x)
  | .mk k [a,b],x=>jq5 k x && jgt (isV a) (isV b) x.v
  | .mk _ (_ :: _ :: _ :: _),_=>false
structure jj5 (w:World) (k:Int) (A:Option Addr) (ln c:Nat) (n m:Int) (sA:Option Addr) (sn sc:Nat) (cA:Option Addr) (cn cc:Nat) (vA:Option Addr) (vn vc:Nat) (W:World):Prop where
  i0:W.cell? ⟨w.heap.size,0,none⟩=some (.int .i64 k)
  i1:W.cell? ⟨w.heap.size,1,none⟩=some (.slice A ln c)
  c0:W.cell? ⟨w.heap.size+1,0,none⟩=some (.int .u64 n)
  c1:W.cell? ⟨w.heap.size+1,1,none⟩=some (.int .u64 m)
  c2:W.cell? ⟨w.heap.size+1,2,none⟩=some (.slice sA sn sc)
  c3:W.cell? ⟨w.heap.size+1,3,none⟩=some (.slice cA cn cc)
  c4:W.cell? ⟨w.heap.size+1,4,none⟩=some (.slice vA vn vc)
  sz:w.heap.size+1<W.heap.size
  bel:Below w.heap.size w W
theorem jj5.later{w:World}{k:Int}{A:Option Addr}{ln c:Nat}{n m:Int}{sA:Option Addr}{sn sc:Nat}{cA:Option Addr}{cn cc:Nat}{vA:Option Addr}{vn vc:Nat}{W W':World}(h:jj5 w k A ln c n m sA sn sc cA cn cc vA vn vc W)(hb:Below W.heap.size W W'):jj5 w k A ln c n m sA sn sc cA cn cc vA vn vc W':=by
 have h0:w.heap.size<W.heap.size:=by have:=h.sz;omega
 exact⟨(hb.cell (p:=⟨w.heap.size,0,none⟩) h0).trans h.i0,(hb.cell (p:=⟨w.heap.size,1,none⟩) h0).trans h.i1,(hb.cell (p:=⟨w.heap.size+1,0,none⟩) h.sz).trans h.c0,(hb.cell (p:=⟨w.heap.size+1,1,none⟩) h.sz).trans h.c1,(hb.cell (p:=⟨w.heap.size+1,2,none⟩) h.sz).trans h.c2,
   (hb.cell (p:=⟨w.heap.size+1,3,none⟩) h.sz).trans h.c3,(hb.cell (p:=⟨w.heap.size+1,4,none⟩) h.sz).trans h.c4,ltl h.sz hb.size,h.bel.trans (hb.mono h.bel.size)⟩
structure Row2 (b off:Nat) (a:Sc) (b2 o2:Nat) (y:Vl) (W:World):Prop where
  s0:W.cell? ⟨b,off,none⟩=some (.int .i64 a.k)
  s1:W.cell? ⟨b,off+1,none⟩=some a.v1
  y0:W.cell? ⟨b2,o2,none⟩=some (.int .u64 y.n)
  y1:W.cell? ⟨b2,o2+1,none⟩=some (.int .u64 y.m)
  y2:W.cell? ⟨b2,o2+2,none⟩=some y.s1
  y3:W.cell? ⟨b2,o2+3,none⟩=some y.c1
  y4:W.cell? ⟨b2,o2+4,none⟩=some y.v1
  l1:b<W.heap.size
  l2:b2<W.heap.size
  ia:a.In W.heap.size W
  iy:y.In W
theorem Row2.later{b off:Nat}{a:Sc}{b2 o2:Nat}{y:Vl}{W W':World}(h:Row2 b off a b2 o2 y W)(hb:Below W.heap.size W W'):Row2 b off a b2 o2 y W' :=
  ⟨(hb.cell (p:=⟨b,off,none⟩) h.l1).trans h.s0,(hb.cell (p:=⟨b,off+1,none⟩) h.l1).trans h.s1,(hb.cell (p:=⟨b2,o2,none⟩) h.l2).trans h.y0,(hb.cell (p:=⟨b2,o2+1,none⟩) h.l2).trans h.y1,(hb.cell (p:=⟨b2,o2+2,none⟩) h.l2).trans h.y2,(hb.cell (p:=⟨b2,o2+3,none⟩) h.l2).trans h.y3,(hb.cell (p:=⟨b2,o2+4,none⟩) h.l2).trans h.y4,
    ltl h.l1 hb.size,ltl h.l2 hb.size,h.ia.later hb,h.iy.later hb⟩
theorem jxq(k:Int)(A:Option Addr)(c ln:Nat)(n m:Int)(sA:Option Addr)(sc:Nat)(ss:List Str)(cA:Option Addr)(cc:Nat)(cs:List Ck)(vA:Option Addr)(vc:Nat)(vs:List Vl)(v:Bool)(w:World)(h:(Vl.mk n m sA sc ss cA cc cs vA vc vs).In w)(hv:jql k (Vl.mk n m sA sc ss cA cc cs vA vc vs).er=v) :
    Calls Tryz.prog 91 #[.agg #[.int .i64 k,.slice A ln c],.agg #[.int .u64 n,.int .u64 m,.slice sA ss.length sc,.slice cA cs.length cc,.slice vA vs.length vc]] w (jz6 w (.bool v)):=hv▸jdr k A c ln _ w h
theorem jq8(A:Option Addr)(c:Nat)(xs:List Str)(v:Bool)(w:World)(hl:jqr w A xs)(hn:xs.length<=maxLen)(hv:decide (R1.Srt xs)=v) :
    Calls Tryz.prog 92 #[.slice A xs.length c] w (jz6 w (.bool v)):=hv▸(R1.jca A c xs w hl hn).mono fun _ _ ⟨h1,n,h2⟩=>⟨h1,h2▸jzq (Below.refl _ _) n⟩
theorem refIsV_1(A:Option Addr)(c:Nat)(x:Vl)(w:World)(hx:x.In w):Calls Tryz.prog 47 #[(Sc.mk 1 A c []).val,x.val] w (jz6 w (.bool (jq5 1 x.er && true))):=by
 obtain⟨n,m,sA,sc,ss,cA,cc,cs,vA,vc,vs⟩:=x;have cE:Hid (Below w.heap.size w ((w.alloc (.cells #[.int .i64 1,.slice A 0 c] 24)).alloc (.cells #[.int .u64 n,.int .u64 m,.slice sA ss.length sc,.slice cA cs.length cc,.slice vA vs.length vc] 30))):=jzk (jzf _ _);have HX:=Lh (hx.later cE.out);have P:=hx.out;have HP:=Lh P;have fE:Hid (ss.length<=maxLen):=leT P.sb.1 P.sb.2.1;have qa:ss.length<=9223372036854775807:=by have:=P.sb;unfold maxLen at this;omega
 have d8:cs.length<=9223372036854775807:=by have:=P.cb;unfold maxLen at this;omega
 have iB:vs.length<=9223372036854775807:=by have:=P.vb;unfold maxLen at this;omega
 obtain⟨t,ht⟩:=exq (jql 1 (Vl.mk n m sA sc ss cA cc cs vA vc vs).er);obtain⟨u,hu⟩:=exq (decide (R1.Srt ss));obtain⟨q,hq⟩:=exq (decide (ss.length<=40));have HF:Hid (jq5 1 (Vl.mk n m sA sc ss cA cc cs vA vc vs).er=(t && (u && q))):=by (
 show jq5 _ _=_
 unfold jq5;rw[ht,jzw,show (Va.mk n m ss (cs.map Ck.l) (vs.map Vl.er)).s=ss from rfl,hu,hq])
 have HT:=Lh ht;have HU:=Lh hu;have HQ:=Lh hq;rw[HF.out];clear hx P ht hu hq HF;simp only[S2.jzh,jzh,List.length_nil];go_enter Tryz.func47,Tryz.ntmps47;go_wp2_with fail;refine (jxq 1 A c 0 n m sA sc ss cA cc cs vA vc vs t _ HX.out HT.out).mono ?_;rintro e w1 ⟨rfl,af⟩;have au:Hid (jj5 w 1 A 0 c n m sA ss.length sc cA cs.length cc vA vs.length vc w1):=jj5.later ⟨by go_simp,by go_simp,by go_simp,by go_simp,by go_simp,by go_simp,by go_simp,by simp,cE.out⟩ af;clear af cE HX;cases t with
 | false=>(go_wp2_with fail;go_ret;exact⟨rfl,au.out.bel⟩)
 | true=>(
 have c2:=au.out.c2;go_wp2_with fail;refine (jq8 sA sc ss u _ (HP.out.sl.below au.out.bel) fE.out HU.out).mono ?_;rintro e w2 ⟨rfl,ab⟩;replace au:=Lh (au.out.later ab);clear ab c2;cases u with
 | false=>(go_wp2_with fail;go_ret;exact⟨rfl,au.out.bel⟩)
 | true=>(
 have c2:=au.out.c2;have i0:=au.out.i0;cases q with
 | false=>(
 have dq:40<ss.length:=by have:=of_decide_eq_false HQ.out;omega
 go_wp2_with fail;go_ret;exact⟨rfl,au.out.bel⟩)
 | true=>(have dq:decide (40<(ss.length:Int))=false:=decide_eq_false (by have:=of_decide_eq_true HQ.out;omega);go_wp2_with fail;go_ret;exact⟨rfl,au.out.bel⟩)))
theorem refIsV_2(A:Option Addr)(c:Nat)(x:Vl)(w:World)(hx:x.In w):Calls Tryz.prog 47 #[(Sc.mk 2 A c []).val,x.val] w (jz6 w (.bool (jq5 2 x.er && true))):=by
 obtain⟨n,m,sA,sc,ss,cA,cc,cs,vA,vc,vs⟩:=x;have cE:Hid (Below w.heap.size w ((w.alloc (.cells #[.int .i64 2,.slice A 0 c] 24)).alloc (.cells #[.int .u64 n,.int .u64 m,.slice sA ss.length sc,.slice cA cs.length cc,.slice vA vs.length vc] 30))):=jzk (jzf _ _);have HX:=Lh (hx.later cE.out);have P:=hx.out;have HP:=Lh P;have fE:Hid (ss.length<=maxLen):=leT P.sb.1 P.sb.2.1;have qa:ss.length<=9223372036854775807:=by have:=P.sb;unfold maxLen at this;omega
 have d8:cs.length<=9223372036854775807:=by have:=P.cb;unfold maxLen at this;omega
 have iB:vs.length<=9223372036854775807:=by have:=P.vb;unfold maxLen at this;omega
 obtain⟨t,ht⟩:=exq (jql 2 (Vl.mk n m sA sc ss cA cc cs vA vc vs).er);obtain⟨u,hu⟩:=exq (decide (R1.Srt ss));obtain⟨q,hq⟩:=exq (decide (ss.length<=40));have HF:Hid (jq5 2 (Vl.mk n m sA sc ss cA cc cs vA vc vs).er=(t && (u && q))):=by (
 show jq5 _ _=_
 unfold jq5;rw[ht,jzw,show (Va.mk n m ss (cs.map Ck.l) (vs.map Vl.er)).s=ss from rfl,hu,hq])
 have HT:=Lh ht;have HU:=Lh hu;have HQ:=Lh hq;rw[HF.out];clear hx P ht hu hq HF;simp only[S2.jzh,jzh,List.length_nil];go_enter Tryz.func47,Tryz.ntmps47;go_wp2_with fail;refine (jxq 2 A c 0 n m sA sc ss cA cc cs vA vc vs t _ HX.out HT.out).mono ?_;rintro e w1 ⟨rfl,af⟩;have au:Hid (jj5 w 2 A 0 c n m sA ss.length sc cA cs.length cc vA vs.length vc w1):=jj5.later ⟨by go_simp,by go_simp,by go_simp,by go_simp,by go_simp,by go_simp,by go_simp,by simp,cE.out⟩ af;clear af cE HX;cases t with
 | false=>(go_wp2_with fail;go_ret;exact⟨rfl,au.out.bel⟩)
 | true=>(
 have c2:=au.out.c2;go_wp2_with fail;refine (jq8 sA sc ss u _ (HP.out.sl.below au.out.bel) fE.out HU.out).mono ?_;rintro e w2 ⟨rfl,ab⟩;replace au:=Lh (au.out.later ab);clear ab c2;cases u with
 | false=>(go_wp2_with fail;go_ret;exact⟨rfl,au.out.bel⟩)
 | true=>(
 have c2:=au.out.c2;have i0:=au.out.i0;cases q with
 | false=>(
 have dq:40<ss.length:=by have:=of_decide_eq_false HQ.out;omega
 go_wp2_with fail;go_ret;exact⟨rfl,au.out.bel⟩)
 | true=>(have dq:decide (40<(ss.length:Int))=false:=decide_eq_false (by have:=of_decide_eq_true HQ.out;omega);go_wp2_with fail;go_ret;exact⟨rfl,au.out.bel⟩)))
theorem refIsV_3(A:Option Addr)(c:Nat)(x:Vl)(w:World)(hx:x.In w):Calls Tryz.prog 47 #[(Sc.mk 3 A c []).val,x.val] w (jz6 w (.bool (jq5 3 x.er && true))):=by
 obtain⟨n,m,sA,sc,ss,cA,cc,cs,vA,vc,vs⟩:=x;have cE:Hid (Below w.heap.size w ((w.alloc (.cells #[.int .i64 3,.slice A 0 c] 24)).alloc (.cells #[.int .u64 n,.int .u64 m,.slice sA ss.length sc,.slice cA cs.length cc,.slice vA vs.length vc] 30))):=jzk (jzf _ _);have HX:=Lh (hx.later cE.out);have P:=hx.out;have HP:=Lh P;have fE:Hid (ss.length<=maxLen):=leT P.sb.1 P.sb.2.1;have qa:ss.length<=9223372036854775807:=by have:=P.sb;unfold maxLen at this;omega
 have d8:cs.length<=9223372036854775807:=by have:=P.cb;unfold maxLen at this;omega
 have iB:vs.length<=9223372036854775807:=by have:=P.vb;unfold maxLen at this;omega
 obtain⟨t,ht⟩:=exq (jql 3 (Vl.mk n m sA sc ss cA cc cs vA vc vs).er);obtain⟨u,hu⟩:=exq (decide (R1.Srt ss));obtain⟨q,hq⟩:=exq (decide (ss.length<=40));have HF:Hid (jq5 3 (Vl.mk n m sA sc ss cA cc cs vA vc vs).er=(t && (u && q))):=by (
 show jq5 _ _=_
 unfold jq5;rw[ht,jzw,show (Va.mk n m ss (cs.map Ck.l) (vs.map Vl.er)).s=ss from rfl,hu,hq])
 have HT:=Lh ht;have HU:=Lh hu;have HQ:=Lh hq;rw[HF.out];clear hx P ht hu hq HF;simp only[S2.jzh,jzh,List.length_nil];go_enter Tryz.func47,Tryz.ntmps47;go_wp2_with fail;refine (jxq 3 A c 0 n m sA sc ss cA cc cs vA vc vs t _ HX.out HT.out).mono ?_;rintro e w1 ⟨rfl,af⟩;have au:Hid (jj5 w 3 A 0 c n m sA ss.length sc cA cs.length cc vA vs.length vc w1):=jj5.later ⟨by go_simp,by go_simp,by go_simp,by go_simp,by go_simp,by go_simp,by go_simp,by simp,cE.out⟩ af;clear af cE HX;cases t with
 | false=>(go_wp2_with fail;go_ret;exact⟨rfl,au.out.bel⟩)
 | true=>(
 have c2:=au.out.c2;go_wp2_with fail;refine (jq8 sA sc ss u _ (HP.out.sl.below au.out.bel) fE.out HU.out).mono ?_;rintro e w2 ⟨rfl,ab⟩;replace au:=Lh (au.out.later ab);clear ab c2;cases u with
 | false=>(go_wp2_with fail;go_ret;exact⟨rfl,au.out.bel⟩)
 | true=>(
 have c2:=au.out.c2;have i0:=au.out.i0;cases q with
 | false=>(
 have dq:40<ss.length:=by have:=of_decide_eq_false HQ.out;omega
 go_wp2_with fail;go_ret;exact⟨rfl,au.out.bel⟩)
 | true=>(have dq:decide (40<(ss.length:Int))=false:=decide_eq_false (by have:=of_decide_eq_true HQ.out;omega);go_wp2_with fail;go_ret;exact⟨rfl,au.out.bel⟩)))
theorem refIsV_6(A:Option Addr)(c:Nat)(x:Vl)(w:World)(hx:x.In w):Calls Tryz.prog 47 #[(Sc.mk 6 A c []).val,x.val] w (jz6 w (.bool (jq5 6 x.er && true))):=by
 obtain⟨n,m,sA,sc,ss,cA,cc,cs,vA,vc,vs⟩:=x;have cE:Hid (Below w.heap.size w ((w.alloc (.cells #[.int .i64 6,.slice A 0 c] 24)).alloc (.cells #[.int .u64 n,.int .u64 m,.slice sA ss.length sc,.slice cA cs.length cc,.slice vA vs.length vc] 30))):=jzk (jzf _ _);have HX:=Lh (hx.later cE.out);have P:=hx.out;have HP:=Lh P;have fE:Hid (ss.length<=maxLen):=leT P.sb.1 P.sb.2.1;have qa:ss.length<=9223372036854775807:=by have:=P.sb;unfold maxLen at this;omega
 have d8:cs.length<=9223372036854775807:=by have:=P.cb;unfold maxLen at this;omega
 have iB:vs.length<=9223372036854775807:=by have:=P.vb;unfold maxLen at this;omega
 obtain⟨t,ht⟩:=exq (jql 6 (Vl.mk n m sA sc ss cA cc cs vA vc vs).er);obtain⟨u,hu⟩:=exq (decide (R1.Srt ss));obtain⟨q,hq⟩:=exq (decide (ss.length<=40));have HF:Hid (jq5 6 (Vl.mk n m sA sc ss cA cc cs vA vc vs).er=(t && (u && q))):=by (
 show jq5 _ _=_
 unfold jq5;rw[ht,jzw,show (Va.mk n m ss (cs.map Ck.l) (vs.map Vl.er)).s=ss from rfl,hu,hq])
 have HT:=Lh ht;have HU:=Lh hu;have HQ:=Lh hq;rw[HF.out];clear hx P ht hu hq HF;simp only[S2.jzh,jzh,List.length_nil];go_enter Tryz.func47,Tryz.ntmps47;go_wp2_with fail;refine (jxq 6 A c 0 n m sA sc ss cA cc cs vA vc vs t _ HX.out HT.out).mono ?_;rintro e w1 ⟨rfl,af⟩;have au:Hid (jj5 w 6 A 0 c n m sA ss.length sc cA cs.length cc vA vs.length vc w1):=jj5.later ⟨by go_simp,by go_simp,by go_simp,by go_simp,by go_simp,by go_simp,by go_simp,by simp,cE.out⟩ af;clear af cE HX;cases t with
 | false=>(go_wp2_with fail;go_ret;exact⟨rfl,au.out.bel⟩)
 | true=>(
 have c2:=au.out.c2;go_wp2_with fail;refine (jq8 sA sc ss u _ (HP.out.sl.below au.out.bel) fE.out HU.out).mono ?_;rintro e w2 ⟨rfl,ab⟩;replace au:=Lh (au.out.later ab);clear ab c2;cases u with
 | false=>(go_wp2_with fail;go_ret;exact⟨rfl,au.out.bel⟩)
 | true=>(
 have c2:=au.out.c2;have i0:=au.out.i0;cases q with
 | false=>(
 have dq:40<ss.length:=by have:=of_decide_eq_false HQ.out;omega
 go_wp2_with fail;go_ret;exact⟨rfl,au.out.bel⟩)
 | true=>(have dq:decide (40<(ss.length:Int))=false:=decide_eq_false (by have:=of_decide_eq_true HQ.out;omega);go_wp2_with fail;go_ret;exact⟨rfl,au.out.bel⟩)))
theorem refIsV_7(A:Option Addr)(c:Nat)(x:Vl)(w:World)(hx:x.In w):Calls Tryz.prog 47 #[(Sc.mk 7 A c []).val,x.val] w (jz6 w (.bool (jq5 7 x.er && jvb x.er.c))):=by
 obtain⟨n,m,sA,sc,ss,cA,cc,cs,vA,vc,vs⟩:=x;have cE:Hid (Below w.heap.size w ((w.alloc (.cells #[.int .i64 7,.slice A 0 c] 24)).alloc (.cells #[.int .u64 n,.int .u64 m,.slice sA ss.length sc,.slice cA cs.length cc,.slice vA vs.length vc] 30))):=jzk (jzf _ _);have HX:=Lh (hx.later cE.out);have P:=hx.out;have HP:=Lh P;have fE:Hid (ss.length<=maxLen):=leT P.sb.1 P.sb.2.1;have qa:ss.length<=9223372036854775807:=by have:=P.sb;unfold maxLen at this;omega
 have d8:cs.length<=9223372036854775807:=by have:=P.cb;unfold maxLen at this;omega
 have iB:vs.length<=9223372036854775807:=by have:=P.vb;unfold maxLen at this;omega
 obtain⟨t,ht⟩:=exq (jql 7 (Vl.mk n m sA sc ss cA cc cs vA vc vs).er);obtain⟨u,hu⟩:=exq (decide (R1.Srt ss));obtain⟨q,hq⟩:=exq (decide (ss.length<=40));have HF:Hid (jq5 7 (Vl.mk n m sA sc ss cA cc cs vA vc vs).er=(t && (u && q))):=by (
 show jq5 _ _=_
 unfold jq5;rw[ht,jzw,show (Va.mk n m ss (cs.map Ck.l) (vs.map Vl.er)).s=ss from rfl,hu,hq])
 have HT:=Lh ht;have HU:=Lh hu;have HQ:=Lh hq;rw[HF.out];clear hx P ht hu hq HF;simp only[S2.jzh,jzh,List.length_nil];go_enter Tryz.func47,Tryz.ntmps47;go_wp2_with fail;refine (jxq 7 A c 0 n m sA sc ss cA cc cs vA vc vs t _ HX.out HT.out).mono ?_;rintro e w1 ⟨rfl,af⟩;have au:Hid (jj5 w 7 A 0 c n m sA ss.length sc cA cs.length cc vA vs.length vc w1):=jj5.later ⟨by go_simp,by go_simp,by go_simp,by go_simp,by go_simp,by go_simp,by go_simp,by simp,cE.out⟩ af;clear af cE HX;cases t with
 | false=>(go_wp2_with fail;go_ret;exact⟨rfl,au.out.bel⟩)
 | true=>(
 have c2:=au.out.c2;go_wp2_with fail;refine (jq8 sA sc ss u _ (HP.out.sl.below au.out.bel) fE.out HU.out).mono ?_;rintro e w2 ⟨rfl,ab⟩;replace au:=Lh (au.out.later ab);clear ab c2;cases u with
 | false=>(go_wp2_with fail;go_ret;exact⟨rfl,au.out.bel⟩)
 | true=>(
 have c2:=au.out.c2;have i0:=au.out.i0;cases q with
 | false=>(
 have dq:40<ss.length:=by have:=of_decide_eq_false HQ.out;omega
 go_wp2_with fail;go_ret;exact⟨rfl,au.out.bel⟩)
 | true=>(
 have dq:decide (40<(ss.length:Int))=false:=decide_eq_false (by have:=of_decide_eq_true HQ.out;omega);have c3:=au.out.c3;cases cs with
 | nil=>(simp only[List.length_nil] at c3;go_wp2_with fail;go_ret;exact⟨jzi (by rw[jzw];rfl),au.out.bel⟩)
 | cons x0 cs=>(
 obtain⟨b1,off1,rfl,af,fV⟩:=jqi (HP.out.cl.below au.out.bel) (k:=0) (x:=x0) rfl;have pA:=Lh ((HP.out.ck x0 (by simp)).later au.out.bel);obtain⟨xA,xc,xl⟩:=x0;simp only[Ck.v,Nat.add_zero] at fV;dsimp only at pA
 simp only[List.length_cons] at c3 d8;have gl:(((cs.length:Int)+1) == 0)=false:=beq_eq_false_iff_ne.2 (by omega);have fU:0<(cs.length:Int)+1:=by omega
 obtain⟨v,hv⟩:=exq (isC xl);have HV:=Lh hv;have HR:Hid (jvb (Vl.mk n m sA sc ss (some ⟨b1,off1,none⟩) cc (⟨xA,xc,xl⟩ :: cs) vA vc vs).er.c=(v && decide (0<xl.length))):=by show jvb _=_;rw[jzw,<- hv];rfl
 clear hv;go_wp2_with fail;refine (jwn xA xc xl v _ pA.out HV.out).mono ?_;rintro e w3 ⟨rfl,bj⟩;have hcx3:=(bj.cell (p:=⟨b1,off1,none⟩) (ltl af au.out.bel.size)).trans fV;replace au:=Lh (au.out.later bj);clear bj fV c3 c2 i0;have c3:=au.out.c3;simp only[List.length_cons] at c3;cases v with
 | false=>(go_wp2_with fail;go_ret;exact⟨jzi (by rw[HR.out];rfl),au.out.bel⟩)
 | true=>(
 have ts:xl.length<=9223372036854775807:=by have:=pA.out.cap;have:=pA.out.top;unfold maxLen at this;omega
 go_wp2_with fail;go_ret;refine⟨jzi ?_,au.out.bel⟩;rw[HR.out];simp)))))
theorem refIsV_8(A:Option Addr)(c:Nat)(a:Sc)(x:Vl)(w:World)(hs:(Sc.mk 8 A c [a]).In w.heap.size w)(hx:x.In w)(p:Va->Bool)(ih:∀ (y:Vl) (w:World),a.In w.heap.size w->y.In w->Calls Tryz.prog 47 #[a.val,y.val] w (jz6 w (.bool (p y.er)))):Calls Tryz.prog 47 #[(Sc.mk 8 A c [a]).val,x.val] w (jz6 w (.bool (jq5 8 x.er && jmk p x.er))):=by
 obtain⟨n,m,sA,sc,ss,cA,cc,cs,vA,vc,vs⟩:=x;have HS:=Lh hs;have jO:=Lh hx;clear hs;have cE:Hid (Below w.heap.size w ((w.alloc (.cells #[.int .i64 8,.slice A 1 c] 24)).alloc (.cells #[.int .u64 n,.int .u64 m,.slice sA ss.length sc,.slice cA cs.length cc,.slice vA vs.length vc] 30))):=jzk (jzf _ _);have HX:=Lh (hx.later cE.out);have P:=hx.out;have HP:=Lh P;have fE:Hid (ss.length<=maxLen):=leT P.sb.1 P.sb.2.1;have qa:ss.length<=9223372036854775807:=by have:=P.sb;unfold maxLen at this;omega
 have d8:cs.length<=9223372036854775807:=by have:=P.cb;unfold maxLen at this;omega
 have iB:vs.length<=9223372036854775807:=by have:=P.vb;unfold maxLen at this;omega
 obtain⟨t,ht⟩:=exq (jql 8 (Vl.mk n m sA sc ss cA cc cs vA vc vs).er);obtain⟨u,hu⟩:=exq (decide (R1.Srt ss));obtain⟨q,hq⟩:=exq (decide (ss.length<=40));have HF:Hid (jq5 8 (Vl.mk n m sA sc ss cA cc cs vA vc vs).er=(t && (u && q))):=by (
 show jq5 _ _=_
 unfold jq5;rw[ht,jzw,show (Va.mk n m ss (cs.map Ck.l) (vs.map Vl.er)).s=ss from rfl,hu,hq])
 have HT:=Lh ht;have HU:=Lh hu;have HQ:=Lh hq;rw[HF.out];clear hx P ht hu hq HF;simp only[S2.jzh,jzh,List.length_nil,List.length_cons,Nat.zero_add];go_enter Tryz.func47,Tryz.ntmps47;go_wp2_with fail;refine (jxq 8 A c 1 n m sA sc ss cA cc cs vA vc vs t _ HX.out HT.out).mono ?_;rintro e w1 ⟨rfl,af⟩;have au:Hid (jj5 w 8 A 1 c n m sA ss.length sc cA cs.length cc vA vs.length vc w1):=jj5.later ⟨by go_simp,by go_simp,by go_simp,by go_simp,by go_simp,by go_simp,by go_simp,by simp,cE.out⟩ af;clear af cE HX;cases t with
 | false=>(go_wp2_with fail;go_ret;exact⟨rfl,au.out.bel⟩)
 | true=>(
 have c2:=au.out.c2;go_wp2_with fail;refine (jq8 sA sc ss u _ (HP.out.sl.below au.out.bel) fE.out HU.out).mono ?_;rintro e w2 ⟨rfl,ab⟩;replace au:=Lh (au.out.later ab);clear ab c2;cases u with
 | false=>(go_wp2_with fail;go_ret;exact⟨rfl,au.out.bel⟩)
 | true=>(
 have c2:=au.out.c2;have i0:=au.out.i0;cases q with
 | false=>(
 have dq:40<ss.length:=by have:=of_decide_eq_false HQ.out;omega
 go_wp2_with fail;go_ret;exact⟨rfl,au.out.bel⟩)
 | true=>(
 have dq:decide (40<(ss.length:Int))=false:=decide_eq_false (by have:=of_decide_eq_true HQ.out;omega);have aq:(Vl.mk n m sA sc ss cA cc cs vA vc vs).er.c.length=(Vl.mk n m sA sc ss cA cc cs vA vc vs).er.v.length:=by (have h:=HT.out;rw[jzw,jm9 8 (by decide) (by decide) (by decide) (by decide) (by decide) (by decide) (by decide),Bool.and_eq_true] at h;rw[jzw];exact of_decide_eq_true h.2)
 have HSI:=Lh ((HS.out.keep au.out.bel).up au.out.bel.size);have qD:=Lh (jO.out.later au.out.bel);have wV:=Lh (jop 8 A c a (.mk n m sA sc ss cA cc cs vA vc vs) w2 HSI.out qD.out aq p ih);clear aq ih;obtain⟨ak,aA,ac,al⟩:=a;simp only[S2.jzh,jzh,List.length_nil,List.length_cons,Nat.zero_add] at wV;have i1:=au.out.i1;have c0:=au.out.c0;have c1:=au.out.c1;have c3:=au.out.c3;have c4:=au.out.c4;go_wp2_with fail;refine wV.out.mono ?_;rintro e w3 ⟨rfl,bj⟩;have sq:=(au.out.later bj).bel;clear bj;generalize jmk p (Vl.mk n m sA sc ss cA cc cs vA vc vs).er=z at *;go_wp2_with fail;go_ret;exact⟨rfl,sq⟩)))
end V4
end Go.Proofs.YtobggoephhjofaaGreatDoor
