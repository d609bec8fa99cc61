/- A part. No condition. -/
import Derived.Test.YtobggoephhjofaaGreatDoorMj05
set_option maxRecDepth 100000
set_option maxHeartbeats 16000000
namespace Go.Proofs.YtobggoephhjofaaGreatDoor
namespace V4
open Go.RowKit
open C3 (Tk Asc isC ofC jxo Nok In jzj jzf jqo jrj)
open S2 (Tr Sc isT)
def jq0(k:Int)(x:Va):Bool:=jqk k x && (decide (R1.Srt x.s) && decide (x.s.length<=40))
def jhi(p:Va->Bool)(bot:Va)(vs:List Va):Bool:=vs.all fun y=>p y && !decide (y=bot)
def jk2(cs:List (List Tk)):Bool:=match cs with
  | []=>true
  | c :: _=>isC c && decide (0<c.length)
def jgq(p q:Va->Bool)(vs:List Va):Bool:=match vs with
  | y :: z :: _=>p y && q z
  | _=>false
def isV:Tr->Va->Bool
  | .mk k [],x=>jq0 k x && (if k=7 then jk2 x.c else true)
  | .mk k [a],x=>jq0 k x && (if k=4 then jhi (isV a) (jqh a) x.v else jmf (isV a) x)
  | .mk k [a,b],x=>jq0 k x && jgq (isV a) (isV b) x.v
  | .mk _ (_ :: _ :: _ :: _),_=>false
structure jjw (w:World) (k:Int) (A:Option Addr) (ln c:Nat) (n m:Int) (sA:Option Addr) (sn sc:Nat) (cA:Option Addr) (cn cc:Nat) (vA:Option Addr) (vn vc:Nat) (W:World):Prop where
  i0:W.cell? ⟨w.heap.size,0,none⟩=some (.int .i64 k)
  i1:W.cell? ⟨w.heap.size,1,none⟩=some (.slice A ln c)
  c0:W.cell? ⟨w.heap.size+1,0,none⟩=some (.int .u64 n)
  c1:W.cell? ⟨w.heap.size+1,1,none⟩=some (.int .u64 m)
  c2:W.cell? ⟨w.heap.size+1,2,none⟩=some (.slice sA sn sc)
  c3:W.cell? ⟨w.heap.size+1,3,none⟩=some (.slice cA cn cc)
  c4:W.cell? ⟨w.heap.size+1,4,none⟩=some (.slice vA vn vc)
  sz:w.heap.size+1<W.heap.size
  bel:Below w.heap.size w W
theorem jjw.later{w:World}{k:Int}{A:Option Addr}{ln c:Nat}{n m:Int}{sA:Option Addr}{sn sc:Nat}{cA:Option Addr}{cn cc:Nat}{vA:Option Addr}{vn vc:Nat}{W W':World}(h:jjw w k A ln c n m sA sn sc cA cn cc vA vn vc W)(hb:Below W.heap.size W W'):jjw w k A ln c n m sA sn sc cA cn cc vA vn vc W':=by
 have h0:w.heap.size<W.heap.size:=by have:=h.sz;omega
 exact⟨(hb.cell (p:=⟨w.heap.size,0,none⟩) h0).trans h.i0,(hb.cell (p:=⟨w.heap.size,1,none⟩) h0).trans h.i1,(hb.cell (p:=⟨w.heap.size+1,0,none⟩) h.sz).trans h.c0,(hb.cell (p:=⟨w.heap.size+1,1,none⟩) h.sz).trans h.c1,(hb.cell (p:=⟨w.heap.size+1,2,none⟩) h.sz).trans h.c2,
   (hb.cell (p:=⟨w.heap.size+1,3,none⟩) h.sz).trans h.c3,(hb.cell (p:=⟨w.heap.size+1,4,none⟩) h.sz).trans h.c4,ltl h.sz hb.size,h.bel.trans (hb.mono h.bel.size)⟩
structure Row2 (b off:Nat) (a:Sc) (b2 o2:Nat) (y:Vl) (W:World):Prop where
  s0:W.cell? ⟨b,off,none⟩=some (.int .i64 a.k)
  s1:W.cell? ⟨b,off+1,none⟩=some a.v1
  y0:W.cell? ⟨b2,o2,none⟩=some (.int .u64 y.n)
  y1:W.cell? ⟨b2,o2+1,none⟩=some (.int .u64 y.m)
  y2:W.cell? ⟨b2,o2+2,none⟩=some y.s1
  y3:W.cell? ⟨b2,o2+3,none⟩=some y.c1
  y4:W.cell? ⟨b2,o2+4,none⟩=some y.v1
  l1:b<W.heap.size
  l2:b2<W.heap.size
  ia:a.In W.heap.size W
  iy:y.In W
theorem Row2.later{b off:Nat}{a:Sc}{b2 o2:Nat}{y:Vl}{W W':World}(h:Row2 b off a b2 o2 y W)(hb:Below W.heap.size W W'):Row2 b off a b2 o2 y W' :=
  ⟨(hb.cell (p:=⟨b,off,none⟩) h.l1).trans h.s0,(hb.cell (p:=⟨b,off+1,none⟩) h.l1).trans h.s1,(hb.cell (p:=⟨b2,o2,none⟩) h.l2).trans h.y0,(hb.cell (p:=⟨b2,o2+1,none⟩) h.l2).trans h.y1,(hb.cell (p:=⟨b2,o2+2,none⟩) h.l2).trans h.y2,(hb.cell (p:=⟨b2,o2+3,none⟩) h.l2).trans h.y3,(hb.cell (p:=⟨b2,o2+4,none⟩) h.l2).trans h.y4,
    ltl h.l1 hb.size,ltl h.l2 hb.size,h.ia.later hb,h.iy.later hb⟩
theorem jxl(k:Int)(A:Option Addr)(c ln:Nat)(n m:Int)(sA:Option Addr)(sc:Nat)(ss:List Str)(cA:Option Addr)(cc:Nat)(cs:List Ck)(vA:Option Addr)(vc:Nat)(vs:List Vl)(v:Bool)(w:World)(h:(Vl.mk n m sA sc ss cA cc cs vA vc vs).In w)(hv:jqk k (Vl.mk n m sA sc ss cA cc cs vA vc vs).er=v) :
    Calls Tryz.prog 91 #[.agg #[.int .i64 k,.slice A ln c],.agg #[.int .u64 n,.int .u64 m,.slice sA ss.length sc,.slice cA cs.length cc,.slice vA vs.length vc]] w (jqd w (.bool v)):=hv▸jdi k A c ln _ w h
theorem jq3(A:Option Addr)(c:Nat)(xs:List Str)(v:Bool)(w:World)(hl:jqs w A xs)(hn:xs.length<=maxLen)(hv:decide (R1.Srt xs)=v) :
    Calls Tryz.prog 92 #[.slice A xs.length c] w (jqd w (.bool v)):=hv▸(R1.ju2 A c xs w hl hn).mono fun _ _ ⟨h1,n,h2⟩=>⟨h1,h2▸jzu (Below.refl _ _) n⟩
theorem refIsV_1(A:Option Addr)(c:Nat)(x:Vl)(w:World)(hx:x.In w):Calls Tryz.prog 47 #[(Sc.mk 1 A c []).val,x.val] w (jqd w (.bool (jq0 1 x.er && true))):=by
 obtain⟨n,m,sA,sc,ss,cA,cc,cs,vA,vc,vs⟩:=x;have HB0:Hid (Below w.heap.size w ((w.alloc (.cells #[.int .i64 1,.slice A 0 c] 24)).alloc (.cells #[.int .u64 n,.int .u64 m,.slice sA ss.length sc,.slice cA cs.length cc,.slice vA vs.length vc] 30))):=jzj (jzf _ _);have HX:=Lh (hx.later HB0.out);have P:=hx.out;have HP:=Lh P;have HSB:Hid (ss.length<=maxLen):=leT P.sb.1 P.sb.2.1;have hsm:ss.length<=9223372036854775807:=by have:=P.sb;unfold maxLen at this;omega
 have hcm:cs.length<=9223372036854775807:=by have:=P.cb;unfold maxLen at this;omega
 have hvm:vs.length<=9223372036854775807:=by have:=P.vb;unfold maxLen at this;omega
 obtain⟨t,ht⟩:=exq (jqk 1 (Vl.mk n m sA sc ss cA cc cs vA vc vs).er);obtain⟨u,hu⟩:=exq (decide (R1.Srt ss));obtain⟨q,hq⟩:=exq (decide (ss.length<=40));have HF:Hid (jq0 1 (Vl.mk n m sA sc ss cA cc cs vA vc vs).er=(t && (u && q))):=by (
 show jq0 _ _=_
 unfold jq0;rw[ht,jzt,show (Va.mk n m ss (cs.map Ck.l) (vs.map Vl.er)).s=ss from rfl,hu,hq])
 have HT:=Lh ht;have HU:=Lh hu;have HQ:=Lh hq;rw[HF.out];clear hx P ht hu hq HF;simp only[S2.jzh,jzh,List.length_nil];go_enter Tryz.func47,Tryz.ntmps47;go_wp2_with fail;refine (jxl 1 A c 0 n m sA sc ss cA cc cs vA vc vs t _ HX.out HT.out).mono ?_;rintro e w1 ⟨rfl,hb1⟩;have HBX:Hid (jjw w 1 A 0 c n m sA ss.length sc cA cs.length cc vA vs.length vc w1):=jjw.later ⟨by go_simp,by go_simp,by go_simp,by go_simp,by go_simp,by go_simp,by go_simp,by simp,HB0.out⟩ hb1;clear hb1 HB0 HX;cases t with
 | false=>(
 go_wp2_with fail;go_ret;exact⟨rfl,HBX.out.bel⟩)
 | true=>(
 have c2:=HBX.out.c2;go_wp2_with fail;refine (jq3 sA sc ss u _ (HP.out.sl.below HBX.out.bel) HSB.out HU.out).mono ?_;rintro e w2 ⟨rfl,hb2⟩;replace HBX:=Lh (HBX.out.later hb2);clear hb2 c2;cases u with
 | false=>(
 go_wp2_with fail;go_ret;exact⟨rfl,HBX.out.bel⟩)
 | true=>(
 have c2:=HBX.out.c2;have i0:=HBX.out.i0;cases q with
 | false=>(
 have dq:40<ss.length:=by have:=of_decide_eq_false HQ.out;omega
 go_wp2_with fail;go_ret;exact⟨rfl,HBX.out.bel⟩)
 | true=>(
 have dq:decide (40<(ss.length:Int))=false:=decide_eq_false (by have:=of_decide_eq_true HQ.out;omega);go_wp2_with fail;go_ret;exact⟨rfl,HBX.out.bel⟩)))
theorem refIsV_2(A:Option Addr)(c:Nat)(x:Vl)(w:World)(hx:x.In w):Calls Tryz.prog 47 #[(Sc.mk 2 A c []).val,x.val] w (jqd w (.bool (jq0 2 x.er && true))):=by
 obtain⟨n,m,sA,sc,ss,cA,cc,cs,vA,vc,vs⟩:=x;have HB0:Hid (Below w.heap.size w ((w.alloc (.cells #[.int .i64 2,.slice A 0 c] 24)).alloc (.cells #[.int .u64 n,.int .u64 m,.slice sA ss.length sc,.slice cA cs.length cc,.slice vA vs.length vc] 30))):=jzj (jzf _ _);have HX:=Lh (hx.later HB0.out);have P:=hx.out;have HP:=Lh P;have HSB:Hid (ss.length<=maxLen):=leT P.sb.1 P.sb.2.1;have hsm:ss.length<=9223372036854775807:=by have:=P.sb;unfold maxLen at this;omega
 have hcm:cs.length<=9223372036854775807:=by have:=P.cb;unfold maxLen at this;omega
 have hvm:vs.length<=9223372036854775807:=by have:=P.vb;unfold maxLen at this;omega
 obtain⟨t,ht⟩:=exq (jqk 2 (Vl.mk n m sA sc ss cA cc cs vA vc vs).er);obtain⟨u,hu⟩:=exq (decide (R1.Srt ss));obtain⟨q,hq⟩:=exq (decide (ss.length<=40));have HF:Hid (jq0 2 (Vl.mk n m sA sc ss cA cc cs vA vc vs).er=(t && (u && q))):=by (
 show jq0 _ _=_
 unfold jq0;rw[ht,jzt,show (Va.mk n m ss (cs.map Ck.l) (vs.map Vl.er)).s=ss from rfl,hu,hq])
 have HT:=Lh ht;have HU:=Lh hu;have HQ:=Lh hq;rw[HF.out];clear hx P ht hu hq HF;simp only[S2.jzh,jzh,List.length_nil];go_enter Tryz.func47,Tryz.ntmps47;go_wp2_with fail;refine (jxl 2 A c 0 n m sA sc ss cA cc cs vA vc vs t _ HX.out HT.out).mono ?_;rintro e w1 ⟨rfl,hb1⟩;have HBX:Hid (jjw w 2 A 0 c n m sA ss.length sc cA cs.length cc vA vs.length vc w1):=jjw.later ⟨by go_simp,by go_simp,by go_simp,by go_simp,by go_simp,by go_simp,by go_simp,by simp,HB0.out⟩ hb1;clear hb1 HB0 HX;cases t with
 | false=>(
 go_wp2_with fail;go_ret;exact⟨rfl,HBX.out.bel⟩)
 | true=>(
 have c2:=HBX.out.c2;go_wp2_with fail;refine (jq3 sA sc ss u _ (HP.out.sl.below HBX.out.bel) HSB.out HU.out).mono ?_;rintro e w2 ⟨rfl,hb2⟩;replace HBX:=Lh (HBX.out.later hb2);clear hb2 c2;cases u with
 | false=>(
 go_wp2_with fail;go_ret;exact⟨rfl,HBX.out.bel⟩)
 | true=>(
 have c2:=HBX.out.c2;have i0:=HBX.out.i0;cases q with
 | false=>(
 have dq:40<ss.length:=by have:=of_decide_eq_false HQ.out;omega
 go_wp2_with fail;go_ret;exact⟨rfl,HBX.out.bel⟩)
 | true=>(
 have dq:decide (40<(ss.length:Int))=false:=decide_eq_false (by have:=of_decide_eq_true HQ.out;omega);go_wp2_with fail;go_ret;exact⟨rfl,HBX.out.bel⟩)))
theorem refIsV_3(A:Option Addr)(c:Nat)(x:Vl)(w:World)(hx:x.In w):Calls Tryz.prog 47 #[(Sc.mk 3 A c []).val,x.val] w (jqd w (.bool (jq0 3 x.er && true))):=by
 obtain⟨n,m,sA,sc,ss,cA,cc,cs,vA,vc,vs⟩:=x;have HB0:Hid (Below w.heap.size w ((w.alloc (.cells #[.int .i64 3,.slice A 0 c] 24)).alloc (.cells #[.int .u64 n,.int .u64 m,.slice sA ss.length sc,.slice cA cs.length cc,.slice vA vs.length vc] 30))):=jzj (jzf _ _);have HX:=Lh (hx.later HB0.out);have P:=hx.out;have HP:=Lh P;have HSB:Hid (ss.length<=maxLen):=leT P.sb.1 P.sb.2.1;have hsm:ss.length<=9223372036854775807:=by have:=P.sb;unfold maxLen at this;omega
 have hcm:cs.length<=9223372036854775807:=by have:=P.cb;unfold maxLen at this;omega
 have hvm:vs.length<=9223372036854775807:=by have:=P.vb;unfold maxLen at this;omega
 obtain⟨t,ht⟩:=exq (jqk 3 (Vl.mk n m sA sc ss cA cc cs vA vc vs).er);obtain⟨u,hu⟩:=exq (decide (R1.Srt ss));obtain⟨q,hq⟩:=exq (decide (ss.length<=40));have HF:Hid (jq0 3 (Vl.mk n m sA sc ss cA cc cs vA vc vs).er=(t && (u && q))):=by (
 show jq0 _ _=_
 unfold jq0;rw[ht,jzt,show (Va.mk n m ss (cs.map Ck.l) (vs.map Vl.er)).s=ss from rfl,hu,hq])
 have HT:=Lh ht;have HU:=Lh hu;have HQ:=Lh hq;rw[HF.out];clear hx P ht hu hq HF;simp only[S2.jzh,jzh,List.length_nil];go_enter Tryz.func47,Tryz.ntmps47;go_wp2_with fail;refine (jxl 3 A c 0 n m sA sc ss cA cc cs vA vc vs t _ HX.out HT.out).mono ?_;rintro e w1 ⟨rfl,hb1⟩;have HBX:Hid (jjw w 3 A 0 c n m sA ss.length sc cA cs.length cc vA vs.length vc w1):=jjw.later ⟨by go_simp,by go_simp,by go_simp,by go_simp,by go_simp,by go_simp,by go_simp,by simp,HB0.out⟩ hb1;clear hb1 HB0 HX;cases t with
 | false=>(
 go_wp2_with fail;go_ret;exact⟨rfl,HBX.out.bel⟩)
 | true=>(
 have c2:=HBX.out.c2;go_wp2_with fail;refine (jq3 sA sc ss u _ (HP.out.sl.below HBX.out.bel) HSB.out HU.out).mono ?_;rintro e w2 ⟨rfl,hb2⟩;replace HBX:=Lh (HBX.out.later hb2);clear hb2 c2;cases u with
 | false=>(
 go_wp2_with fail;go_ret;exact⟨rfl,HBX.out.bel⟩)
 | true=>(
 have c2:=HBX.out.c2;have i0:=HBX.out.i0;cases q with
 | false=>(
 have dq:40<ss.length:=by have:=of_decide_eq_false HQ.out;omega
 go_wp2_with fail;go_ret;exact⟨rfl,HBX.out.bel⟩)
 | true=>(
 have dq:decide (40<(ss.length:Int))=false:=decide_eq_false (by have:=of_decide_eq_true HQ.out;omega);go_wp2_with fail;go_ret;exact⟨rfl,HBX.out.bel⟩)))
theorem refIsV_6(A:Option Addr)(c:Nat)(x:Vl)(w:World)(hx:x.In w):Calls Tryz.prog 47 #[(Sc.mk 6 A c []).val,x.val] w (jqd w (.bool (jq0 6 x.er && true))):=by
 obtain⟨n,m,sA,sc,ss,cA,cc,cs,vA,vc,vs⟩:=x;have HB0:Hid (Below w.heap.size w ((w.alloc (.cells #[.int .i64 6,.slice A 0 c] 24)).alloc (.cells #[.int .u64 n,.int .u64 m,.slice sA ss.length sc,.slice cA cs.length cc,.slice vA vs.length vc] 30))):=jzj (jzf _ _);have HX:=Lh (hx.later HB0.out);have P:=hx.out;have HP:=Lh P;have HSB:Hid (ss.length<=maxLen):=leT P.sb.1 P.sb.2.1;have hsm:ss.length<=9223372036854775807:=by have:=P.sb;unfold maxLen at this;omega
 have hcm:cs.length<=9223372036854775807:=by have:=P.cb;unfold maxLen at this;omega
 have hvm:vs.length<=9223372036854775807:=by have:=P.vb;unfold maxLen at this;omega
 obtain⟨t,ht⟩:=exq (jqk 6 (Vl.mk n m sA sc ss cA cc cs vA vc vs).er);obtain⟨u,hu⟩:=exq (decide (R1.Srt ss));obtain⟨q,hq⟩:=exq (decide (ss.length<=40));have HF:Hid (jq0 6 (Vl.mk n m sA sc ss cA cc cs vA vc vs).er=(t && (u && q))):=by (
 show jq0 _ _=_
 unfold jq0;rw[ht,jzt,show (Va.mk n m ss (cs.map Ck.l) (vs.map Vl.er)).s=ss from rfl,hu,hq])
 have HT:=Lh ht;have HU:=Lh hu;have HQ:=Lh hq;rw[HF.out];clear hx P ht hu hq HF;simp only[S2.jzh,jzh,List.length_nil];go_enter Tryz.func47,Tryz.ntmps47;go_wp2_with fail;refine (jxl 6 A c 0 n m sA sc ss cA cc cs vA vc vs t _ HX.out HT.out).mono ?_;rintro e w1 ⟨rfl,hb1⟩;have HBX:Hid (jjw w 6 A 0 c n m sA ss.length sc cA cs.length cc vA vs.length vc w1):=jjw.later ⟨by go_simp,by go_simp,by go_simp,by go_simp,by go_simp,by go_simp,by go_simp,by simp,HB0.out⟩ hb1;clear hb1 HB0 HX;cases t with
 | false=>(
 go_wp2_with fail;go_ret;exact⟨rfl,HBX.out.bel⟩)
 | true=>(
 have c2:=HBX.out.c2;go_wp2_with fail;refine (jq3 sA sc ss u _ (HP.out.sl.below HBX.out.bel) HSB.out HU.out).mono ?_;rintro e w2 ⟨rfl,hb2⟩;replace HBX:=Lh (HBX.out.later hb2);clear hb2 c2;cases u with
 | false=>(
 go_wp2_with fail;go_ret;exact⟨rfl,HBX.out.bel⟩)
 | true=>(
 have c2:=HBX.out.c2;have i0:=HBX.out.i0;cases q with
 | false=>(
 have dq:40<ss.length:=by have:=of_decide_eq_false HQ.out;omega
 go_wp2_with fail;go_ret;exact⟨rfl,HBX.out.bel⟩)
 | true=>(
 have dq:decide (40<(ss.length:Int))=false:=decide_eq_false (by have:=of_decide_eq_true HQ.out;omega);go_wp2_with fail;go_ret;exact⟨rfl,HBX.out.bel⟩)))
theorem refIsV_7(A:Option Addr)(c:Nat)(x:Vl)(w:World)(hx:x.In w):Calls Tryz.prog 47 #[(Sc.mk 7 A c []).val,x.val] w (jqd w (.bool (jq0 7 x.er && jk2 x.er.c))):=by
 obtain⟨n,m,sA,sc,ss,cA,cc,cs,vA,vc,vs⟩:=x;have HB0:Hid (Below w.heap.size w ((w.alloc (.cells #[.int .i64 7,.slice A 0 c] 24)).alloc (.cells #[.int .u64 n,.int .u64 m,.slice sA ss.length sc,.slice cA cs.length cc,.slice vA vs.length vc] 30))):=jzj (jzf _ _);have HX:=Lh (hx.later HB0.out);have P:=hx.out;have HP:=Lh P;have HSB:Hid (ss.length<=maxLen):=leT P.sb.1 P.sb.2.1;have hsm:ss.length<=9223372036854775807:=by have:=P.sb;unfold maxLen at this;omega
 have hcm:cs.length<=9223372036854775807:=by have:=P.cb;unfold maxLen at this;omega
 have hvm:vs.length<=9223372036854775807:=by have:=P.vb;unfold maxLen at this;omega
 obtain⟨t,ht⟩:=exq (jqk 7 (Vl.mk n m sA sc ss cA cc cs vA vc vs).er);obtain⟨u,hu⟩:=exq (decide (R1.Srt ss));obtain⟨q,hq⟩:=exq (decide (ss.length<=40));have HF:Hid (jq0 7 (Vl.mk n m sA sc ss cA cc cs vA vc vs).er=(t && (u && q))):=by (
 show jq0 _ _=_
 unfold jq0;rw[ht,jzt,show (Va.mk n m ss (cs.map Ck.l) (vs.map Vl.er)).s=ss from rfl,hu,hq])
 have HT:=Lh ht;have HU:=Lh hu;have HQ:=Lh hq;rw[HF.out];clear hx P ht hu hq HF;simp only[S2.jzh,jzh,List.length_nil];go_enter Tryz.func47,Tryz.ntmps47;go_wp2_with fail;refine (jxl 7 A c 0 n m sA sc ss cA cc cs vA vc vs t _ HX.out HT.out).mono ?_;rintro e w1 ⟨rfl,hb1⟩;have HBX:Hid (jjw w 7 A 0 c n m sA ss.length sc cA cs.length cc vA vs.length vc w1):=jjw.later ⟨by go_simp,by go_simp,by go_simp,by go_simp,by go_simp,by go_simp,by go_simp,by simp,HB0.out⟩ hb1;clear hb1 HB0 HX;cases t with
 | false=>(
 go_wp2_with fail;go_ret;exact⟨rfl,HBX.out.bel⟩)
 | true=>(
 have c2:=HBX.out.c2;go_wp2_with fail;refine (jq3 sA sc ss u _ (HP.out.sl.below HBX.out.bel) HSB.out HU.out).mono ?_;rintro e w2 ⟨rfl,hb2⟩;replace HBX:=Lh (HBX.out.later hb2);clear hb2 c2;cases u with
 | false=>(
 go_wp2_with fail;go_ret;exact⟨rfl,HBX.out.bel⟩)
 | true=>(
 have c2:=HBX.out.c2;have i0:=HBX.out.i0;cases q with
 | false=>(
 have dq:40<ss.length:=by have:=of_decide_eq_false HQ.out;omega
 go_wp2_with fail;go_ret;exact⟨rfl,HBX.out.bel⟩)
 | true=>(
 have dq:decide (40<(ss.length:Int))=false:=decide_eq_false (by have:=of_decide_eq_true HQ.out;omega);have c3:=HBX.out.c3;cases cs with
 | nil=>(
 simp only[List.length_nil] at c3;go_wp2_with fail;go_ret;exact⟨jzi (by rw[jzt];rfl),HBX.out.bel⟩)
 | cons x0 cs=>(
 obtain⟨b1,off1,rfl,hb1,hcx⟩:=jqn (HP.out.cl.below HBX.out.bel) (k:=0) (x:=x0) rfl;have HIX:=Lh ((HP.out.ck x0 (by simp)).later HBX.out.bel);obtain⟨xA,xc,xl⟩:=x0;simp only[Ck.v,Nat.add_zero] at hcx;dsimp only at HIX
 simp only[List.length_cons] at c3 hcm;have hl0:(((cs.length:Int)+1) == 0)=false:=beq_eq_false_iff_ne.2 (by omega);have hl1:0<(cs.length:Int)+1:=by omega
 obtain⟨v,hv⟩:=exq (isC xl);have HV:=Lh hv;have HR:Hid (jk2 (Vl.mk n m sA sc ss (some ⟨b1,off1,none⟩) cc (⟨xA,xc,xl⟩ :: cs) vA vc vs).er.c=(v && decide (0<xl.length))):=by show jk2 _=_;rw[jzt,<- hv];rfl
 clear hv;go_wp2_with fail;refine (jwe xA xc xl v _ HIX.out HV.out).mono ?_;rintro e w3 ⟨rfl,hb3⟩;have hcx3:=(hb3.cell (p:=⟨b1,off1,none⟩) (ltl hb1 HBX.out.bel.size)).trans hcx;replace HBX:=Lh (HBX.out.later hb3);clear hb3 hcx c3 c2 i0;have c3:=HBX.out.c3;simp only[List.length_cons] at c3;cases v with
 | false=>(
 go_wp2_with fail;go_ret;exact⟨jzi (by rw[HR.out];rfl),HBX.out.bel⟩)
 | true=>(
 have hxl:xl.length<=9223372036854775807:=by have:=HIX.out.cap;have:=HIX.out.top;unfold maxLen at this;omega
 go_wp2_with fail;go_ret;refine⟨jzi ?_,HBX.out.bel⟩;rw[HR.out];simp)))))
theorem refIsV_8(A:Option Addr)(c:Nat)(a:Sc)(x:Vl)(w:World)(hs:(Sc.mk 8 A c [a]).In w.heap.size w)(hx:x.In w)(p:Va->Bool)(ih:∀ (y:Vl) (w:World),a.In w.heap.size w->y.In w->Calls Tryz.prog 47 #[a.val,y.val] w (jqd w (.bool (p y.er)))):Calls Tryz.prog 47 #[(Sc.mk 8 A c [a]).val,x.val] w (jqd w (.bool (jq0 8 x.er && jmf p x.er))):=by
 obtain⟨n,m,sA,sc,ss,cA,cc,cs,vA,vc,vs⟩:=x;have HS:=Lh hs;have HX0:=Lh hx;clear hs;have HB0:Hid (Below w.heap.size w ((w.alloc (.cells #[.int .i64 8,.slice A 1 c] 24)).alloc (.cells #[.int .u64 n,.int .u64 m,.slice sA ss.length sc,.slice cA cs.length cc,.slice vA vs.length vc] 30))):=jzj (jzf _ _);have HX:=Lh (hx.later HB0.out);have P:=hx.out;have HP:=Lh P;have HSB:Hid (ss.length<=maxLen):=leT P.sb.1 P.sb.2.1;have hsm:ss.length<=9223372036854775807:=by have:=P.sb;unfold maxLen at this;omega
 have hcm:cs.length<=9223372036854775807:=by have:=P.cb;unfold maxLen at this;omega
 have hvm:vs.length<=9223372036854775807:=by have:=P.vb;unfold maxLen at this;omega
 obtain⟨t,ht⟩:=exq (jqk 8 (Vl.mk n m sA sc ss cA cc cs vA vc vs).er);obtain⟨u,hu⟩:=exq (decide (R1.Srt ss));obtain⟨q,hq⟩:=exq (decide (ss.length<=40));have HF:Hid (jq0 8 (Vl.mk n m sA sc ss cA cc cs vA vc vs).er=(t && (u && q))):=by (
 show jq0 _ _=_
 unfold jq0;rw[ht,jzt,show (Va.mk n m ss (cs.map Ck.l) (vs.map Vl.er)).s=ss from rfl,hu,hq])
 have HT:=Lh ht;have HU:=Lh hu;have HQ:=Lh hq;rw[HF.out];clear hx P ht hu hq HF;simp only[S2.jzh,jzh,List.length_nil,List.length_cons,Nat.zero_add];go_enter Tryz.func47,Tryz.ntmps47;go_wp2_with fail;refine (jxl 8 A c 1 n m sA sc ss cA cc cs vA vc vs t _ HX.out HT.out).mono ?_;rintro e w1 ⟨rfl,hb1⟩;have HBX:Hid (jjw w 8 A 1 c n m sA ss.length sc cA cs.length cc vA vs.length vc w1):=jjw.later ⟨by go_simp,by go_simp,by go_simp,by go_simp,by go_simp,by go_simp,by go_simp,by simp,HB0.out⟩ hb1;clear hb1 HB0 HX;cases t with
 | false=>(
 go_wp2_with fail;go_ret;exact⟨rfl,HBX.out.bel⟩)
 | true=>(
 have c2:=HBX.out.c2;go_wp2_with fail;refine (jq3 sA sc ss u _ (HP.out.sl.below HBX.out.bel) HSB.out HU.out).mono ?_;rintro e w2 ⟨rfl,hb2⟩;replace HBX:=Lh (HBX.out.later hb2);clear hb2 c2;cases u with
 | false=>(
 go_wp2_with fail;go_ret;exact⟨rfl,HBX.out.bel⟩)
 | true=>(
 have c2:=HBX.out.c2;have i0:=HBX.out.i0;cases q with
 | false=>(
 have dq:40<ss.length:=by have:=of_decide_eq_false HQ.out;omega
 go_wp2_with fail;go_ret;exact⟨rfl,HBX.out.bel⟩)
 | true=>(
 have dq:decide (40<(ss.length:Int))=false:=decide_eq_false (by have:=of_decide_eq_true HQ.out;omega);have hlen:(Vl.mk n m sA sc ss cA cc cs vA vc vs).er.c.length=(Vl.mk n m sA sc ss cA cc cs vA vc vs).er.v.length:=by (
 have h:=HT.out;rw[jzt,jm5 8 (by decide) (by decide) (by decide) (by decide) (by decide) (by decide) (by decide),Bool.and_eq_true] at h;rw[jzt];exact of_decide_eq_true h.2)
 have HSI:=Lh ((HS.out.keep HBX.out.bel).up HBX.out.bel.size);have HXI:=Lh (HX0.out.later HBX.out.bel);have HSB8:=Lh (joi 8 A c a (.mk n m sA sc ss cA cc cs vA vc vs) w2 HSI.out HXI.out hlen p ih);clear hlen ih;obtain⟨ak,aA,ac,al⟩:=a;simp only[S2.jzh,jzh,List.length_nil,List.length_cons,Nat.zero_add] at HSB8;have i1:=HBX.out.i1;have c0:=HBX.out.c0;have c1:=HBX.out.c1;have c3:=HBX.out.c3;have c4:=HBX.out.c4;go_wp2_with fail;refine HSB8.out.mono ?_;rintro e w3 ⟨rfl,hb3⟩;have hbw3:=(HBX.out.later hb3).bel;clear hb3;generalize jmf p (Vl.mk n m sA sc ss cA cc cs vA vc vs).er=z at *;go_wp2_with fail;go_ret;exact⟨rfl,hbw3⟩)))
end V4
end Go.Proofs.YtobggoephhjofaaGreatDoor
