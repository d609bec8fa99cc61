/- A part. No condition. -/
import Derived.Test.YtobggoephhjofaaGreatDoorMj06
import Derived.Lib.SlicesCompact
set_option maxRecDepth 100000
set_option maxHeartbeats 16000000
namespace Go.Proofs.YtobggoephhjofaaGreatDoor
namespace V4
open Go.RowKit
open C3 (Tk Asc isC ofC jxo Nok In jzj jzf jqo jrj)
open S2 (Tr Sc isT)
theorem refIsV_4(A:Option Addr)(c:Nat)(a:Sc)(x:Vl)(w:World)(hs:(Sc.mk 4 A c [a]).In w.heap.size w)(hx:x.In w)(p:Va->Bool)(ih:∀ (y:Vl) (w:World),a.In w.heap.size w->y.In w->Calls Tryz.prog 47 #[a.val,y.val] w (jqd w (.bool (p y.er)))):Calls Tryz.prog 47 #[(Sc.mk 4 A c [a]).val,x.val] w (jqd w (.bool (jq0 4 x.er && jhi p (jqh a.er) x.er.v))):=by
 obtain⟨n,m,sA,sc,ss,cA,cc,cs,vA,vc,vs⟩:=x;have HS:=Lh hs;have IH:=Lh ih;clear hs ih;have HB0:Hid (Below w.heap.size w ((w.alloc (.cells #[.int .i64 4,.slice A 1 c] 24)).alloc (.cells #[.int .u64 n,.int .u64 m,.slice sA ss.length sc,.slice cA cs.length cc,.slice vA vs.length vc] 30))):=jzj (jzf _ _);have HX:=Lh (hx.later HB0.out);have P:=hx.out;have HP:=Lh P;have HSB:Hid (ss.length<=maxLen):=leT P.sb.1 P.sb.2.1;have hsm:ss.length<=9223372036854775807:=by have:=P.sb;unfold maxLen at this;omega
 have hcm:cs.length<=9223372036854775807:=by have:=P.cb;unfold maxLen at this;omega
 have hvm:vs.length<=9223372036854775807:=by have:=P.vb;unfold maxLen at this;omega
 obtain⟨t,ht⟩:=exq (jqk 4 (Vl.mk n m sA sc ss cA cc cs vA vc vs).er);obtain⟨u,hu⟩:=exq (decide (R1.Srt ss));obtain⟨q,hq⟩:=exq (decide (ss.length<=40));have HF:Hid (jq0 4 (Vl.mk n m sA sc ss cA cc cs vA vc vs).er=(t && (u && q))):=by (
 show jq0 _ _=_
 unfold jq0;rw[ht,jzt,show (Va.mk n m ss (cs.map Ck.l) (vs.map Vl.er)).s=ss from rfl,hu,hq])
 have HT:=Lh ht;have HU:=Lh hu;have HQ:=Lh hq;rw[HF.out];clear hx P ht hu hq HF;simp only[S2.jzh,jzh,List.length_nil,List.length_cons,Nat.zero_add];go_enter Tryz.func47,Tryz.ntmps47;go_wp2_with fail;refine (jxl 4 A c 1 n m sA sc ss cA cc cs vA vc vs t _ HX.out HT.out).mono ?_;rintro e w1 ⟨rfl,hb1⟩;have HBX:Hid (jjw w 4 A 1 c n m sA ss.length sc cA cs.length cc vA vs.length vc w1):=jjw.later ⟨by go_simp,by go_simp,by go_simp,by go_simp,by go_simp,by go_simp,by go_simp,by simp,HB0.out⟩ hb1;clear hb1 HB0 HX;cases t with
 | false=>(
 go_wp2_with fail;go_ret;exact⟨rfl,HBX.out.bel⟩)
 | true=>(
 have c2:=HBX.out.c2;go_wp2_with fail;refine (jq3 sA sc ss u _ (HP.out.sl.below HBX.out.bel) HSB.out HU.out).mono ?_;rintro e w2 ⟨rfl,hb2⟩;replace HBX:=Lh (HBX.out.later hb2);clear hb2 c2;cases u with
 | false=>(
 go_wp2_with fail;go_ret;exact⟨rfl,HBX.out.bel⟩)
 | true=>(
 have c2:=HBX.out.c2;have i0:=HBX.out.i0;cases q with
 | false=>(
 have dq:40<ss.length:=by have:=of_decide_eq_false HQ.out;omega
 go_wp2_with fail;go_ret;exact⟨rfl,HBX.out.bel⟩)
 | true=>(
 have dq:decide (40<(ss.length:Int))=false:=decide_eq_false (by have:=of_decide_eq_true HQ.out;omega);have i1:=HBX.out.i1;have c4:=HBX.out.c4;go_wp2_with fail;go_loopw [5] (fun iv wr=>∃ i:Nat,i<=vs.length/\iv = .int .i64 i/\Hid (((vs.map Vl.er).take i).all (fun y=>p y && !decide (y=jqh a.er))=true)/\Hid (jjw w 4 A 1 c n m sA ss.length sc cA cs.length cc vA vs.length vc wr)) (fun iv _=>vs.length - (intOf iv).toNat)
 case atStart=>exact⟨0,Nat.zero_le _,rfl,by simp[Hid],HBX⟩
 case round=>(
 clear HBX c2 i0 i1 c4;obtain⟨i,hi,rfl,h0,HBX⟩:=hrel;have c4:=HBX.out.c4;by_cases hlt:i<vs.length
 ·(
 obtain⟨hl0,-,-,hall⟩:=HS.out.out;obtain⟨b,off,rfl,hb,hcl⟩:=(hl0.below HBX.out.bel).get (k:=0) (by simp);obtain⟨g0,g1⟩:=hcl 0 a rfl;obtain⟨y,hy⟩:∃ y,vs[i]?=some y:=⟨_,List.getElem?_eq_getElem hlt⟩
 obtain⟨b2,off2,rfl,hb2,hy0,hy1,hy2,hy3,hy4⟩:=jqm (HP.out.vl.below HBX.out.bel) hy;simp only[Nat.zero_mul,Nat.add_zero] at g0 g1;have HR2:Hid (Row2 b off a b2 (off2+i*5) y wr.drew):=Row2.later ⟨g0,g1,hy0,hy1,hy2,hy3,hy4,ltl hb HBX.out.bel.size,ltl hb2 HBX.out.bel.size,((hall a (by simp)).keep HBX.out.bel).up HBX.out.bel.size,(HP.out.vk y (List.mem_of_getElem? hy)).later HBX.out.bel⟩ (jqo wr);have HY:=Lh hy;obtain⟨u1,hu1⟩:=exq (p y.er);obtain⟨u2,hu2⟩:=exq (decide (y.er=jqh a.er));have HPQ:Hid ((fun y=>p y && !decide (y=jqh a.er)) y.er=(u1 && !u2)):=by show (p y.er && !decide (y.er=jqh a.er))=_;rw[hu1,hu2]
 have HU1:=Lh hu1;have HU2:=Lh hu2;clear hl0 hall hcl g0 g1 hy hy0 hy1 hy2 hy3 hy4 hu1 hu2;obtain⟨ak,aA,ac,al⟩:=a;obtain⟨yn,ym,yK,yL,yN,yO,yP,yQ,yR,yS,yT⟩:=y;simp only[S2.jzh] at IH;have hli:(i:Int)<(vs.length:Int):=by omega
 cases u1 with
 | false=>(
 have HFA:Hid (jhi p (jqh (Sc.mk ak aA ac al).er) (Vl.mk n m sA sc ss cA cc cs (some ⟨b2,off2,none⟩) vc vs).er.v=false):=by (
 show jhi _ _ _=false
 rw[jzt];exact jkx (jbe (f:=Vl.er) HY.out) HPQ.out)
 go_wp2_with fail;replace HBX:=Lh (HBX.out.later (jqo wr));refine wp_region_noPanic ?_;refine wp_region_held_drew (S:=(fun w'=>w'.cell? ⟨w.heap.size,1,none⟩=some (.slice (some ⟨b,off,none⟩) 1 c)/\w'.cell? ⟨w.heap.size+1,4,none⟩=some (.slice (some ⟨b2,off2,none⟩) vs.length vc)/\w'.cell? ⟨b,off,none⟩=some (.int .i64 ak)/\w'.cell? ⟨b,off+1,none⟩=some (.slice aA al.length ac)/\w'.cell? ⟨b2,off2+i*5,none⟩=some (.int .u64 yn)/\w'.cell? ⟨b2,off2+i*5+1,none⟩=some (.int .u64 ym)/\w'.cell? ⟨b2,off2+i*5+2,none⟩=some (.slice yK yN.length yL)/\w'.cell? ⟨b2,off2+i*5+3,none⟩=some (.slice yO yQ.length yP)/\w'.cell? ⟨b2,off2+i*5+4,none⟩=some (.slice yR yT.length yS))) (by kernel_rfl) ?_ (fun hHeld=>?_)
 ·exact⟨HBX.out.i1,HBX.out.c4,HR2.out.s0,HR2.out.s1,HR2.out.y0,HR2.out.y1,HR2.out.y2,HR2.out.y3,HR2.out.y4⟩
 refine tkH 0 33 ?_;refine tkH 1 34 ?_;refine tkH 2 35 ?_;refine tkH 3 36 ?_;refine tkH 4 37 ?_;refine tkH 5 38 ?_;refine tkH 6 39 ?_;refine tkH 7 40 ?_;refine tkH 8 41 ?_;refine rdH 9 (fun K hK=>?_);go_simp;go_wp2_with (go_at_call 47;refine (IH.out (.mk yn ym yK yL yN yO yP yQ yR yS yT) _ HR2.out.ia HR2.out.iy).mono ?_;rintro e w5 ⟨rfl,hb5⟩;(rw[HU1.out];replace HBX:=Lh (HBX.out.later hb5);replace HR2:=Lh (HR2.out.later hb5);clear hb5))
 refine hK.out _ _ ?_ (fun hHeld=>?_)
 ·exact⟨HBX.out.i1,HBX.out.c4,HR2.out.s0,HR2.out.s1,HR2.out.y0,HR2.out.y1,HR2.out.y2,HR2.out.y3,HR2.out.y4⟩
 clear hK K;refine tkH 10 43 ?_;refine tkH 11 44 ?_;refine tkU 12 45 ?_;refine tkU 13 46 ?_;refine tkU 14 47 ?_;refine tkU 15 48 ?_;refine tkU 16 49 ?_;refine tkU 17 50 ?_;refine tkU 18 51 ?_;refine tkU 19 52 ?_;refine tkU 20 53 ?_;refine tkU 21 54 ?_;refine tkH 22 55 ?_;refine wpAnyH_done (by kernel_rfl) ?_ _;refine NoPanic.normal ?_;go_wp2_with fail;go_ret;exact⟨jzi (by rw[HFA.out];rfl),HBX.out.bel⟩)
 | true=>(
 cases u2 with
 | true=>(
 have HFA:Hid (jhi p (jqh (Sc.mk ak aA ac al).er) (Vl.mk n m sA sc ss cA cc cs (some ⟨b2,off2,none⟩) vc vs).er.v=false):=by (
 show jhi _ _ _=false
 rw[jzt];exact jkx (jbe (f:=Vl.er) HY.out) HPQ.out)
 go_wp2_with fail;replace HBX:=Lh (HBX.out.later (jqo wr));refine wp_region_noPanic ?_;refine wp_region_held_drew (S:=(fun w'=>w'.cell? ⟨w.heap.size,1,none⟩=some (.slice (some ⟨b,off,none⟩) 1 c)/\w'.cell? ⟨w.heap.size+1,4,none⟩=some (.slice (some ⟨b2,off2,none⟩) vs.length vc)/\w'.cell? ⟨b,off,none⟩=some (.int .i64 ak)/\w'.cell? ⟨b,off+1,none⟩=some (.slice aA al.length ac)/\w'.cell? ⟨b2,off2+i*5,none⟩=some (.int .u64 yn)/\w'.cell? ⟨b2,off2+i*5+1,none⟩=some (.int .u64 ym)/\w'.cell? ⟨b2,off2+i*5+2,none⟩=some (.slice yK yN.length yL)/\w'.cell? ⟨b2,off2+i*5+3,none⟩=some (.slice yO yQ.length yP)/\w'.cell? ⟨b2,off2+i*5+4,none⟩=some (.slice yR yT.length yS))) (by kernel_rfl) ?_ (fun hHeld=>?_)
 ·exact⟨HBX.out.i1,HBX.out.c4,HR2.out.s0,HR2.out.s1,HR2.out.y0,HR2.out.y1,HR2.out.y2,HR2.out.y3,HR2.out.y4⟩
 refine tkH 0 33 ?_;refine tkH 1 34 ?_;refine tkH 2 35 ?_;refine tkH 3 36 ?_;refine tkH 4 37 ?_;refine tkH 5 38 ?_;refine tkH 6 39 ?_;refine tkH 7 40 ?_;refine tkH 8 41 ?_;refine rdH 9 (fun K hK=>?_);go_simp;go_wp2_with (go_at_call 47;refine (IH.out (.mk yn ym yK yL yN yO yP yQ yR yS yT) _ HR2.out.ia HR2.out.iy).mono ?_;rintro e w5 ⟨rfl,hb5⟩;(rw[HU1.out];replace HBX:=Lh (HBX.out.later hb5);replace HR2:=Lh (HR2.out.later hb5);clear hb5))
 refine hK.out _ _ ?_ (fun hHeld=>?_)
 ·exact⟨HBX.out.i1,HBX.out.c4,HR2.out.s0,HR2.out.s1,HR2.out.y0,HR2.out.y1,HR2.out.y2,HR2.out.y3,HR2.out.y4⟩
 clear hK K;refine tkH 10 43 ?_;refine tkH 11 44 ?_;refine tkH 12 45 ?_;refine tkH 13 46 ?_;refine tkH 14 47 ?_;refine tkH 15 48 ?_;refine tkH 16 49 ?_;refine tkH 17 50 ?_;refine tkH 18 51 ?_;refine tkH 19 52 ?_;refine tkH 20 53 ?_;refine rdH 21 (fun K hK=>?_);go_simp;go_wp2_with (go_at_call 19;refine (jk9 (.mk ak aA ac al) (.mk yn ym yK yL yN yO yP yQ yR yS yT) _ HR2.out.ia HR2.out.iy).mono ?_;rintro e w6 ⟨rfl,hb5⟩;(rw[HU2.out];replace HBX:=Lh (HBX.out.later hb5);replace HR2:=Lh (HR2.out.later hb5);clear hb5))
 refine hK.out _ _ ?_ (fun hHeld=>?_)
 ·exact⟨HBX.out.i1,HBX.out.c4,HR2.out.s0,HR2.out.s1,HR2.out.y0,HR2.out.y1,HR2.out.y2,HR2.out.y3,HR2.out.y4⟩
 clear hK K;refine tkH 22 55 ?_;refine wpAnyH_done (by kernel_rfl) ?_ _;refine NoPanic.normal ?_;go_wp2_with fail;go_ret;exact⟨jzi (by rw[HFA.out];rfl),HBX.out.bel⟩)
 | false=>(
 go_wp2_with fail;replace HBX:=Lh (HBX.out.later (jqo wr));refine wp_region_noPanic ?_;refine wp_region_held_drew (S:=(fun w'=>w'.cell? ⟨w.heap.size,1,none⟩=some (.slice (some ⟨b,off,none⟩) 1 c)/\w'.cell? ⟨w.heap.size+1,4,none⟩=some (.slice (some ⟨b2,off2,none⟩) vs.length vc)/\w'.cell? ⟨b,off,none⟩=some (.int .i64 ak)/\w'.cell? ⟨b,off+1,none⟩=some (.slice aA al.length ac)/\w'.cell? ⟨b2,off2+i*5,none⟩=some (.int .u64 yn)/\w'.cell? ⟨b2,off2+i*5+1,none⟩=some (.int .u64 ym)/\w'.cell? ⟨b2,off2+i*5+2,none⟩=some (.slice yK yN.length yL)/\w'.cell? ⟨b2,off2+i*5+3,none⟩=some (.slice yO yQ.length yP)/\w'.cell? ⟨b2,off2+i*5+4,none⟩=some (.slice yR yT.length yS))) (by kernel_rfl) ?_ (fun hHeld=>?_)
 ·exact⟨HBX.out.i1,HBX.out.c4,HR2.out.s0,HR2.out.s1,HR2.out.y0,HR2.out.y1,HR2.out.y2,HR2.out.y3,HR2.out.y4⟩
 refine tkH 0 33 ?_;refine tkH 1 34 ?_;refine tkH 2 35 ?_;refine tkH 3 36 ?_;refine tkH 4 37 ?_;refine tkH 5 38 ?_;refine tkH 6 39 ?_;refine tkH 7 40 ?_;refine tkH 8 41 ?_;refine rdH 9 (fun K hK=>?_);go_simp;go_wp2_with (go_at_call 47;refine (IH.out (.mk yn ym yK yL yN yO yP yQ yR yS yT) _ HR2.out.ia HR2.out.iy).mono ?_;rintro e w5 ⟨rfl,hb5⟩;(rw[HU1.out];replace HBX:=Lh (HBX.out.later hb5);replace HR2:=Lh (HR2.out.later hb5);clear hb5))
 refine hK.out _ _ ?_ (fun hHeld=>?_)
 ·exact⟨HBX.out.i1,HBX.out.c4,HR2.out.s0,HR2.out.s1,HR2.out.y0,HR2.out.y1,HR2.out.y2,HR2.out.y3,HR2.out.y4⟩
 clear hK K;refine tkH 10 43 ?_;refine tkH 11 44 ?_;refine tkH 12 45 ?_;refine tkH 13 46 ?_;refine tkH 14 47 ?_;refine tkH 15 48 ?_;refine tkH 16 49 ?_;refine tkH 17 50 ?_;refine tkH 18 51 ?_;refine tkH 19 52 ?_;refine tkH 20 53 ?_;refine rdH 21 (fun K hK=>?_);go_simp;go_wp2_with (go_at_call 19;refine (jk9 (.mk ak aA ac al) (.mk yn ym yK yL yN yO yP yQ yR yS yT) _ HR2.out.ia HR2.out.iy).mono ?_;rintro e w6 ⟨rfl,hb5⟩;(rw[HU2.out];replace HBX:=Lh (HBX.out.later hb5);replace HR2:=Lh (HR2.out.later hb5);clear hb5))
 refine hK.out _ _ ?_ (fun hHeld=>?_)
 ·exact⟨HBX.out.i1,HBX.out.c4,HR2.out.s0,HR2.out.s1,HR2.out.y0,HR2.out.y1,HR2.out.y2,HR2.out.y3,HR2.out.y4⟩
 clear hK K;refine tkH 22 55 ?_;refine wpAnyH_done (by kernel_rfl) ?_ _;refine NoPanic.normal ?_;go_wp2_with fail;go_roundw
 case rel=>exact⟨i+1,by omega,by go_num,jv7 h0.out (jbe (f:=Vl.er) HY.out) HPQ.out,HBX⟩
 case measure=>simp[intOf];omega)))
 ·(
 have HFA:Hid (jhi p (jqh a.er) (Vl.mk n m sA sc ss cA cc cs vA vc vs).er.v=true):=by (
 show jhi _ _ _=true
 rw[jzt];exact juc h0.out (by show (List.map Vl.er vs).length<=i;rw[List.length_map];omega))
 go_wp2_with fail;go_ret;exact⟨jzi (by rw[HFA.out];rfl),HBX.out.bel⟩)))))
theorem refIsV_5(A:Option Addr)(c:Nat)(a a':Sc)(x:Vl)(w:World)(hs:(Sc.mk 5 A c [a,a']).In w.heap.size w)(hx:x.In w)(p p':Va->Bool)(ih:∀ (y:Vl) (w:World),a.In w.heap.size w->y.In w->Calls Tryz.prog 47 #[a.val,y.val] w (jqd w (.bool (p y.er))))(ih2:∀ (y:Vl) (w:World),a'.In w.heap.size w->y.In w->Calls Tryz.prog 47 #[a'.val,y.val] w (jqd w (.bool (p' y.er)))):Calls Tryz.prog 47 #[(Sc.mk 5 A c [a,a']).val,x.val] w (jqd w (.bool (jq0 5 x.er && jgq p p' x.er.v))):=by
 obtain⟨n,m,sA,sc,ss,cA,cc,cs,vA,vc,vs⟩:=x;have HS:=Lh hs;have IH:=Lh ih;have IH2:=Lh ih2;clear hs ih ih2;have HB0:Hid (Below w.heap.size w ((w.alloc (.cells #[.int .i64 5,.slice A 2 c] 24)).alloc (.cells #[.int .u64 n,.int .u64 m,.slice sA ss.length sc,.slice cA cs.length cc,.slice vA vs.length vc] 30))):=jzj (jzf _ _);have HX:=Lh (hx.later HB0.out);have P:=hx.out;have HP:=Lh P;have HSB:Hid (ss.length<=maxLen):=leT P.sb.1 P.sb.2.1;have hsm:ss.length<=9223372036854775807:=by have:=P.sb;unfold maxLen at this;omega
 have hcm:cs.length<=9223372036854775807:=by have:=P.cb;unfold maxLen at this;omega
 have hvm:vs.length<=9223372036854775807:=by have:=P.vb;unfold maxLen at this;omega
 obtain⟨t,ht⟩:=exq (jqk 5 (Vl.mk n m sA sc ss cA cc cs vA vc vs).er);obtain⟨u,hu⟩:=exq (decide (R1.Srt ss));obtain⟨q,hq⟩:=exq (decide (ss.length<=40));have HF:Hid (jq0 5 (Vl.mk n m sA sc ss cA cc cs vA vc vs).er=(t && (u && q))):=by (
 show jq0 _ _=_
 unfold jq0;rw[ht,jzt,show (Va.mk n m ss (cs.map Ck.l) (vs.map Vl.er)).s=ss from rfl,hu,hq])
 have HT:=Lh ht;have HU:=Lh hu;have HQ:=Lh hq;rw[HF.out];clear hx P ht hu hq HF;simp only[S2.jzh,jzh,List.length_nil,List.length_cons,Nat.zero_add,Nat.reduceAdd];go_enter Tryz.func47,Tryz.ntmps47;go_wp2_with fail;refine (jxl 5 A c 2 n m sA sc ss cA cc cs vA vc vs t _ HX.out HT.out).mono ?_;rintro e w1 ⟨rfl,hb1⟩;have HBX:Hid (jjw w 5 A 2 c n m sA ss.length sc cA cs.length cc vA vs.length vc w1):=jjw.later ⟨by go_simp,by go_simp,by go_simp,by go_simp,by go_simp,by go_simp,by go_simp,by simp,HB0.out⟩ hb1;clear hb1 HB0 HX;cases t with
 | false=>(
 go_wp2_with fail;go_ret;exact⟨rfl,HBX.out.bel⟩)
 | true=>(
 have c2:=HBX.out.c2;go_wp2_with fail;refine (jq3 sA sc ss u _ (HP.out.sl.below HBX.out.bel) HSB.out HU.out).mono ?_;rintro e w2 ⟨rfl,hb2⟩;replace HBX:=Lh (HBX.out.later hb2);clear hb2 c2;cases u with
 | false=>(
 go_wp2_with fail;go_ret;exact⟨rfl,HBX.out.bel⟩)
 | true=>(
 have c2:=HBX.out.c2;have i0:=HBX.out.i0;cases q with
 | false=>(
 have dq:40<ss.length:=by have:=of_decide_eq_false HQ.out;omega
 go_wp2_with fail;go_ret;exact⟨rfl,HBX.out.bel⟩)
 | true=>(
 have dq:decide (40<(ss.length:Int))=false:=decide_eq_false (by have:=of_decide_eq_true HQ.out;omega);have hv2:vs.length=2:=by (
 have h:=HT.out;rw[jzt,jtk,Bool.and_eq_true] at h;have:=of_decide_eq_true h.2;rwa [List.length_map] at this)
 obtain⟨y,z,rfl⟩:=jxk hv2;obtain⟨hl0,-,-,hall⟩:=HS.out.out;obtain⟨b,off,rfl,hb,hcl⟩:=(hl0.below HBX.out.bel).get (k:=0) (by simp);obtain⟨g0,g1⟩:=hcl 0 a rfl;obtain⟨g2,g3⟩:=hcl 1 a' rfl;obtain⟨b2,off2,rfl,hb2,hy0,hy1,hy2,hy3,hy4⟩:=jqm (HP.out.vl.below HBX.out.bel) (k:=0) (x:=y) rfl;obtain⟨b3,off3,he3,hb3,hz0,hz1,hz2,hz3,hz4⟩:=jqm (HP.out.vl.below HBX.out.bel) (k:=1) (x:=z) rfl;obtain⟨rfl,rfl⟩:b2=b3/\off2=off3:=by cases he3;exact⟨rfl,rfl⟩
 simp only[Nat.zero_mul,Nat.add_zero,Nat.one_mul] at g0 g1 g2 g3 hy0 hy1 hy2 hy3 hy4 hz0 hz1 hz2 hz3 hz4;have l1:b<w2.heap.size:=ltl hb HBX.out.bel.size;have l2:b2<w2.heap.size:=ltl hb2 HBX.out.bel.size;have HR2:Hid (Row2 b off a b2 off2 y w2.drew):=Row2.later ⟨g0,g1,hy0,hy1,hy2,hy3,hy4,l1,l2,((hall a (by simp)).keep HBX.out.bel).up HBX.out.bel.size,(HP.out.vk y (by simp)).later HBX.out.bel⟩ (jqo w2);have HR3:Hid (Row2 b (off+2) a' b2 (off2+5) z w2.drew):=Row2.later ⟨g2,g3,hz0,hz1,hz2,hz3,hz4,l1,l2,((hall a' (by simp)).keep HBX.out.bel).up HBX.out.bel.size,(HP.out.vk z (by simp)).later HBX.out.bel⟩ (jqo w2);obtain⟨u1,hu1⟩:=exq (p y.er);obtain⟨u2,hu2⟩:=exq (p' z.er);have HFA:Hid (jgq p p' (Vl.mk n m sA sc ss cA cc cs (some ⟨b2,off2,none⟩) vc [y,z]).er.v=(u1 && u2)):=by (
 show jgq _ _ _=_
 rw[jzt,<- hu1,<- hu2];rfl)
 have HU1:=Lh hu1;have HU2:=Lh hu2;clear hl0 hall hcl g0 g1 g2 g3 he3 hy0 hy1 hy2 hy3 hy4 hz0 hz1 hz2 hz3 hz4 hu1 hu2 hv2 hvm HP HT l1 l2 HS;obtain⟨ak,aA,ac,al⟩:=a;obtain⟨dk,dA,dc,dl⟩:=a';obtain⟨yn,ym,yK,yL,yN,yO,yP,yQ,yR,yS,yT⟩:=y;obtain⟨zn,zm,zK,zL,zM,zN,zO,zP,zQ,zR,zS⟩:=z;simp only[S2.jzh] at IH IH2;cases u1 with
 | false=>(
 go_wp2_with fail;replace HBX:=Lh (HBX.out.later (jqo w2));refine wp_region_noPanic ?_;refine wp_region_held_drew (S:=(fun w'=>w'.cell? ⟨w.heap.size,1,none⟩=some (.slice (some ⟨b,off,none⟩) 2 c)/\w'.cell? ⟨w.heap.size+1,4,none⟩=some (.slice (some ⟨b2,off2,none⟩) 2 vc)/\w'.cell? ⟨b,off,none⟩=some (.int .i64 ak)/\w'.cell? ⟨b,off+1,none⟩=some (.slice aA al.length ac)/\w'.cell? ⟨b2,off2,none⟩=some (.int .u64 yn)/\w'.cell? ⟨b2,off2+1,none⟩=some (.int .u64 ym)/\w'.cell? ⟨b2,off2+2,none⟩=some (.slice yK yN.length yL)/\w'.cell? ⟨b2,off2+3,none⟩=some (.slice yO yQ.length yP)/\w'.cell? ⟨b2,off2+4,none⟩=some (.slice yR yT.length yS)/\w'.cell? ⟨b,off+2,none⟩=some (.int .i64 dk)/\w'.cell? ⟨b,off+2+1,none⟩=some (.slice dA dl.length dc)/\w'.cell? ⟨b2,off2+5,none⟩=some (.int .u64 zn)/\w'.cell? ⟨b2,off2+5+1,none⟩=some (.int .u64 zm)/\w'.cell? ⟨b2,off2+5+2,none⟩=some (.slice zK zM.length zL)/\w'.cell? ⟨b2,off2+5+3,none⟩=some (.slice zN zP.length zO)/\w'.cell? ⟨b2,off2+5+4,none⟩=some (.slice zQ zS.length zR))) (by kernel_rfl) ?_ (fun hHeld=>?_)
 ·exact⟨HBX.out.i1,HBX.out.c4,HR2.out.s0,HR2.out.s1,HR2.out.y0,HR2.out.y1,HR2.out.y2,HR2.out.y3,HR2.out.y4,HR3.out.s0,HR3.out.s1,HR3.out.y0,HR3.out.y1,HR3.out.y2,HR3.out.y3,HR3.out.y4⟩
 refine tkH 0 58 ?_;refine tkH 1 59 ?_;refine tkH 2 60 ?_;refine tkH 3 61 ?_;refine tkH 4 62 ?_;refine tkH 5 63 ?_;refine tkH 6 64 ?_;refine tkH 7 65 ?_;refine rdH 8 (fun K hK=>?_);go_simp;go_wp2_with (go_at_call 47;refine (IH.out (.mk yn ym yK yL yN yO yP yQ yR yS yT) _ HR2.out.ia HR2.out.iy).mono ?_;rintro e w5 ⟨rfl,hb5⟩;(rw[HU1.out];replace HBX:=Lh (HBX.out.later hb5);replace HR2:=Lh (HR2.out.later hb5);replace HR3:=Lh (HR3.out.later hb5);clear hb5))
 refine hK.out _ _ ?_ (fun hHeld=>?_)
 ·exact⟨HBX.out.i1,HBX.out.c4,HR2.out.s0,HR2.out.s1,HR2.out.y0,HR2.out.y1,HR2.out.y2,HR2.out.y3,HR2.out.y4,HR3.out.s0,HR3.out.s1,HR3.out.y0,HR3.out.y1,HR3.out.y2,HR3.out.y3,HR3.out.y4⟩
 clear hK K;refine tkH 9 67 ?_;refine tkU 10 68 ?_;refine tkU 11 69 ?_;refine tkU 12 70 ?_;refine tkU 13 71 ?_;refine tkU 14 72 ?_;refine tkU 15 73 ?_;refine tkU 16 74 ?_;refine tkU 17 75 ?_;refine tkU 18 76 ?_;refine tkH 19 77 ?_;refine tkH 20 4 ?_;refine wpAnyH_done (by kernel_rfl) ?_ _;refine NoPanic.normal ?_;go_wp2_with fail;go_ret;exact⟨jzi (by rw[HFA.out];rfl),HBX.out.bel⟩)
 | true=>(
 go_wp2_with fail;replace HBX:=Lh (HBX.out.later (jqo w2));refine wp_region_noPanic ?_;refine wp_region_held_drew (S:=(fun w'=>w'.cell? ⟨w.heap.size,1,none⟩=some (.slice (some ⟨b,off,none⟩) 2 c)/\w'.cell? ⟨w.heap.size+1,4,none⟩=some (.slice (some ⟨b2,off2,none⟩) 2 vc)/\w'.cell? ⟨b,off,none⟩=some (.int .i64 ak)/\w'.cell? ⟨b,off+1,none⟩=some (.slice aA al.length ac)/\w'.cell? ⟨b2,off2,none⟩=some (.int .u64 yn)/\w'.cell? ⟨b2,off2+1,none⟩=some (.int .u64 ym)/\w'.cell? ⟨b2,off2+2,none⟩=some (.slice yK yN.length yL)/\w'.cell? ⟨b2,off2+3,none⟩=some (.slice yO yQ.length yP)/\w'.cell? ⟨b2,off2+4,none⟩=some (.slice yR yT.length yS)/\w'.cell? ⟨b,off+2,none⟩=some (.int .i64 dk)/\w'.cell? ⟨b,off+2+1,none⟩=some (.slice dA dl.length dc)/\w'.cell? ⟨b2,off2+5,none⟩=some (.int .u64 zn)/\w'.cell? ⟨b2,off2+5+1,none⟩=some (.int .u64 zm)/\w'.cell? ⟨b2,off2+5+2,none⟩=some (.slice zK zM.length zL)/\w'.cell? ⟨b2,off2+5+3,none⟩=some (.slice zN zP.length zO)/\w'.cell? ⟨b2,off2+5+4,none⟩=some (.slice zQ zS.length zR))) (by kernel_rfl) ?_ (fun hHeld=>?_)
 ·exact⟨HBX.out.i1,HBX.out.c4,HR2.out.s0,HR2.out.s1,HR2.out.y0,HR2.out.y1,HR2.out.y2,HR2.out.y3,HR2.out.y4,HR3.out.s0,HR3.out.s1,HR3.out.y0,HR3.out.y1,HR3.out.y2,HR3.out.y3,HR3.out.y4⟩
 refine tkH 0 58 ?_;refine tkH 1 59 ?_;refine tkH 2 60 ?_;refine tkH 3 61 ?_;refine tkH 4 62 ?_;refine tkH 5 63 ?_;refine tkH 6 64 ?_;refine tkH 7 65 ?_;refine rdH 8 (fun K hK=>?_);go_simp;go_wp2_with (go_at_call 47;refine (IH.out (.mk yn ym yK yL yN yO yP yQ yR yS yT) _ HR2.out.ia HR2.out.iy).mono ?_;rintro e w5 ⟨rfl,hb5⟩;(rw[HU1.out];replace HBX:=Lh (HBX.out.later hb5);replace HR2:=Lh (HR2.out.later hb5);replace HR3:=Lh (HR3.out.later hb5);clear hb5))
 refine hK.out _ _ ?_ (fun hHeld=>?_)
 ·exact⟨HBX.out.i1,HBX.out.c4,HR2.out.s0,HR2.out.s1,HR2.out.y0,HR2.out.y1,HR2.out.y2,HR2.out.y3,HR2.out.y4,HR3.out.s0,HR3.out.s1,HR3.out.y0,HR3.out.y1,HR3.out.y2,HR3.out.y3,HR3.out.y4⟩
 clear hK K;refine tkH 9 67 ?_;refine tkH 10 68 ?_;refine tkH 11 69 ?_;refine tkH 12 70 ?_;refine tkH 13 71 ?_;refine tkH 14 72 ?_;refine tkH 15 73 ?_;refine tkH 16 74 ?_;refine tkH 17 75 ?_;refine rdH 18 (fun K hK=>?_);go_simp;go_wp2_with (go_at_call 47;refine (IH2.out (.mk zn zm zK zL zM zN zO zP zQ zR zS) _ HR3.out.ia HR3.out.iy).mono ?_;rintro e w6 ⟨rfl,hb5⟩;(rw[HU2.out];replace HBX:=Lh (HBX.out.later hb5);replace HR2:=Lh (HR2.out.later hb5);replace HR3:=Lh (HR3.out.later hb5);clear hb5))
 refine hK.out _ _ ?_ (fun hHeld=>?_)
 ·exact⟨HBX.out.i1,HBX.out.c4,HR2.out.s0,HR2.out.s1,HR2.out.y0,HR2.out.y1,HR2.out.y2,HR2.out.y3,HR2.out.y4,HR3.out.s0,HR3.out.s1,HR3.out.y0,HR3.out.y1,HR3.out.y2,HR3.out.y3,HR3.out.y4⟩
 clear hK K;refine tkH 19 77 ?_;refine tkH 20 4 ?_;refine wpAnyH_done (by kernel_rfl) ?_ _;refine NoPanic.normal ?_;go_wp2_with fail;go_ret;exact⟨jzi (by rw[HFA.out];rfl),HBX.out.bel⟩))))
theorem jj8{n:Nat}{k:Int}{l:List Tr}(h:isT (n+1) (.mk k l)=true):∀ t∈l,isT n t=true:=by
 rw[isT,Bool.and_eq_true] at h;exact fun t ht=>List.all_eq_true.1 h.2 t ht
theorem joj:∀ (s:Sc) (n:Nat),isT n s.er=true->∀ (x:Vl) (w:World),s.In w.heap.size w->x.In w->Calls Tryz.prog 47 #[s.val,x.val] w (jqd w (.bool (isV s.er x.er))):=by
 intro s;induction s using S2.Sc.ind with
 | h k A c l ih=>(
 intro n hn x w hs hx;have hlen:=jg1 (n:=n) (k:=k) (l:=l.map Sc.er) (by rw[<- S2.jzt k A c];exact hn);rw[List.length_map] at hlen;have hins:∀ a∈l,∃ m,isT m a.er=true:=by (
 intro a ha;cases n with
 | zero=>simp[isT] at hn
 | succ n=>(
 rw[S2.jzt] at hn;exact⟨n,jj8 hn _ (List.mem_map.2 ⟨a,ha,rfl⟩)⟩))
 rw[S2.jzt];by_cases h0:k=1\/k=2\/k=3\/k=6\/k=7
 ·(
 have hl:l=[]:=by (
 apply List.eq_nil_of_length_eq_zero;unfold S2.arI at hlen;rw[if_pos h0] at hlen;omega)
 subst hl;rw[List.map_nil,isV];rcases h0 with rfl | rfl | rfl | rfl | rfl
 ·rw[if_neg (by decide)];exact refIsV_1 A c x w hx
 ·rw[if_neg (by decide)];exact refIsV_2 A c x w hx
 ·rw[if_neg (by decide)];exact refIsV_3 A c x w hx
 ·rw[if_neg (by decide)];exact refIsV_6 A c x w hx
 ·rw[if_pos rfl];exact refIsV_7 A c x w hx)
 ·(
 by_cases h1:k=4\/k=8
 ·(
 have hl:l.length=1:=by (
 unfold S2.arI at hlen;rw[if_neg h0,if_pos h1] at hlen;omega)
 obtain⟨a,rfl⟩:=List.length_eq_one_iff.1 hl;obtain⟨m,hm⟩:=hins a (by simp);have iha:=ih a (by simp) m hm;rw[List.map_cons,List.map_nil,isV];rcases h1 with rfl | rfl
 ·rw[if_pos rfl];exact refIsV_4 A c a x w hs hx (isV a.er) fun y w h1 h2=>iha y w h1 h2
 ·rw[if_neg (by decide)];exact refIsV_8 A c a x w hs hx (isV a.er) fun y w h1 h2=>iha y w h1 h2)
 ·(
 by_cases h2:k=5
 ·(
 subst h2;have hl:l.length=2:=by (
 unfold S2.arI at hlen;rw[if_neg h0,if_neg h1,if_pos rfl] at hlen;omega)
 obtain⟨a,a',rfl⟩:=jxk hl;obtain⟨m,hm⟩:=hins a (by simp);obtain⟨m',hm'⟩:=hins a' (by simp);rw[List.map_cons,List.map_cons,List.map_nil,isV];exact refIsV_5 A c a a' x w hs hx (isV a.er) (isV a'.er) (fun y w h1 h2=>ih a (by simp) m hm y w h1 h2) (fun y w h1 h2=>ih a' (by simp) m' hm' y w h1 h2))
 ·(
 unfold S2.arI at hlen;rw[if_neg h0,if_neg h1,if_neg h2] at hlen;omega))))
theorem jfe(s:Sc)(x:Vl)(w:World)(hs:s.In w.heap.size w)(hx:x.In w):Calls Tryz.prog 22 #[s.val,x.val] w (jqd w (.bool (isT 16 s.er && isV s.er x.er))):=by
 obtain⟨k,A,c,l⟩:=s;obtain⟨n,m,sA,sc,ss,cA,cc,cs,vA,vc,vs⟩:=x;have HB0:Hid (Below w.heap.size w ((w.alloc (.cells #[.int .i64 k,.slice A l.length c] 24)).alloc (.cells #[.int .u64 n,.int .u64 m,.slice sA ss.length sc,.slice cA cs.length cc,.slice vA vs.length vc] 30))):=jzj (jzf _ _);have HS:=Lh hs;have HX:=Lh hx;obtain⟨t,ht⟩:=exq (isT 16 (Sc.mk k A c l).er);have HT:=Lh ht;rw[ht];clear hs hx ht;simp only[S2.jzh,jzh];go_enter Tryz.func22,Tryz.ntmps22;go_wp2_with fail;refine (ju4 k A c l t _ (HS.out.later HB0.out) HT.out).mono ?_;rintro e w1 ⟨rfl,hb1⟩;have HBX:Hid (jjw w k A l.length c n m sA ss.length sc cA cs.length cc vA vs.length vc w1):=jjw.later ⟨by go_simp,by go_simp,by go_simp,by go_simp,by go_simp,by go_simp,by go_simp,by simp,HB0.out⟩ hb1;clear hb1 HB0;cases t with
 | false=>(
 go_wp2_with fail;go_ret;exact⟨rfl,HBX.out.bel⟩)
 | true=>(
 have HI:=Lh (joj (.mk k A c l) 16 HT.out (.mk n m sA sc ss cA cc cs vA vc vs) w1 ((HS.out.keep HBX.out.bel).up HBX.out.bel.size) (HX.out.later HBX.out.bel));simp only[S2.jzh,jzh] at HI;have i0:=HBX.out.i0;have i1:=HBX.out.i1;have c0:=HBX.out.c0;have c1:=HBX.out.c1;have c2:=HBX.out.c2;have c3:=HBX.out.c3;have c4:=HBX.out.c4;go_wp2_with fail;refine HI.out.mono ?_;rintro e w2 ⟨rfl,hb2⟩;have hbw:=(HBX.out.later hb2).bel;clear hb2;generalize isV (Sc.mk k A c l).er (Vl.mk n m sA sc ss cA cc cs vA vc vs).er=z at *;go_wp2_with fail;go_ret;exact⟨rfl,hbw⟩)
end V4
namespace R1
open Go.RowKit
def cellsOf(ys:List Str):List Value:=ys.map fun x=>Value.string (S x)
theorem jd5{ys:List Str}{j:Nat}{u:Value}(h:(cellsOf ys)[j]?=some u):∃ x,ys[j]?=some x/\u = .string (S x):=by
 unfold cellsOf at h;rw[List.getElem?_map] at h;cases hx:ys[j]? with
 | none=>rw[hx] at h;cases h
 | some x=>rw[hx] at h;exact⟨x,rfl,by simpa using h.symm⟩
theorem jfy{ys:List Str}{j:Nat}{x:Str}(h:ys[j]?=some x):(cellsOf ys)[j]?=some (.string (S x)):=by
 unfold cellsOf;rw[List.getElem?_map,h];rfl
theorem jd3{ys:List Str}:∀ u∈cellsOf ys,u.oneCell'=true:=by
 intro u hu;obtain⟨x,_,rfl⟩:=List.mem_map.1 hu;rfl
theorem jd4(ys:List Str):(cellsOf ys).length=ys.length:=by simp[cellsOf]
theorem jk3(xs ys:List Str):cellsOf (xs++ys)=cellsOf xs++cellsOf ys:=by simp[cellsOf]
def Own(w:World)(base:Nat)(v:Value)(ys:List Str):Prop:=w.ownsRow base 9 1 v ys.length (cellsOf ys)
theorem Own.nil(w:World)(base:Nat):Own w base (.slice none 0 0) []:=World.ownsRow_nil w base _ _
theorem Own.form{w:World}{base:Nat}{v:Value}{ys:List Str}(h:Own w base v ys):∃ A c,v = .slice A ys.length c/\ys.length<=c/\c<=maxLen/\jqs w A ys:=by
 rcases h.2 with ⟨rfl,h0⟩ | ⟨g,cap,cur,rfl,hb,hg,hnc,hcm,hcs,ht⟩
 ·(
 have:ys=[]:=List.eq_nil_of_length_eq_zero h0;subst this;exact⟨none,0,rfl,Nat.le_refl _,Nat.zero_le _,.inl rfl⟩)
 ·(
 refine⟨_,cap,rfl,hnc,hcm,.inr ⟨g,0,rfl,?_,fun i x hx=>?_⟩⟩
 ·(
 rcases Nat.lt_or_ge g w.heap.size with hlt | hge
 ·exact hlt
 ·rw[Array.getElem?_eq_none hge] at hg;cases hg)
 ·(
 have:=World.ownsRow.cells h (g:=g) rfl i _ (jfy hx);rwa [Addr.add_lit] at this))
theorem Own.lt{w:World}{base:Nat}{v:Value}{ys:List Str}(h:Own w base v ys){k:Nat}(hk:v.ownBlock=some k):base<=k/\k<w.heap.size:=World.ownsRow.lt h k hk
theorem Own.alloc{w:World}{base:Nat}{v:Value}{ys:List Str}(h:Own w base v ys)(o:Obj):Own (w.alloc o) base v ys:=World.ownsRow.alloc h o
theorem jqs.grown{w w':World}{A:Option Addr}{xs:List Str}{row:Option Nat}(h:jqs w A xs)(hg:w.grownBy w' row)(hne:∀ a,A=some a->some a.block≠row):jqs w' A xs:=by
 rcases h with h | ⟨b,off,rfl,hb,h⟩
 ·exact .inl h
 ·exact .inr ⟨b,off,rfl,ltl hb hg.size,fun i x hx=>hg.cell (h i x hx) (hne ⟨b,off,none⟩ rfl)⟩
theorem own_snoc{w:World}{base:Nat}{v:Value}{ys:List Str}{x:Str}(h:w.ownsRow base 9 1 v (ys.length+1) (cellsOf ys++[.string (S x)])):Own w base v (ys++[x]):=by
 unfold Own;rw[jk3,List.length_append];exact h
theorem Tryz.infoStr:(Tryz.prog.info? 9).map (fun i=>(i.zero,i.size,i.bytes))=some (some (.string { data:=#[] }),1,16):=by kernel_rfl
section
variable (w:World)
theorem jk7(base:Nat)(t ty:TypeId)(ht:Tryz.prog.underlying t=some (.slice 9))(v:Value)(ys:List Str)(hown:Own w base v ys)(c:Nat):(Builtin.append_ #[t,t] ty #[v,.slice none 0 c]).run Tryz.prog w = .ok v w:=by
 obtain⟨i0,hi,hz0,hz1,hz2⟩:=info_parts Tryz.infoStr;rcases hown.2 with ⟨rfl,_⟩ | ⟨g,cap,cur,rfl,_,_,hnc,_⟩
 ·simp[Builtin.append_,run_underlying ht,sizeOf,typeInfo,hi,Builtin.lenOf,Builtin.firstCells]
 ·simp[Builtin.append_,run_underlying ht,sizeOf,typeInfo,hi,Builtin.lenOf,Builtin.firstCells,hnc,storeCells]
theorem jdc(base:Nat)(t ty:TypeId)(ht:Tryz.prog.underlying t=some (.slice 9))(v:Value)(ys:List Str)(hown:Own w base v ys)(A:Option Addr)(c:Nat)(news:List Str)(hl:jqs w A news)(hlen:ys.length+news.length<=1000000)(hbase:base<=w.heap.size):∃ v' w',(Builtin.append_ #[t,t] ty #[v,.slice A news.length c]).run Tryz.prog w = .ok v' w'/\Own w' base v' (ys++news)/\w.grownBy w' v.ownBlock/\(v'.ownBlock=v.ownBlock\/v'.ownBlock=some w.heap.size):=by
 obtain⟨i0,hi,hz0,hz1,hz2⟩:=info_parts Tryz.infoStr;cases A with
 | none=>(
 have hn:news=[]:=by (
 rcases hl with h | ⟨b,off,h,_⟩
 ·exact h
 ·cases h)
 subst hn;exact⟨v,w,jk7 w base t ty ht v ys hown c,by simpa using hown,World.grownBy.refl w _,.inl rfl⟩)
 | some a=>(
 have hcells:∀ j u,(cellsOf news)[j]?=some u->w.cell? (a.add j)=some u:=by (
 intro j u hu;obtain⟨x,hx,rfl⟩:=jd5 hu;rcases hl with h | ⟨b,off,h,_,hc⟩
 ·subst h;simp at hx
 ·(
 cases h
 rw[Addr.add_lit];exact hc j x hx))
 obtain⟨v',w',hr,h2,h3,_,h5⟩:=run_append_own_at (P:=Tryz.prog) w base t ty 9 i0 _ 1 16 ht hi hz0 hz1 hz2 rfl (by omega) v ys.length (cellsOf ys) hown a news.length c (cellsOf news)
   (by rw[jd4];omega) hcells jd3 (by unfold maxLen;omega) (by omega) hbase
 refine⟨v',w',hr,?_,h3,h5⟩;unfold Own;rw[jk3,List.length_append];exact h2)
variable {o:Oper} {a:Act} {K:Act->World->Prop} {Q:Exit->Act->World->Prop}
theorem jue(s x:Operand)(t:TypeId)(ho:o.op = .call { callee := .builtin .append,args:=#[s,x],argTypes:=#[t,t] })(base:Nat)(ht:Tryz.prog.underlying t=some (.slice 9))(v:Value)(ys:List Str)(hs:a.eval s=v)(hown:Own w base v ys)(A:Option Addr)(m c:Nat)(news:List Str)(hm:news.length=m)(hx:a.eval x = .slice A m c)(hl:jqs w A news)(hlen:ys.length+news.length<=1000000)(hbase:base<=w.heap.size)(h:∀ v' w',Own w' base v' (ys++news)->w.grownBy w' v.ownBlock->(v'.ownBlock=v.ownBlock\/v'.ownBlock=some w.heap.size)->K (a.put o.dst v') w'):o.wp Tryz.prog a w K Q:=by
 subst hm;obtain⟨v',w',hr,h2,h3,h4⟩:=jdc w base t o.type ht v ys hown A c news hl hlen hbase;unfold Oper.wp execOp;simp only[ho,resolve,invoke,builtin,Sem.run_bind,Sem.run_pure,Result.andThen_ok,List.map_toArray,List.map_cons,List.map_nil,hs,hx,hr];exact h v' w' h2 h3 h4
theorem jz2{ops:Array Oper}{rest:List Oper}(hgd:o.guard=none)(s x:Operand)(t:TypeId)(ho:o.op = .call { callee := .builtin .append,args:=#[s,x],argTypes:=#[t,t] })
    (base:Nat) (ht:Tryz.prog.underlying t=some (.slice 9)) (v:Value) (ys:List Str) (hs:a.eval s=v) (hown:Own w base v ys)
    (A:Option Addr) (m c:Nat) (news:List Str) (hm:news.length=m) (hx:a.eval x = .slice A m c) (hl:jqs w A news) (hlen:ys.length+news.length<=1000000) (hbase:base<=w.heap.size)
    (h:∀ v' w',Own w' base v' (ys++news)->w.grownBy w' v.ownBlock->(v'.ownBlock=v.ownBlock\/v'.ownBlock=some w.heap.size)->wpList Tryz.prog ops Q rest (a.put o.dst v') w'):wpList Tryz.prog ops Q (o :: rest) a w :=
  wpList_plain hgd fun _ hK=>jue w s x t ho base ht v ys hs hown A m c news hm hx hl hlen hbase fun v' w' h2 h3 h4=>hK _ _ (h v' w' h2 h3 h4)
theorem jjy{ops:Array Oper}{E:Prop}(hgd:o.guard=none)(s x:Operand)(t:TypeId)(ho:o.op = .call { callee := .builtin .append,args:=#[s,x],argTypes:=#[t,t] })(base:Nat)(ht:Tryz.prog.underlying t=some (.slice 9))(v:Value)(ys:List Str)(hs:a.eval s=v)(hown:Own w base v ys)(A:Option Addr)(m c:Nat)(news:List Str)(hm:news.length=m)(hx:a.eval x = .slice A m c)(hl:jqs w A news)(hlen:ys.length+news.length<=1000000)(hbase:base<=w.heap.size)(h:∀ v' w',Own w' base v' (ys++news)->w.grownBy w' v.ownBlock->(v'.ownBlock=v.ownBlock\/v'.ownBlock=some w.heap.size)->K (a.put o.dst v') w'):if Region.wanted o (yielded ops a.tmps)=true then Oper.wp Tryz.prog o a w K Q else E:=by
 have hw:Region.wanted o (yielded ops a.tmps)=true:=by simp[Region.wanted,hgd]
 rw[if_pos hw];exact jue w s x t ho base ht v ys hs hown A m c news hm hx hl hlen hbase h
end
end R1
namespace R1
open Go.RowKit
def jbj(s:Str):List Str->List Str
  | []=>[s]
  | x :: r=>if x=s then x :: r else if s<x then s :: x :: r else x :: jbj s r
theorem jlz{s:Str}:∀ {xs:List Str} {k:Nat},(∀ x∈xs.take k,x<s)->xs[k]?=some s->xs=jbj s xs
  | [],_,_,h=>by simp at h
  | x :: r,0,_,h=>by
    simp at h
    simp[jbj,h]
  | x :: r,k+1,h0,h=>by
    have hx:x<s:=h0 x (by simp)
    have e:=jlz (s:=s) (xs:=r) (k:=k) (fun y hy=>h0 y (by simp[hy])) (by simpa using h)
    rw[jbj,if_neg (jwh hx),if_neg (jxa hx),<- e]
theorem jly{s:Str}:∀ {xs:List Str} {k:Nat} {y:Str},(∀ x∈xs.take k,x<s)->xs[k]?=some y->s<y->xs.take k++[s]++xs.drop k=jbj s xs
  | [],_,_,_,h,_=>by simp at h
  | x :: r,0,y,_,h,hy=>by
    simp at h
    subst h
    have hne:x≠s:=fun e=>jqe s (by rw[e] at hy;exact hy)
    simp[jbj,hy,hne]
  | x :: r,k+1,y,h0,h,hy=>by
    have hx:x<s:=h0 x (by simp)
    have e:=jly (s:=s) (xs:=r) (k:=k) (fun y hy=>h0 y (by simp[hy])) (by simpa using h) hy
    rw[jbj,if_neg (jwh hx),if_neg (jxa hx),<- e]
    simp
theorem jl0{s:Str}:∀ {xs:List Str},(∀ x∈xs,x<s)->xs++[s]=jbj s xs
  | [],_=>rfl
  | x :: r,h0=>by
    have hx:x<s:=h0 x (by simp)
    have e:=jl0 (s:=s) (xs:=r) (fun y hy=>h0 y (by simp[hy]))
    rw[jbj,if_neg (jwh hx),if_neg (jxa hx),<- e]
    simp
theorem lt_snoc{xs:List Str}{s y:Str}{k:Nat}(h:∀ x∈xs.take k,x<s)(hy:xs[k]?=some y)(hlt:y<s):∀ x∈xs.take (k+1),x<s:=by
 obtain⟨hk,he⟩:=List.getElem?_eq_some_iff.1 hy;rw[List.take_succ_eq_append_getElem hk,he];intro a ha;rcases List.mem_append.1 ha with h1 | h1
 ·exact h a h1
 ·rw[List.mem_singleton.1 h1];exact hlt
theorem jqs.take{w:World}{b off:Nat}{xs:List Str}(hb:b<w.heap.size)(h:∀ i x,xs[i]?=some x->w.cell? ⟨b,off+i,none⟩=some (.string (S x)))(k:Nat):jqs w (some ⟨b,off,none⟩) (xs.take k) :=
  .inr ⟨b,off,rfl,hb,fun i x hx=>h i x (by
    rw[List.getElem?_take] at hx
    split at hx
    · exact hx
    · cases hx)⟩
theorem jqs.drop{w:World}{b off:Nat}{xs:List Str}(hb:b<w.heap.size)(h:∀ i x,xs[i]?=some x->w.cell? ⟨b,off+i,none⟩=some (.string (S x)))(k:Nat):jqs w (some ⟨b,off+k,none⟩) (xs.drop k) :=
  .inr ⟨b,off+k,rfl,hb,fun i x hx=>by
    rw[Nat.add_assoc]
    exact h _ x (by rwa [List.getElem?_drop] at hx)⟩
theorem jqs.new(w:World)(s:Str)(t:TypeId):jqs (w.alloc (.cells #[.string (S s)] t)) (some ⟨w.heap.size,0,none⟩) [s] :=
  .inr ⟨_,_,rfl,by simp,fun i x hx=>by
    match i,hx with
    | 0,hx =>
      simp at hx
      subst hx
      simp⟩
def jqv(a b:List Str):List Str:=b.foldl (fun aP x=>jbj x aP) a
theorem jmk(s:Str):∀ xs:List Str,(jbj s xs).length<=xs.length+1
  | []=>by simp[jbj]
  | x :: r=>by
    have:=jmk s r
    unfold jbj
    split
    · simp
    · split
      · simp
      · simp;omega
theorem jrg{a xs:List Str}{k:Nat}{x:Str}(hx:xs[k]?=some x):jqv a (xs.take (k+1))=jbj x (jqv a (xs.take k)):=by
 obtain⟨hk,he⟩:=List.getElem?_eq_some_iff.1 hx;rw[List.take_succ_eq_append_getElem hk,he];simp[jqv,List.foldl_append]
theorem jpa(a:List Str):∀ b:List Str,(jqv a b).length<=a.length+b.length:=by
 intro b;induction b generalizing a with
 | nil=>simp[jqv]
 | cons x r ih=>(
 have h1:=ih (jbj x a);have h2:=jmk x a;unfold jqv at h1 ⊢;simp only[List.foldl_cons,List.length_cons];omega)
theorem jgd:∀ {xs ys:List Str},Srt xs->Srt ys->(∀ x,x∈xs↔x∈ys)->xs=ys
  | [],[],_,_,_=>rfl
  | [],y :: ys,_,_,h=>absurd ((h y).2 (by simp)) (by simp)
  | x :: xs,[],_,_,h=>absurd ((h x).1 (by simp)) (by simp)
  | x :: xs,y :: ys,hx,hy,h=>by
    obtain⟨hx1,hx2⟩:=List.pairwise_cons.1 hx
    obtain⟨hy1,hy2⟩:=List.pairwise_cons.1 hy
    have e:x=y:=by
      rcases List.mem_cons.1 ((h x).1 (by simp)) with h1 | h1
      · exact h1
      · rcases List.mem_cons.1 ((h y).2 (by simp)) with h2 | h2
        · exact h2.symm
        · exact absurd (jjm (hx1 y h2) (hy1 x h1)) (jqe x)
    subst e
    refine congrArg _ (jgd hx2 hy2 fun z=>⟨fun hz=>?_,fun hz=>?_⟩)
    · rcases List.mem_cons.1 ((h z).1 (by simp[hz])) with h1 | h1
      · subst h1;exact absurd (hx1 z hz) (jqe z)
      · exact h1
    · rcases List.mem_cons.1 ((h z).2 (by simp[hz])) with h1 | h1
      · subst h1;exact absurd (hy1 z hz) (jqe z)
      · exact h1
theorem jms{s x:Str}:∀ {xs:List Str},x∈jbj s xs↔x=s\/x∈xs
  | []=>by simp[jbj]
  | y :: r=>by
    unfold jbj
    split
    · rename_i h;subst h;simp
    · split
      · simp
      · rw[List.mem_cons,jms (xs:=r),List.mem_cons]
        constructor
        · rintro (h | h | h)
          · exact .inr (.inl h)
          · exact .inl h
          · exact .inr (.inr h)
        · rintro (h | h | h)
          · exact .inr (.inl h)
          · exact .inl h
          · exact .inr (.inr h)
theorem jlo{s:Str}:∀ {xs:List Str},Srt xs->Srt (jbj s xs)
  | [],_=>by simp[jbj]
  | y :: r,h=>by
    obtain⟨h1,h2⟩:=List.pairwise_cons.1 h
    unfold jbj
    split
    · exact h
    · rename_i hne
      split
      · rename_i hlt
        refine List.pairwise_cons.2 ⟨fun z hz=>?_,h⟩
        rcases List.mem_cons.1 hz with e | e
        · rw[e];exact hlt
        · exact jjm hlt (h1 z e)
      · rename_i hge
        refine List.pairwise_cons.2 ⟨fun z hz=>?_,jlo h2⟩
        rcases jms.1 hz with e | e
        · rw[e]
          rcases jk5 y s with k | k | k
          · exact k
          · exact absurd k hne
          · exact absurd k hge
        · exact h1 z e
theorem jjr{x:Str}:∀ {b a:List Str},x∈jqv a b↔x∈a\/x∈b
  | [],a=>by simp[jqv]
  | y :: r,a=>by
    have:=jjr (x:=x) (b:=r) (a:=jbj y a)
    unfold jqv at this ⊢
    rw[List.foldl_cons,this,jms,List.mem_cons]
    constructor
    · rintro ((h | h) | h)
      · exact .inr (.inl h)
      · exact .inl h
      · exact .inr (.inr h)
    · rintro (h | h | h)
      · exact .inl (.inr h)
      · exact .inl (.inl h)
      · exact .inr h
theorem jvr:∀ {b a:List Str},Srt a->Srt (jqv a b)
  | [],_,h=>by simpa[jqv] using h
  | y :: r,a,h=>by
    have:=jvr (b:=r) (jlo (s:=y) h)
    unfold jqv at this ⊢
    rwa [List.foldl_cons]
def beIn(x:Str)(f:List Str->List (Str×Int)):List Str->List (Str×Int)
  | []=>(x,0) :: f []
  | y :: yr=>if x<y then (x,0) :: f (y :: yr) else if y<x then (y,1) :: beIn x f yr else (x,2) :: f yr
def be:List Str->List Str->List (Str×Int)
  | []=>fun ys=>ys.map fun y=>(y,1)
  | x :: xr=>beIn x (be xr)
theorem jto:be [] []=[]:=rfl
theorem jv6(y:Str)(yr:List Str):be [] (y :: yr)=(y,1) :: be [] yr:=rfl
theorem jpd(x:Str)(xr:List Str):be (x :: xr) []=(x,0) :: be xr []:=rfl
theorem jnr{x y:Str}(xr yr:List Str)(h:x<y):be (x :: xr) (y :: yr)=(x,0) :: be xr (y :: yr):=by
 show beIn x (be xr) (y :: yr)=_
 rw[beIn,if_pos h]
theorem jns{x y:Str}(xr yr:List Str)(h:y<x):be (x :: xr) (y :: yr)=(y,1) :: be (x :: xr) yr:=by
 show beIn x (be xr) (y :: yr)=(y,1) :: beIn x (be xr) yr
 rw[beIn,if_neg (jxa h),if_pos h]
theorem jnt(x:Str)(xr yr:List Str):be (x :: xr) (x :: yr)=(x,2) :: be xr yr:=by
 show beIn x (be xr) (x :: yr)=_
 rw[beIn,if_neg (jqe x),if_neg (jqe x)]
theorem jla{C:List Str->List Str->Prop}(h0:C [] [])(hr:∀ y yr,C [] yr->C [] (y :: yr))(hl:∀ x xr,C xr []->C (x :: xr) [])(hlt:∀ x xr y yr,x<y->C xr (y :: yr)->C (x :: xr) (y :: yr))(hgt:∀ x xr y yr,y<x->C (x :: xr) yr->C (x :: xr) (y :: yr))(heq:∀ x xr yr,C xr yr->C (x :: xr) (x :: yr)):∀ xs ys,C xs ys:=by
 intro xs;induction xs with
 | nil=>(
 intro ys;induction ys with
 | nil=>exact h0
 | cons y yr ih=>exact hr y yr ih)
 | cons x xr ih=>(
 intro ys;induction ys with
 | nil=>exact hl x xr (ih [])
 | cons y yr ih2=>(
 rcases jk5 x y with h | h | h
 ·exact hlt x xr y yr h (ih (y :: yr))
 ·subst h;exact heq x xr yr (ih yr)
 ·exact hgt x xr y yr h ih2))
theorem be_len:∀ xs ys,(be xs ys).length<=xs.length+ys.length:=by
 refine jla ?_ ?_ ?_ ?_ ?_ ?_
 ·simp[jto]
 ·intro y yr h;rw[jv6];simp at h ⊢;omega
 ·intro x xr h;rw[jpd];simp at h ⊢;omega
 ·intro x xr y yr hlt h;rw[jnr _ _ hlt];simp at h ⊢;omega
 ·intro x xr y yr hlt h;rw[jns _ _ hlt];simp at h ⊢;omega
 ·intro x xr yr h;rw[jnt];simp at h ⊢;omega
theorem jfl(z:Str):∀ xs ys,z∈(be xs ys).map (·.1)↔z∈xs\/z∈ys:=by
 refine jla ?_ ?_ ?_ ?_ ?_ ?_
 ·simp[jto]
 ·intro y yr h;rw[jv6,List.map_cons,List.mem_cons,h,List.mem_cons];simp
 ·intro x xr h;rw[jpd,List.map_cons,List.mem_cons,h,List.mem_cons];simp
 ·(
 intro x xr y yr hlt h;rw[jnr _ _ hlt,List.map_cons,List.mem_cons,h,List.mem_cons (l:=xr),or_assoc])
 ·(
 intro x xr y yr hlt h;rw[jns _ _ hlt,List.map_cons,List.mem_cons,h,List.mem_cons (l:=yr)];exact⟨fun k=>k.elim (fun k => .inr (.inl k)) (fun k=>k.elim .inl (fun k => .inr (.inr k))),fun k=>k.elim (fun k => .inr (.inl k)) (fun k=>k.elim .inl (fun k => .inr (.inr k)))⟩)
 ·(
 intro x xr yr h;rw[jnt,List.map_cons,List.mem_cons,h,List.mem_cons,List.mem_cons];exact⟨fun k=>k.elim (fun k => .inl (.inl k)) (fun k=>k.elim (fun k => .inl (.inr k)) (fun k => .inr (.inr k))),fun k=>k.elim (fun k=>k.elim .inl (fun k => .inr (.inl k))) (fun k=>k.elim .inl (fun k => .inr (.inr k)))⟩)
theorem srt_be:∀ xs ys,Srt xs->Srt ys->Srt ((be xs ys).map (·.1)):=by
 refine jla ?_ ?_ ?_ ?_ ?_ ?_
 ·intros;simp[jto]
 ·(
 intro y yr h h1 h2;obtain⟨a,b⟩:=List.pairwise_cons.1 h2;rw[jv6,List.map_cons];refine List.pairwise_cons.2 ⟨fun z hz=>?_,h h1 b⟩;rcases (jfl z _ _).1 hz with k | k
 ·cases k
 ·exact a z k)
 ·(
 intro x xr h h1 h2;obtain⟨a,b⟩:=List.pairwise_cons.1 h1;rw[jpd,List.map_cons];refine List.pairwise_cons.2 ⟨fun z hz=>?_,h b h2⟩;rcases (jfl z _ _).1 hz with k | k
 ·exact a z k
 ·cases k)
 ·(
 intro x xr y yr hlt h h1 h2;obtain⟨a,b⟩:=List.pairwise_cons.1 h1;obtain⟨a2,b2⟩:=List.pairwise_cons.1 h2;rw[jnr _ _ hlt,List.map_cons];refine List.pairwise_cons.2 ⟨fun z hz=>?_,h b h2⟩;rcases (jfl z _ _).1 hz with k | k
 ·exact a z k
 ·(
 rcases List.mem_cons.1 k with e | e
 ·rw[e];exact hlt
 ·exact jjm hlt (a2 z e)))
 ·(
 intro x xr y yr hlt h h1 h2;obtain⟨a,b⟩:=List.pairwise_cons.1 h1;obtain⟨a2,b2⟩:=List.pairwise_cons.1 h2;rw[jns _ _ hlt,List.map_cons];refine List.pairwise_cons.2 ⟨fun z hz=>?_,h h1 b2⟩;rcases (jfl z _ _).1 hz with k | k
 ·(
 rcases List.mem_cons.1 k with e | e
 ·rw[e];exact hlt
 ·exact jjm hlt (a z e))
 ·exact a2 z k)
 ·(
 intro x xr yr h h1 h2;obtain⟨a,b⟩:=List.pairwise_cons.1 h1;obtain⟨a2,b2⟩:=List.pairwise_cons.1 h2;rw[jnt,List.map_cons];refine List.pairwise_cons.2 ⟨fun z hz=>?_,h b b2⟩;rcases (jfl z _ _).1 hz with k | k
 ·exact a z k
 ·exact a2 z k)
theorem be_both{xs ys:List Str}(h1:Srt xs)(h2:Srt ys):(be xs ys).map (·.1)=jqv xs ys :=
  jgd (srt_be xs ys h1 h2) (jvr h1) fun z=>by rw[jfl,jjr]
def jbk(l:List (Str×Int)):List Str:=l.map (·.1)
theorem joz(l:List (Str×Int))(p:Str×Int):jbk (l++[p])=jbk l++[p.1]:=by simp[jbk]
theorem jhv(l:List (Str×Int)):(jbk l).length=l.length:=by simp[jbk]
end R1
end Go.Proofs.YtobggoephhjofaaGreatDoor
