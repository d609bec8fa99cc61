/- A part. No condition. -/
import Derived.Test.YtobggoephhjofaaGreatDoorMk06
import Derived.Lib.SlicesCompact
set_option maxRecDepth 100000
set_option maxHeartbeats 16000000
namespace Go.Proofs.YtobggoephhjofaaGreatDoor
namespace V4
open Go.RowKit
open C3 (Tk Asc isC ofC jxt Nok In jzk jzf jqz RetT)
open S2 (Tr Sc isT)
theorem refIsV_4(A:Option Addr)(c:Nat)(a:Sc)(x:Vl)(w:World)(hs:(Sc.mk 4 A c [a]).In w.heap.size w)(hx:x.In w)(p:Va->Bool)(ih:∀ (y:Vl) (w:World),a.In w.heap.size w->y.In w->Calls Tryz.prog 47 #[a.val,y.val] w (jz6 w (.bool (p y.er)))):Calls Tryz.prog 47 #[(Sc.mk 4 A c [a]).val,x.val] w (jz6 w (.bool (jq5 4 x.er && jhu p (jqv a.er) x.er.v))):=by
 obtain⟨n,m,sA,sc,ss,cA,cc,cs,vA,vc,vs⟩:=x;have HS:=Lh hs;have IH:=Lh ih;clear hs ih;have cE:Hid (Below w.heap.size w ((w.alloc (.cells #[.int .i64 4,.slice A 1 c] 24)).alloc (.cells #[.int .u64 n,.int .u64 m,.slice sA ss.length sc,.slice cA cs.length cc,.slice vA vs.length vc] 30))):=jzk (jzf _ _);have HX:=Lh (hx.later cE.out);have P:=hx.out;have HP:=Lh P;have fE:Hid (ss.length<=maxLen):=leT P.sb.1 P.sb.2.1;have qa:ss.length<=9223372036854775807:=by have:=P.sb;unfold maxLen at this;omega
 have d8:cs.length<=9223372036854775807:=by have:=P.cb;unfold maxLen at this;omega
 have iB:vs.length<=9223372036854775807:=by have:=P.vb;unfold maxLen at this;omega
 obtain⟨t,ht⟩:=exq (jql 4 (Vl.mk n m sA sc ss cA cc cs vA vc vs).er);obtain⟨u,hu⟩:=exq (decide (R1.Srt ss));obtain⟨q,hq⟩:=exq (decide (ss.length<=40));have HF:Hid (jq5 4 (Vl.mk n m sA sc ss cA cc cs vA vc vs).er=(t && (u && q))):=by (
 show jq5 _ _=_
 unfold jq5;rw[ht,jzw,show (Va.mk n m ss (cs.map Ck.l) (vs.map Vl.er)).s=ss from rfl,hu,hq])
 have HT:=Lh ht;have HU:=Lh hu;have HQ:=Lh hq;rw[HF.out];clear hx P ht hu hq HF;simp only[S2.jzh,jzh,List.length_nil,List.length_cons,Nat.zero_add];go_enter Tryz.func47,Tryz.ntmps47;go_wp2_with fail;refine (jxq 4 A c 1 n m sA sc ss cA cc cs vA vc vs t _ HX.out HT.out).mono ?_;rintro e w1 ⟨rfl,af⟩;have au:Hid (jj5 w 4 A 1 c n m sA ss.length sc cA cs.length cc vA vs.length vc w1):=jj5.later ⟨by go_simp,by go_simp,by go_simp,by go_simp,by go_simp,by go_simp,by go_simp,by simp,cE.out⟩ af;clear af cE HX;cases t with
 | false=>(go_wp2_with fail;go_ret;exact⟨rfl,au.out.bel⟩)
 | true=>(
 have c2:=au.out.c2;go_wp2_with fail;refine (jq8 sA sc ss u _ (HP.out.sl.below au.out.bel) fE.out HU.out).mono ?_;rintro e w2 ⟨rfl,ab⟩;replace au:=Lh (au.out.later ab);clear ab c2;cases u with
 | false=>(go_wp2_with fail;go_ret;exact⟨rfl,au.out.bel⟩)
 | true=>(
 have c2:=au.out.c2;have i0:=au.out.i0;cases q with
 | false=>(
 have dq:40<ss.length:=by have:=of_decide_eq_false HQ.out;omega
 go_wp2_with fail;go_ret;exact⟨rfl,au.out.bel⟩)
 | true=>(
 have dq:decide (40<(ss.length:Int))=false:=decide_eq_false (by have:=of_decide_eq_true HQ.out;omega);have i1:=au.out.i1;have c4:=au.out.c4;go_wp2_with fail;go_loopw [5] (fun iv wr=>∃ i:Nat,i<=vs.length/\iv = .int .i64 i/\Hid (((vs.map Vl.er).take i).all (fun y=>p y && !decide (y=jqv a.er))=true)/\Hid (jj5 w 4 A 1 c n m sA ss.length sc cA cs.length cc vA vs.length vc wr)) (fun iv _=>vs.length - (intOf iv).toNat)
 case atStart=>exact⟨0,Nat.zero_le _,rfl,by simp[Hid],au⟩
 case round=>(
 clear au c2 i0 i1 c4;obtain⟨i,hi,rfl,h0,au⟩:=hrel;have c4:=au.out.c4;by_cases hlt:i<vs.length
 ·(
 obtain⟨gl,-,-,bu⟩:=HS.out.out;obtain⟨b,off,rfl,hb,b8⟩:=(gl.below au.out.bel).get (k:=0) (by simp);obtain⟨g0,g1⟩:=b8 0 a rfl;obtain⟨y,hy⟩:∃ y,vs[i]?=some y:=⟨_,List.getElem?_eq_getElem hlt⟩
 obtain⟨b2,off2,rfl,ab,cN,eb,ga,ou,oq⟩:=jqo (HP.out.vl.below au.out.bel) hy;simp only[Nat.zero_mul,Nat.add_zero] at g0 g1;have a8:Hid (Row2 b off a b2 (off2+i*5) y wr.drew):=Row2.later ⟨g0,g1,cN,eb,ga,ou,oq,ltl hb au.out.bel.size,ltl ab au.out.bel.size,((bu a (by simp)).keep au.out.bel).up au.out.bel.size,(HP.out.vk y (List.mem_of_getElem? hy)).later au.out.bel⟩ (jqz wr);have HY:=Lh hy;obtain⟨u1,my⟩:=exq (p y.er);obtain⟨u2,mw⟩:=exq (decide (y.er=jqv a.er));have HPQ:Hid ((fun y=>p y && !decide (y=jqv a.er)) y.er=(u1 && !u2)):=by show (p y.er && !decide (y.er=jqv a.er))=_;rw[my,mw]
 have ma:=Lh my;have pq:=Lh mw;clear gl bu b8 g0 g1 hy cN eb ga ou oq my mw;obtain⟨ak,aA,ac,al⟩:=a;obtain⟨yn,ym,yK,yL,yN,yO,yP,yQ,yR,yS,yT⟩:=y;simp only[S2.jzh] at IH;have hli:(i:Int)<(vs.length:Int):=by omega
 cases u1 with
 | false=>(
 have nH:Hid (jhu p (jqv (Sc.mk ak aA ac al).er) (Vl.mk n m sA sc ss cA cc cs (some ⟨b2,off2,none⟩) vc vs).er.v=false):=by (
 show jhu _ _ _=false
 rw[jzw];exact jk5 (jbh (f:=Vl.er) HY.out) HPQ.out)
 go_wp2_with fail;replace au:=Lh (au.out.later (jqz wr));refine wp_region_noPanic ?_;refine wp_region_held_drew (S:=(fun w'=>w'.cell? ⟨w.heap.size,1,none⟩=some (.slice (some ⟨b,off,none⟩) 1 c)/\w'.cell? ⟨w.heap.size+1,4,none⟩=some (.slice (some ⟨b2,off2,none⟩) vs.length vc)/\w'.cell? ⟨b,off,none⟩=some (.int .i64 ak)/\w'.cell? ⟨b,off+1,none⟩=some (.slice aA al.length ac)/\w'.cell? ⟨b2,off2+i*5,none⟩=some (.int .u64 yn)/\w'.cell? ⟨b2,off2+i*5+1,none⟩=some (.int .u64 ym)/\w'.cell? ⟨b2,off2+i*5+2,none⟩=some (.slice yK yN.length yL)/\w'.cell? ⟨b2,off2+i*5+3,none⟩=some (.slice yO yQ.length yP)/\w'.cell? ⟨b2,off2+i*5+4,none⟩=some (.slice yR yT.length yS))) (by kernel_rfl) ?_ (fun hHeld=>?_)
 ·exact⟨au.out.i1,au.out.c4,a8.out.s0,a8.out.s1,a8.out.y0,a8.out.y1,a8.out.y2,a8.out.y3,a8.out.y4⟩
 refine tkH 0 33 ?_;refine tkH 1 34 ?_;refine tkH 2 35 ?_;refine tkH 3 36 ?_;refine tkH 4 37 ?_;refine tkH 5 38 ?_;refine tkH 6 39 ?_;refine tkH 7 40 ?_;refine tkH 8 41 ?_;refine rdH 9 (fun K hK=>?_);go_simp;go_wp2_with (go_at_call 47;refine (IH.out (.mk yn ym yK yL yN yO yP yQ yR yS yT) _ a8.out.ia a8.out.iy).mono ?_;rintro e w5 ⟨rfl,bh⟩;(rw[ma.out];replace au:=Lh (au.out.later bh);replace a8:=Lh (a8.out.later bh);clear bh))
 refine hK.out _ _ ?_ (fun hHeld=>?_)
 ·exact⟨au.out.i1,au.out.c4,a8.out.s0,a8.out.s1,a8.out.y0,a8.out.y1,a8.out.y2,a8.out.y3,a8.out.y4⟩
 clear hK K;refine tkH 10 43 ?_;refine tkH 11 44 ?_;refine tkU 12 45 ?_;refine tkU 13 46 ?_;refine tkU 14 47 ?_;refine tkU 15 48 ?_;refine tkU 16 49 ?_;refine tkU 17 50 ?_;refine tkU 18 51 ?_;refine tkU 19 52 ?_;refine tkU 20 53 ?_;refine tkU 21 54 ?_;refine tkH 22 55 ?_;refine wpAnyH_done (by kernel_rfl) ?_ _;refine NoPanic.normal ?_;go_wp2_with fail;go_ret;exact⟨jzi (by rw[nH.out];rfl),au.out.bel⟩)
 | true=>(
 cases u2 with
 | true=>(
 have nH:Hid (jhu p (jqv (Sc.mk ak aA ac al).er) (Vl.mk n m sA sc ss cA cc cs (some ⟨b2,off2,none⟩) vc vs).er.v=false):=by (
 show jhu _ _ _=false
 rw[jzw];exact jk5 (jbh (f:=Vl.er) HY.out) HPQ.out)
 go_wp2_with fail;replace au:=Lh (au.out.later (jqz wr));refine wp_region_noPanic ?_;refine wp_region_held_drew (S:=(fun w'=>w'.cell? ⟨w.heap.size,1,none⟩=some (.slice (some ⟨b,off,none⟩) 1 c)/\w'.cell? ⟨w.heap.size+1,4,none⟩=some (.slice (some ⟨b2,off2,none⟩) vs.length vc)/\w'.cell? ⟨b,off,none⟩=some (.int .i64 ak)/\w'.cell? ⟨b,off+1,none⟩=some (.slice aA al.length ac)/\w'.cell? ⟨b2,off2+i*5,none⟩=some (.int .u64 yn)/\w'.cell? ⟨b2,off2+i*5+1,none⟩=some (.int .u64 ym)/\w'.cell? ⟨b2,off2+i*5+2,none⟩=some (.slice yK yN.length yL)/\w'.cell? ⟨b2,off2+i*5+3,none⟩=some (.slice yO yQ.length yP)/\w'.cell? ⟨b2,off2+i*5+4,none⟩=some (.slice yR yT.length yS))) (by kernel_rfl) ?_ (fun hHeld=>?_)
 ·exact⟨au.out.i1,au.out.c4,a8.out.s0,a8.out.s1,a8.out.y0,a8.out.y1,a8.out.y2,a8.out.y3,a8.out.y4⟩
 refine tkH 0 33 ?_;refine tkH 1 34 ?_;refine tkH 2 35 ?_;refine tkH 3 36 ?_;refine tkH 4 37 ?_;refine tkH 5 38 ?_;refine tkH 6 39 ?_;refine tkH 7 40 ?_;refine tkH 8 41 ?_;refine rdH 9 (fun K hK=>?_);go_simp;go_wp2_with (go_at_call 47;refine (IH.out (.mk yn ym yK yL yN yO yP yQ yR yS yT) _ a8.out.ia a8.out.iy).mono ?_;rintro e w5 ⟨rfl,bh⟩;(rw[ma.out];replace au:=Lh (au.out.later bh);replace a8:=Lh (a8.out.later bh);clear bh))
 refine hK.out _ _ ?_ (fun hHeld=>?_)
 ·exact⟨au.out.i1,au.out.c4,a8.out.s0,a8.out.s1,a8.out.y0,a8.out.y1,a8.out.y2,a8.out.y3,a8.out.y4⟩
 clear hK K;refine tkH 10 43 ?_;refine tkH 11 44 ?_;refine tkH 12 45 ?_;refine tkH 13 46 ?_;refine tkH 14 47 ?_;refine tkH 15 48 ?_;refine tkH 16 49 ?_;refine tkH 17 50 ?_;refine tkH 18 51 ?_;refine tkH 19 52 ?_;refine tkH 20 53 ?_;refine rdH 21 (fun K hK=>?_);go_simp;go_wp2_with (go_at_call 19;refine (jgo (.mk ak aA ac al) (.mk yn ym yK yL yN yO yP yQ yR yS yT) _ a8.out.ia a8.out.iy).mono ?_;rintro e w6 ⟨rfl,bh⟩;(rw[pq.out];replace au:=Lh (au.out.later bh);replace a8:=Lh (a8.out.later bh);clear bh))
 refine hK.out _ _ ?_ (fun hHeld=>?_)
 ·exact⟨au.out.i1,au.out.c4,a8.out.s0,a8.out.s1,a8.out.y0,a8.out.y1,a8.out.y2,a8.out.y3,a8.out.y4⟩
 clear hK K;refine tkH 22 55 ?_;refine wpAnyH_done (by kernel_rfl) ?_ _;refine NoPanic.normal ?_;go_wp2_with fail;go_ret;exact⟨jzi (by rw[nH.out];rfl),au.out.bel⟩)
 | false=>(
 go_wp2_with fail;replace au:=Lh (au.out.later (jqz wr));refine wp_region_noPanic ?_;refine wp_region_held_drew (S:=(fun w'=>w'.cell? ⟨w.heap.size,1,none⟩=some (.slice (some ⟨b,off,none⟩) 1 c)/\w'.cell? ⟨w.heap.size+1,4,none⟩=some (.slice (some ⟨b2,off2,none⟩) vs.length vc)/\w'.cell? ⟨b,off,none⟩=some (.int .i64 ak)/\w'.cell? ⟨b,off+1,none⟩=some (.slice aA al.length ac)/\w'.cell? ⟨b2,off2+i*5,none⟩=some (.int .u64 yn)/\w'.cell? ⟨b2,off2+i*5+1,none⟩=some (.int .u64 ym)/\w'.cell? ⟨b2,off2+i*5+2,none⟩=some (.slice yK yN.length yL)/\w'.cell? ⟨b2,off2+i*5+3,none⟩=some (.slice yO yQ.length yP)/\w'.cell? ⟨b2,off2+i*5+4,none⟩=some (.slice yR yT.length yS))) (by kernel_rfl) ?_ (fun hHeld=>?_)
 ·exact⟨au.out.i1,au.out.c4,a8.out.s0,a8.out.s1,a8.out.y0,a8.out.y1,a8.out.y2,a8.out.y3,a8.out.y4⟩
 refine tkH 0 33 ?_;refine tkH 1 34 ?_;refine tkH 2 35 ?_;refine tkH 3 36 ?_;refine tkH 4 37 ?_;refine tkH 5 38 ?_;refine tkH 6 39 ?_;refine tkH 7 40 ?_;refine tkH 8 41 ?_;refine rdH 9 (fun K hK=>?_);go_simp;go_wp2_with (go_at_call 47;refine (IH.out (.mk yn ym yK yL yN yO yP yQ yR yS yT) _ a8.out.ia a8.out.iy).mono ?_;rintro e w5 ⟨rfl,bh⟩;(rw[ma.out];replace au:=Lh (au.out.later bh);replace a8:=Lh (a8.out.later bh);clear bh))
 refine hK.out _ _ ?_ (fun hHeld=>?_)
 ·exact⟨au.out.i1,au.out.c4,a8.out.s0,a8.out.s1,a8.out.y0,a8.out.y1,a8.out.y2,a8.out.y3,a8.out.y4⟩
 clear hK K;refine tkH 10 43 ?_;refine tkH 11 44 ?_;refine tkH 12 45 ?_;refine tkH 13 46 ?_;refine tkH 14 47 ?_;refine tkH 15 48 ?_;refine tkH 16 49 ?_;refine tkH 17 50 ?_;refine tkH 18 51 ?_;refine tkH 19 52 ?_;refine tkH 20 53 ?_;refine rdH 21 (fun K hK=>?_);go_simp;go_wp2_with (go_at_call 19;refine (jgo (.mk ak aA ac al) (.mk yn ym yK yL yN yO yP yQ yR yS yT) _ a8.out.ia a8.out.iy).mono ?_;rintro e w6 ⟨rfl,bh⟩;(rw[pq.out];replace au:=Lh (au.out.later bh);replace a8:=Lh (a8.out.later bh);clear bh))
 refine hK.out _ _ ?_ (fun hHeld=>?_)
 ·exact⟨au.out.i1,au.out.c4,a8.out.s0,a8.out.s1,a8.out.y0,a8.out.y1,a8.out.y2,a8.out.y3,a8.out.y4⟩
 clear hK K;refine tkH 22 55 ?_;refine wpAnyH_done (by kernel_rfl) ?_ _;refine NoPanic.normal ?_;go_wp2_with fail;go_roundw
 case rel=>exact⟨i+1,by omega,by go_num,jyf h0.out (jbh (f:=Vl.er) HY.out) HPQ.out,au⟩
 case measure=>simp[intOf];omega)))
 ·(
 have nH:Hid (jhu p (jqv a.er) (Vl.mk n m sA sc ss cA cc cs vA vc vs).er.v=true):=by (
 show jhu _ _ _=true
 rw[jzw];exact jug h0.out (by show (List.map Vl.er vs).length<=i;rw[List.length_map];omega))
 go_wp2_with fail;go_ret;exact⟨jzi (by rw[nH.out];rfl),au.out.bel⟩)))))
theorem refIsV_5(A:Option Addr)(c:Nat)(a a':Sc)(x:Vl)(w:World)(hs:(Sc.mk 5 A c [a,a']).In w.heap.size w)(hx:x.In w)(p p':Va->Bool)(ih:∀ (y:Vl) (w:World),a.In w.heap.size w->y.In w->Calls Tryz.prog 47 #[a.val,y.val] w (jz6 w (.bool (p y.er))))(ih2:∀ (y:Vl) (w:World),a'.In w.heap.size w->y.In w->Calls Tryz.prog 47 #[a'.val,y.val] w (jz6 w (.bool (p' y.er)))):Calls Tryz.prog 47 #[(Sc.mk 5 A c [a,a']).val,x.val] w (jz6 w (.bool (jq5 5 x.er && jgt p p' x.er.v))):=by
 obtain⟨n,m,sA,sc,ss,cA,cc,cs,vA,vc,vs⟩:=x;have HS:=Lh hs;have IH:=Lh ih;have IH2:=Lh ih2;clear hs ih ih2;have cE:Hid (Below w.heap.size w ((w.alloc (.cells #[.int .i64 5,.slice A 2 c] 24)).alloc (.cells #[.int .u64 n,.int .u64 m,.slice sA ss.length sc,.slice cA cs.length cc,.slice vA vs.length vc] 30))):=jzk (jzf _ _);have HX:=Lh (hx.later cE.out);have P:=hx.out;have HP:=Lh P;have fE:Hid (ss.length<=maxLen):=leT P.sb.1 P.sb.2.1;have qa:ss.length<=9223372036854775807:=by have:=P.sb;unfold maxLen at this;omega
 have d8:cs.length<=9223372036854775807:=by have:=P.cb;unfold maxLen at this;omega
 have iB:vs.length<=9223372036854775807:=by have:=P.vb;unfold maxLen at this;omega
 obtain⟨t,ht⟩:=exq (jql 5 (Vl.mk n m sA sc ss cA cc cs vA vc vs).er);obtain⟨u,hu⟩:=exq (decide (R1.Srt ss));obtain⟨q,hq⟩:=exq (decide (ss.length<=40));have HF:Hid (jq5 5 (Vl.mk n m sA sc ss cA cc cs vA vc vs).er=(t && (u && q))):=by (
 show jq5 _ _=_
 unfold jq5;rw[ht,jzw,show (Va.mk n m ss (cs.map Ck.l) (vs.map Vl.er)).s=ss from rfl,hu,hq])
 have HT:=Lh ht;have HU:=Lh hu;have HQ:=Lh hq;rw[HF.out];clear hx P ht hu hq HF;simp only[S2.jzh,jzh,List.length_nil,List.length_cons,Nat.zero_add,Nat.reduceAdd];go_enter Tryz.func47,Tryz.ntmps47;go_wp2_with fail;refine (jxq 5 A c 2 n m sA sc ss cA cc cs vA vc vs t _ HX.out HT.out).mono ?_;rintro e w1 ⟨rfl,af⟩;have au:Hid (jj5 w 5 A 2 c n m sA ss.length sc cA cs.length cc vA vs.length vc w1):=jj5.later ⟨by go_simp,by go_simp,by go_simp,by go_simp,by go_simp,by go_simp,by go_simp,by simp,cE.out⟩ af;clear af cE HX;cases t with
 | false=>(go_wp2_with fail;go_ret;exact⟨rfl,au.out.bel⟩)
 | true=>(
 have c2:=au.out.c2;go_wp2_with fail;refine (jq8 sA sc ss u _ (HP.out.sl.below au.out.bel) fE.out HU.out).mono ?_;rintro e w2 ⟨rfl,ab⟩;replace au:=Lh (au.out.later ab);clear ab c2;cases u with
 | false=>(go_wp2_with fail;go_ret;exact⟨rfl,au.out.bel⟩)
 | true=>(
 have c2:=au.out.c2;have i0:=au.out.i0;cases q with
 | false=>(
 have dq:40<ss.length:=by have:=of_decide_eq_false HQ.out;omega
 go_wp2_with fail;go_ret;exact⟨rfl,au.out.bel⟩)
 | true=>(
 have dq:decide (40<(ss.length:Int))=false:=decide_eq_false (by have:=of_decide_eq_true HQ.out;omega);have eU:vs.length=2:=by (have h:=HT.out;rw[jzw,jtq,Bool.and_eq_true] at h;have:=of_decide_eq_true h.2;rwa [List.length_map] at this)
 obtain⟨y,z,rfl⟩:=jx7 eU;obtain⟨gl,-,-,bu⟩:=HS.out.out;obtain⟨b,off,rfl,hb,b8⟩:=(gl.below au.out.bel).get (k:=0) (by simp);obtain⟨g0,g1⟩:=b8 0 a rfl;obtain⟨g2,g3⟩:=b8 1 a' rfl;obtain⟨b2,off2,rfl,ab,cN,eb,ga,ou,oq⟩:=jqo (HP.out.vl.below au.out.bel) (k:=0) (x:=y) rfl;obtain⟨b3,off3,qi,bj,eZ,ek,db,hz3,hz4⟩:=jqo (HP.out.vl.below au.out.bel) (k:=1) (x:=z) rfl;obtain⟨rfl,rfl⟩:b2=b3/\off2=off3:=by cases qi;exact⟨rfl,rfl⟩
 simp only[Nat.zero_mul,Nat.add_zero,Nat.one_mul] at g0 g1 g2 g3 cN eb ga ou oq eZ ek db hz3 hz4;have l1:b<w2.heap.size:=ltl hb au.out.bel.size;have l2:b2<w2.heap.size:=ltl ab au.out.bel.size;have a8:Hid (Row2 b off a b2 off2 y w2.drew):=Row2.later ⟨g0,g1,cN,eb,ga,ou,oq,l1,l2,((bu a (by simp)).keep au.out.bel).up au.out.bel.size,(HP.out.vk y (by simp)).later au.out.bel⟩ (jqz w2);have d5:Hid (Row2 b (off+2) a' b2 (off2+5) z w2.drew):=Row2.later ⟨g2,g3,eZ,ek,db,hz3,hz4,l1,l2,((bu a' (by simp)).keep au.out.bel).up au.out.bel.size,(HP.out.vk z (by simp)).later au.out.bel⟩ (jqz w2);obtain⟨u1,my⟩:=exq (p y.er);obtain⟨u2,mw⟩:=exq (p' z.er);have nH:Hid (jgt p p' (Vl.mk n m sA sc ss cA cc cs (some ⟨b2,off2,none⟩) vc [y,z]).er.v=(u1 && u2)):=by (
 show jgt _ _ _=_
 rw[jzw,<- my,<- mw];rfl)
 have ma:=Lh my;have pq:=Lh mw;clear gl bu b8 g0 g1 g2 g3 qi cN eb ga ou oq eZ ek db hz3 hz4 my mw eU iB HP HT l1 l2 HS;obtain⟨ak,aA,ac,al⟩:=a;obtain⟨dk,dA,dc,dl⟩:=a';obtain⟨yn,ym,yK,yL,yN,yO,yP,yQ,yR,yS,yT⟩:=y;obtain⟨zn,zm,zK,zL,zM,zN,zO,zP,zQ,zR,zS⟩:=z;simp only[S2.jzh] at IH IH2;cases u1 with
 | false=>(
 go_wp2_with fail;replace au:=Lh (au.out.later (jqz w2));refine wp_region_noPanic ?_;refine wp_region_held_drew (S:=(fun w'=>w'.cell? ⟨w.heap.size,1,none⟩=some (.slice (some ⟨b,off,none⟩) 2 c)/\w'.cell? ⟨w.heap.size+1,4,none⟩=some (.slice (some ⟨b2,off2,none⟩) 2 vc)/\w'.cell? ⟨b,off,none⟩=some (.int .i64 ak)/\w'.cell? ⟨b,off+1,none⟩=some (.slice aA al.length ac)/\w'.cell? ⟨b2,off2,none⟩=some (.int .u64 yn)/\w'.cell? ⟨b2,off2+1,none⟩=some (.int .u64 ym)/\w'.cell? ⟨b2,off2+2,none⟩=some (.slice yK yN.length yL)/\w'.cell? ⟨b2,off2+3,none⟩=some (.slice yO yQ.length yP)/\w'.cell? ⟨b2,off2+4,none⟩=some (.slice yR yT.length yS)/\w'.cell? ⟨b,off+2,none⟩=some (.int .i64 dk)/\w'.cell? ⟨b,off+2+1,none⟩=some (.slice dA dl.length dc)/\w'.cell? ⟨b2,off2+5,none⟩=some (.int .u64 zn)/\w'.cell? ⟨b2,off2+5+1,none⟩=some (.int .u64 zm)/\w'.cell? ⟨b2,off2+5+2,none⟩=some (.slice zK zM.length zL)/\w'.cell? ⟨b2,off2+5+3,none⟩=some (.slice zN zP.length zO)/\w'.cell? ⟨b2,off2+5+4,none⟩=some (.slice zQ zS.length zR))) (by kernel_rfl) ?_ (fun hHeld=>?_)
 ·exact⟨au.out.i1,au.out.c4,a8.out.s0,a8.out.s1,a8.out.y0,a8.out.y1,a8.out.y2,a8.out.y3,a8.out.y4,d5.out.s0,d5.out.s1,d5.out.y0,d5.out.y1,d5.out.y2,d5.out.y3,d5.out.y4⟩
 refine tkH 0 58 ?_;refine tkH 1 59 ?_;refine tkH 2 60 ?_;refine tkH 3 61 ?_;refine tkH 4 62 ?_;refine tkH 5 63 ?_;refine tkH 6 64 ?_;refine tkH 7 65 ?_;refine rdH 8 (fun K hK=>?_);go_simp;go_wp2_with (go_at_call 47;refine (IH.out (.mk yn ym yK yL yN yO yP yQ yR yS yT) _ a8.out.ia a8.out.iy).mono ?_;rintro e w5 ⟨rfl,bh⟩;(rw[ma.out];replace au:=Lh (au.out.later bh);replace a8:=Lh (a8.out.later bh);replace d5:=Lh (d5.out.later bh);clear bh))
 refine hK.out _ _ ?_ (fun hHeld=>?_)
 ·exact⟨au.out.i1,au.out.c4,a8.out.s0,a8.out.s1,a8.out.y0,a8.out.y1,a8.out.y2,a8.out.y3,a8.out.y4,d5.out.s0,d5.out.s1,d5.out.y0,d5.out.y1,d5.out.y2,d5.out.y3,d5.out.y4⟩
 clear hK K;refine tkH 9 67 ?_;refine tkU 10 68 ?_;refine tkU 11 69 ?_;refine tkU 12 70 ?_;refine tkU 13 71 ?_;refine tkU 14 72 ?_;refine tkU 15 73 ?_;refine tkU 16 74 ?_;refine tkU 17 75 ?_;refine tkU 18 76 ?_;refine tkH 19 77 ?_;refine tkH 20 4 ?_;refine wpAnyH_done (by kernel_rfl) ?_ _;refine NoPanic.normal ?_;go_wp2_with fail;go_ret;exact⟨jzi (by rw[nH.out];rfl),au.out.bel⟩)
 | true=>(
 go_wp2_with fail;replace au:=Lh (au.out.later (jqz w2));refine wp_region_noPanic ?_;refine wp_region_held_drew (S:=(fun w'=>w'.cell? ⟨w.heap.size,1,none⟩=some (.slice (some ⟨b,off,none⟩) 2 c)/\w'.cell? ⟨w.heap.size+1,4,none⟩=some (.slice (some ⟨b2,off2,none⟩) 2 vc)/\w'.cell? ⟨b,off,none⟩=some (.int .i64 ak)/\w'.cell? ⟨b,off+1,none⟩=some (.slice aA al.length ac)/\w'.cell? ⟨b2,off2,none⟩=some (.int .u64 yn)/\w'.cell? ⟨b2,off2+1,none⟩=some (.int .u64 ym)/\w'.cell? ⟨b2,off2+2,none⟩=some (.slice yK yN.length yL)/\w'.cell? ⟨b2,off2+3,none⟩=some (.slice yO yQ.length yP)/\w'.cell? ⟨b2,off2+4,none⟩=some (.slice yR yT.length yS)/\w'.cell? ⟨b,off+2,none⟩=some (.int .i64 dk)/\w'.cell? ⟨b,off+2+1,none⟩=some (.slice dA dl.length dc)/\w'.cell? ⟨b2,off2+5,none⟩=some (.int .u64 zn)/\w'.cell? ⟨b2,off2+5+1,none⟩=some (.int .u64 zm)/\w'.cell? ⟨b2,off2+5+2,none⟩=some (.slice zK zM.length zL)/\w'.cell? ⟨b2,off2+5+3,none⟩=some (.slice zN zP.length zO)/\w'.cell? ⟨b2,off2+5+4,none⟩=some (.slice zQ zS.length zR))) (by kernel_rfl) ?_ (fun hHeld=>?_)
 ·exact⟨au.out.i1,au.out.c4,a8.out.s0,a8.out.s1,a8.out.y0,a8.out.y1,a8.out.y2,a8.out.y3,a8.out.y4,d5.out.s0,d5.out.s1,d5.out.y0,d5.out.y1,d5.out.y2,d5.out.y3,d5.out.y4⟩
 refine tkH 0 58 ?_;refine tkH 1 59 ?_;refine tkH 2 60 ?_;refine tkH 3 61 ?_;refine tkH 4 62 ?_;refine tkH 5 63 ?_;refine tkH 6 64 ?_;refine tkH 7 65 ?_;refine rdH 8 (fun K hK=>?_);go_simp;go_wp2_with (go_at_call 47;refine (IH.out (.mk yn ym yK yL yN yO yP yQ yR yS yT) _ a8.out.ia a8.out.iy).mono ?_;rintro e w5 ⟨rfl,bh⟩;(rw[ma.out];replace au:=Lh (au.out.later bh);replace a8:=Lh (a8.out.later bh);replace d5:=Lh (d5.out.later bh);clear bh))
 refine hK.out _ _ ?_ (fun hHeld=>?_)
 ·exact⟨au.out.i1,au.out.c4,a8.out.s0,a8.out.s1,a8.out.y0,a8.out.y1,a8.out.y2,a8.out.y3,a8.out.y4,d5.out.s0,d5.out.s1,d5.out.y0,d5.out.y1,d5.out.y2,d5.out.y3,d5.out.y4⟩
 clear hK K;refine tkH 9 67 ?_;refine tkH 10 68 ?_;refine tkH 11 69 ?_;refine tkH 12 70 ?_;refine tkH 13 71 ?_;refine tkH 14 72 ?_;refine tkH 15 73 ?_;refine tkH 16 74 ?_;refine tkH 17 75 ?_;refine rdH 18 (fun K hK=>?_);go_simp;go_wp2_with (go_at_call 47;refine (IH2.out (.mk zn zm zK zL zM zN zO zP zQ zR zS) _ d5.out.ia d5.out.iy).mono ?_;rintro e w6 ⟨rfl,bh⟩;(rw[pq.out];replace au:=Lh (au.out.later bh);replace a8:=Lh (a8.out.later bh);replace d5:=Lh (d5.out.later bh);clear bh))
 refine hK.out _ _ ?_ (fun hHeld=>?_)
 ·exact⟨au.out.i1,au.out.c4,a8.out.s0,a8.out.s1,a8.out.y0,a8.out.y1,a8.out.y2,a8.out.y3,a8.out.y4,d5.out.s0,d5.out.s1,d5.out.y0,d5.out.y1,d5.out.y2,d5.out.y3,d5.out.y4⟩
 clear hK K;refine tkH 19 77 ?_;refine tkH 20 4 ?_;refine wpAnyH_done (by kernel_rfl) ?_ _;refine NoPanic.normal ?_;go_wp2_with fail;go_ret;exact⟨jzi (by rw[nH.out];rfl),au.out.bel⟩))))
theorem jkt{n:Nat}{k:Int}{l:List Tr}(h:isT (n+1) (.mk k l)=true):∀ t∈l,isT n t=true:=by
 rw[isT,Bool.and_eq_true] at h;exact fun t ht=>List.all_eq_true.1 h.2 t ht
theorem joq:∀ (s:Sc) (n:Nat),isT n s.er=true->∀ (x:Vl) (w:World),s.In w.heap.size w->x.In w->Calls Tryz.prog 47 #[s.val,x.val] w (jz6 w (.bool (isV s.er x.er))):=by
 intro s;induction s using S2.Sc.ind with
 | h k A c l ih=>(
 intro n hn x w hs hx;have aq:=jm3 (n:=n) (k:=k) (l:=l.map Sc.er) (by rw[<- S2.jzw k A c];exact hn);rw[List.length_map] at aq;have se:∀ a∈l,∃ m,isT m a.er=true:=by (
 intro a ha;cases n with
 | zero=>simp[isT] at hn
 | succ n=>(rw[S2.jzw] at hn;exact⟨n,jkt hn _ (List.mem_map.2 ⟨a,ha,rfl⟩)⟩))
 rw[S2.jzw];by_cases h0:k=1\/k=2\/k=3\/k=6\/k=7
 ·(
 have hl:l=[]:=by (apply List.eq_nil_of_length_eq_zero;unfold S2.arI at aq;rw[if_pos h0] at aq;omega)
 subst hl;rw[List.map_nil,isV];rcases h0 with rfl | rfl | rfl | rfl | rfl
 ·rw[if_neg (by decide)];exact refIsV_1 A c x w hx
 ·rw[if_neg (by decide)];exact refIsV_2 A c x w hx
 ·rw[if_neg (by decide)];exact refIsV_3 A c x w hx
 ·rw[if_neg (by decide)];exact refIsV_6 A c x w hx
 ·rw[if_pos rfl];exact refIsV_7 A c x w hx)
 ·(
 by_cases h1:k=4\/k=8
 ·(
 have hl:l.length=1:=by (unfold S2.arI at aq;rw[if_neg h0,if_pos h1] at aq;omega)
 obtain⟨a,rfl⟩:=List.length_eq_one_iff.1 hl;obtain⟨m,hm⟩:=se a (by simp);have iha:=ih a (by simp) m hm;rw[List.map_cons,List.map_nil,isV];rcases h1 with rfl | rfl
 ·rw[if_pos rfl];exact refIsV_4 A c a x w hs hx (isV a.er) fun y w h1 h2=>iha y w h1 h2
 ·rw[if_neg (by decide)];exact refIsV_8 A c a x w hs hx (isV a.er) fun y w h1 h2=>iha y w h1 h2)
 ·(
 by_cases h2:k=5
 ·(
 subst h2;have hl:l.length=2:=by (unfold S2.arI at aq;rw[if_neg h0,if_neg h1,if_pos rfl] at aq;omega)
 obtain⟨a,a',rfl⟩:=jx7 hl;obtain⟨m,hm⟩:=se a (by simp);obtain⟨m',j7⟩:=se a' (by simp);rw[List.map_cons,List.map_cons,List.map_nil,isV];exact refIsV_5 A c a a' x w hs hx (isV a.er) (isV a'.er) (fun y w h1 h2=>ih a (by simp) m hm y w h1 h2) (fun y w h1 h2=>ih a' (by simp) m' j7 y w h1 h2))
 ·(unfold S2.arI at aq;rw[if_neg h0,if_neg h1,if_neg h2] at aq;omega))))
theorem jfn(s:Sc)(x:Vl)(w:World)(hs:s.In w.heap.size w)(hx:x.In w):Calls Tryz.prog 22 #[s.val,x.val] w (jz6 w (.bool (isT 16 s.er && isV s.er x.er))):=by
 obtain⟨k,A,c,l⟩:=s;obtain⟨n,m,sA,sc,ss,cA,cc,cs,vA,vc,vs⟩:=x;have cE:Hid (Below w.heap.size w ((w.alloc (.cells #[.int .i64 k,.slice A l.length c] 24)).alloc (.cells #[.int .u64 n,.int .u64 m,.slice sA ss.length sc,.slice cA cs.length cc,.slice vA vs.length vc] 30))):=jzk (jzf _ _);have HS:=Lh hs;have HX:=Lh hx;obtain⟨t,ht⟩:=exq (isT 16 (Sc.mk k A c l).er);have HT:=Lh ht;rw[ht];clear hs hx ht;simp only[S2.jzh,jzh];go_enter Tryz.func22,Tryz.ntmps22;go_wp2_with fail;refine (jcd k A c l t _ (HS.out.later cE.out) HT.out).mono ?_;rintro e w1 ⟨rfl,af⟩;have au:Hid (jj5 w k A l.length c n m sA ss.length sc cA cs.length cc vA vs.length vc w1):=jj5.later ⟨by go_simp,by go_simp,by go_simp,by go_simp,by go_simp,by go_simp,by go_simp,by simp,cE.out⟩ af;clear af cE;cases t with
 | false=>(go_wp2_with fail;go_ret;exact⟨rfl,au.out.bel⟩)
 | true=>(have HI:=Lh (joq (.mk k A c l) 16 HT.out (.mk n m sA sc ss cA cc cs vA vc vs) w1 ((HS.out.keep au.out.bel).up au.out.bel.size) (HX.out.later au.out.bel));simp only[S2.jzh,jzh] at HI;have i0:=au.out.i0;have i1:=au.out.i1;have c0:=au.out.c0;have c1:=au.out.c1;have c2:=au.out.c2;have c3:=au.out.c3;have c4:=au.out.c4;go_wp2_with fail;refine HI.out.mono ?_;rintro e w2 ⟨rfl,ab⟩;have ar:=(au.out.later ab).bel;clear ab;generalize isV (Sc.mk k A c l).er (Vl.mk n m sA sc ss cA cc cs vA vc vs).er=z at *;go_wp2_with fail;go_ret;exact⟨rfl,ar⟩)
end V4
namespace R1
open Go.RowKit
def cellsOf(ys:List Str):List Value:=ys.map fun x=>Value.string (S x)
theorem jlh{ys:List Str}{j:Nat}{u:Value}(h:(cellsOf ys)[j]?=some u):∃ x,ys[j]?=some x/\u = .string (S x):=by
 unfold cellsOf at h;rw[List.getElem?_map] at h;cases hx:ys[j]? with
 | none=>rw[hx] at h;cases h
 | some x=>rw[hx] at h;exact⟨x,rfl,by simpa using h.symm⟩
theorem jf4{ys:List Str}{j:Nat}{x:Str}(h:ys[j]?=some x):(cellsOf ys)[j]?=some (.string (S x)):=by
 unfold cellsOf;rw[List.getElem?_map,h];rfl
theorem jlf{ys:List Str}:∀ u∈cellsOf ys,u.oneCell'=true:=by
 intro u hu;obtain⟨x,_,rfl⟩:=List.mem_map.1 hu;rfl
theorem jlg(ys:List Str):(cellsOf ys).length=ys.length:=by simp[cellsOf]
theorem jvc(xs ys:List Str):cellsOf (xs++ys)=cellsOf xs++cellsOf ys:=by simp[cellsOf]
def Own(w:World)(base:Nat)(v:Value)(ys:List Str):Prop:=w.ownsRow base 9 1 v ys.length (cellsOf ys)
theorem Own.nil(w:World)(base:Nat):Own w base (.slice none 0 0) []:=World.ownsRow_nil w base _ _
theorem Own.form{w:World}{base:Nat}{v:Value}{ys:List Str}(h:Own w base v ys):∃ A c,v = .slice A ys.length c/\ys.length<=c/\c<=maxLen/\jqr w A ys:=by
 rcases h.2 with ⟨rfl,h0⟩ | ⟨g,cap,cur,rfl,hb,hg,j0,d8,fq,ht⟩
 ·(have:ys=[]:=List.eq_nil_of_length_eq_zero h0;subst this;exact⟨none,0,rfl,Nat.le_refl _,Nat.zero_le _,.inl rfl⟩)
 ·(
 refine⟨_,cap,rfl,j0,d8,.inr ⟨g,0,rfl,?_,fun i x hx=>?_⟩⟩
 ·(
 rcases Nat.lt_or_ge g w.heap.size with hlt | hge
 ·exact hlt
 ·rw[Array.getElem?_eq_none hge] at hg;cases hg)
 ·(have:=World.ownsRow.cells h (g:=g) rfl i _ (jf4 hx);rwa [Addr.add_lit] at this))
theorem Own.lt{w:World}{base:Nat}{v:Value}{ys:List Str}(h:Own w base v ys){k:Nat}(hk:v.ownBlock=some k):base<=k/\k<w.heap.size:=World.ownsRow.lt h k hk
theorem Own.alloc{w:World}{base:Nat}{v:Value}{ys:List Str}(h:Own w base v ys)(o:Obj):Own (w.alloc o) base v ys:=World.ownsRow.alloc h o
theorem jqr.grown{w w':World}{A:Option Addr}{xs:List Str}{row:Option Nat}(h:jqr w A xs)(hg:w.grownBy w' row)(hne:∀ a,A=some a->some a.block≠row):jqr w' A xs:=by
 rcases h with h | ⟨b,off,rfl,hb,h⟩
 ·exact .inl h
 ·exact .inr ⟨b,off,rfl,ltl hb hg.size,fun i x hx=>hg.cell (h i x hx) (hne ⟨b,off,none⟩ rfl)⟩
theorem own_snoc{w:World}{base:Nat}{v:Value}{ys:List Str}{x:Str}(h:w.ownsRow base 9 1 v (ys.length+1) (cellsOf ys++[.string (S x)])):Own w base v (ys++[x]):=by
 unfold Own;rw[jvc,List.length_append];exact h
theorem Tryz.infoStr:(Tryz.prog.info? 9).map (fun i=>(i.zero,i.size,i.bytes))=some (some (.string { data:=#[] }),1,16):=by kernel_rfl
section
variable (w:World)
theorem jvh(base:Nat)(t ty:TypeId)(ht:Tryz.prog.underlying t=some (.slice 9))(v:Value)(ys:List Str)(aj:Own w base v ys)(c:Nat):(Builtin.append_ #[t,t] ty #[v,.slice none 0 c]).run Tryz.prog w = .ok v w:=by
 obtain⟨i0,hi,eZ,ek,db⟩:=info_parts Tryz.infoStr;rcases aj.2 with ⟨rfl,_⟩ | ⟨g,cap,cur,rfl,_,_,j0,_⟩
 ·simp[Builtin.append_,run_underlying ht,sizeOf,typeInfo,hi,Builtin.lenOf,Builtin.firstCells]
 ·simp[Builtin.append_,run_underlying ht,sizeOf,typeInfo,hi,Builtin.lenOf,Builtin.firstCells,j0,storeCells]
theorem jdl(base:Nat)(t ty:TypeId)(ht:Tryz.prog.underlying t=some (.slice 9))(v:Value)(ys:List Str)(aj:Own w base v ys)(A:Option Addr)(c:Nat)(news:List Str)(hl:jqr w A news)(aq:ys.length+news.length<=1000000)(b6:base<=w.heap.size):∃ v' w',(Builtin.append_ #[t,t] ty #[v,.slice A news.length c]).run Tryz.prog w = .ok v' w'/\Own w' base v' (ys++news)/\w.grownBy w' v.ownBlock/\(v'.ownBlock=v.ownBlock\/v'.ownBlock=some w.heap.size):=by
 obtain⟨i0,hi,eZ,ek,db⟩:=info_parts Tryz.infoStr;cases A with
 | none=>(
 have hn:news=[]:=by (
 rcases hl with h | ⟨b,off,h,_⟩
 ·exact h
 ·cases h)
 subst hn;exact⟨v,w,jvh w base t ty ht v ys aj c,by simpa using aj,World.grownBy.refl w _,.inl rfl⟩)
 | some a=>(
 have gn:∀ j u,(cellsOf news)[j]?=some u->w.cell? (a.add j)=some u:=by (
 intro j u hu;obtain⟨x,hx,rfl⟩:=jlh hu;rcases hl with h | ⟨b,off,h,_,hc⟩
 ·subst h;simp at hx
 ·(
 cases h
 rw[Addr.add_lit];exact hc j x hx))
 obtain⟨v',w',hr,h2,h3,_,h5⟩:=run_append_own_at (P:=Tryz.prog) w base t ty 9 i0 _ 1 16 ht hi eZ ek db rfl (by omega) v ys.length (cellsOf ys) aj a news.length c (cellsOf news)
   (by rw[jlg];omega) gn jlf (by unfold maxLen;omega) (by omega) b6
 refine⟨v',w',hr,?_,h3,h5⟩;unfold Own;rw[jvc,List.length_append];exact h2)
variable {o:Oper} {a:Act} {K:Act->World->Prop} {Q:Exit->Act->World->Prop}
theorem jui(s x:Operand)(t:TypeId)(ho:o.op = .call { callee := .builtin .append,args:=#[s,x],argTypes:=#[t,t] })(base:Nat)(ht:Tryz.prog.underlying t=some (.slice 9))(v:Value)(ys:List Str)(hs:a.eval s=v)(aj:Own w base v ys)(A:Option Addr)(m c:Nat)(news:List Str)(hm:news.length=m)(hx:a.eval x = .slice A m c)(hl:jqr w A news)(aq:ys.length+news.length<=1000000)(b6:base<=w.heap.size)(h:∀ v' w',Own w' base v' (ys++news)->w.grownBy w' v.ownBlock->(v'.ownBlock=v.ownBlock\/v'.ownBlock=some w.heap.size)->K (a.put o.dst v') w'):o.wp Tryz.prog a w K Q:=by
 subst hm;obtain⟨v',w',hr,h2,h3,h4⟩:=jdl w base t o.type ht v ys aj A c news hl aq b6;unfold Oper.wp execOp;simp only[ho,resolve,invoke,builtin,Sem.run_bind,Sem.run_pure,Result.andThen_ok,List.map_toArray,List.map_cons,List.map_nil,hs,hx,hr];exact h v' w' h2 h3 h4
theorem jqe{ops:Array Oper}{rest:List Oper}(jS:o.guard=none)(s x:Operand)(t:TypeId)(ho:o.op = .call { callee := .builtin .append,args:=#[s,x],argTypes:=#[t,t] })
    (base:Nat) (ht:Tryz.prog.underlying t=some (.slice 9)) (v:Value) (ys:List Str) (hs:a.eval s=v) (aj:Own w base v ys)
    (A:Option Addr) (m c:Nat) (news:List Str) (hm:news.length=m) (hx:a.eval x = .slice A m c) (hl:jqr w A news) (aq:ys.length+news.length<=1000000) (b6:base<=w.heap.size)
    (h:∀ v' w',Own w' base v' (ys++news)->w.grownBy w' v.ownBlock->(v'.ownBlock=v.ownBlock\/v'.ownBlock=some w.heap.size)->wpList Tryz.prog ops Q rest (a.put o.dst v') w'):wpList Tryz.prog ops Q (o :: rest) a w :=
  wpList_plain jS fun _ hK=>jui w s x t ho base ht v ys hs aj A m c news hm hx hl aq b6 fun v' w' h2 h3 h4=>hK _ _ (h v' w' h2 h3 h4)
theorem jj8{ops:Array Oper}{E:Prop}(jS:o.guard=none)(s x:Operand)(t:TypeId)(ho:o.op = .call { callee := .builtin .append,args:=#[s,x],argTypes:=#[t,t] })(base:Nat)(ht:Tryz.prog.underlying t=some (.slice 9))(v:Value)(ys:List Str)(hs:a.eval s=v)(aj:Own w base v ys)(A:Option Addr)(m c:Nat)(news:List Str)(hm:news.length=m)(hx:a.eval x = .slice A m c)(hl:jqr w A news)(aq:ys.length+news.length<=1000000)(b6:base<=w.heap.size)(h:∀ v' w',Own w' base v' (ys++news)->w.grownBy w' v.ownBlock->(v'.ownBlock=v.ownBlock\/v'.ownBlock=some w.heap.size)->K (a.put o.dst v') w'):if Region.wanted o (yielded ops a.tmps)=true then Oper.wp Tryz.prog o a w K Q else E:=by
 have hw:Region.wanted o (yielded ops a.tmps)=true:=by simp[Region.wanted,jS]
 rw[if_pos hw];exact jui w s x t ho base ht v ys hs aj A m c news hm hx hl aq b6 h
end
end R1
namespace R1
open Go.RowKit
def jbm(s:Str):List Str->List Str
  | []=>[s]
  | x :: r=>if x=s then x :: r else if s<x then s :: x :: r else x :: jbm s r
theorem jl4{s:Str}:∀ {xs:List Str} {k:Nat},(∀ x∈xs.take k,x<s)->xs[k]?=some s->xs=jbm s xs
  | [],_,_,h=>by simp at h
  | x :: r,0,_,h=>by
    simp at h
    simp[jbm,h]
  | x :: r,k+1,h0,h=>by
    have hx:x<s:=h0 x (by simp)
    have e:=jl4 (s:=s) (xs:=r) (k:=k) (fun y hy=>h0 y (by simp[hy])) (by simpa using h)
    rw[jbm,if_neg (jwo hx),if_neg (jxg hx),<- e]
theorem jl3{s:Str}:∀ {xs:List Str} {k:Nat} {y:Str},(∀ x∈xs.take k,x<s)->xs[k]?=some y->s<y->xs.take k++[s]++xs.drop k=jbm s xs
  | [],_,_,_,h,_=>by simp at h
  | x :: r,0,y,_,h,hy=>by
    simp at h
    subst h
    have hne:x≠s:=fun e=>jqf s (by rw[e] at hy;exact hy)
    simp[jbm,hy,hne]
  | x :: r,k+1,y,h0,h,hy=>by
    have hx:x<s:=h0 x (by simp)
    have e:=jl3 (s:=s) (xs:=r) (k:=k) (fun y hy=>h0 y (by simp[hy])) (by simpa using h) hy
    rw[jbm,if_neg (jwo hx),if_neg (jxg hx),<- e]
    simp
theorem jl5{s:Str}:∀ {xs:List Str},(∀ x∈xs,x<s)->xs++[s]=jbm s xs
  | [],_=>rfl
  | x :: r,h0=>by
    have hx:x<s:=h0 x (by simp)
    have e:=jl5 (s:=s) (xs:=r) (fun y hy=>h0 y (by simp[hy]))
    rw[jbm,if_neg (jwo hx),if_neg (jxg hx),<- e]
    simp
theorem lt_snoc{xs:List Str}{s y:Str}{k:Nat}(h:∀ x∈xs.take k,x<s)(hy:xs[k]?=some y)(hlt:y<s):∀ x∈xs.take (k+1),x<s:=by
 obtain⟨hk,he⟩:=List.getElem?_eq_some_iff.1 hy;rw[List.take_succ_eq_append_getElem hk,he];intro a ha;rcases List.mem_append.1 ha with h1 | h1
 ·exact h a h1
 ·rw[List.mem_singleton.1 h1];exact hlt
theorem jqr.take{w:World}{b off:Nat}{xs:List Str}(hb:b<w.heap.size)(h:∀ i x,xs[i]?=some x->w.cell? ⟨b,off+i,none⟩=some (.string (S x)))(k:Nat):jqr w (some ⟨b,off,none⟩) (xs.take k) :=
  .inr ⟨b,off,rfl,hb,fun i x hx=>h i x (by
    rw[List.getElem?_take] at hx
    split at hx
    · exact hx
    · cases hx)⟩
theorem jqr.drop{w:World}{b off:Nat}{xs:List Str}(hb:b<w.heap.size)(h:∀ i x,xs[i]?=some x->w.cell? ⟨b,off+i,none⟩=some (.string (S x)))(k:Nat):jqr w (some ⟨b,off+k,none⟩) (xs.drop k) :=
  .inr ⟨b,off+k,rfl,hb,fun i x hx=>by
    rw[Nat.add_assoc]
    exact h _ x (by rwa [List.getElem?_drop] at hx)⟩
theorem jqr.new(w:World)(s:Str)(t:TypeId):jqr (w.alloc (.cells #[.string (S s)] t)) (some ⟨w.heap.size,0,none⟩) [s] :=
  .inr ⟨_,_,rfl,by simp,fun i x hx=>by
    match i,hx with
    | 0,hx =>
      simp at hx
      subst hx
      simp⟩
def jqm(a b:List Str):List Str:=b.foldl (fun aP x=>jbm x aP) a
theorem jmp(s:Str):∀ xs:List Str,(jbm s xs).length<=xs.length+1
  | []=>by simp[jbm]
  | x :: r=>by
    have:=jmp s r
    unfold jbm
    split
    · simp
    · split
      · simp
      · simp;omega
theorem jrs{a xs:List Str}{k:Nat}{x:Str}(hx:xs[k]?=some x):jqm a (xs.take (k+1))=jbm x (jqm a (xs.take k)):=by
 obtain⟨hk,he⟩:=List.getElem?_eq_some_iff.1 hx;rw[List.take_succ_eq_append_getElem hk,he];simp[jqm,List.foldl_append]
theorem jpa(a:List Str):∀ b:List Str,(jqm a b).length<=a.length+b.length:=by
 intro b;induction b generalizing a with
 | nil=>simp[jqm]
 | cons x r ih=>(have h1:=ih (jbm x a);have h2:=jmp x a;unfold jqm at h1 ⊢;simp only[List.foldl_cons,List.length_cons];omega)
theorem jyl:∀ {xs ys:List Str},Srt xs->Srt ys->(∀ x,x∈xs↔x∈ys)->xs=ys
  | [],[],_,_,_=>rfl
  | [],y :: ys,_,_,h=>absurd ((h y).2 (by simp)) (by simp)
  | x :: xs,[],_,_,h=>absurd ((h x).1 (by simp)) (by simp)
  | x :: xs,y :: ys,hx,hy,h=>by
    obtain⟨eG,ux⟩:=List.pairwise_cons.1 hx
    obtain⟨eb,ga⟩:=List.pairwise_cons.1 hy
    have e:x=y:=by
      rcases List.mem_cons.1 ((h x).1 (by simp)) with h1 | h1
      · exact h1
      · rcases List.mem_cons.1 ((h y).2 (by simp)) with h2 | h2
        · exact h2.symm
        · exact absurd (jjw (eG y h2) (eb x h1)) (jqf x)
    subst e
    refine congrArg _ (jyl ux ga fun z=>⟨fun hz=>?_,fun hz=>?_⟩)
    · rcases List.mem_cons.1 ((h z).1 (by simp[hz])) with h1 | h1
      · subst h1;exact absurd (eG z hz) (jqf z)
      · exact h1
    · rcases List.mem_cons.1 ((h z).2 (by simp[hz])) with h1 | h1
      · subst h1;exact absurd (eb z hz) (jqf z)
      · exact h1
theorem jmw{s x:Str}:∀ {xs:List Str},x∈jbm s xs↔x=s\/x∈xs
  | []=>by simp[jbm]
  | y :: r=>by
    unfold jbm
    split
    · rename_i h;subst h;simp
    · split
      · simp
      · rw[List.mem_cons,jmw (xs:=r),List.mem_cons]
        constructor
        · rintro (h | h | h)
          · exact .inr (.inl h)
          · exact .inl h
          · exact .inr (.inr h)
        · rintro (h | h | h)
          · exact .inr (.inl h)
          · exact .inl h
          · exact .inr (.inr h)
theorem jlz{s:Str}:∀ {xs:List Str},Srt xs->Srt (jbm s xs)
  | [],_=>by simp[jbm]
  | y :: r,h=>by
    obtain⟨h1,h2⟩:=List.pairwise_cons.1 h
    unfold jbm
    split
    · exact h
    · rename_i hne
      split
      · rename_i hlt
        refine List.pairwise_cons.2 ⟨fun z hz=>?_,h⟩
        rcases List.mem_cons.1 hz with e | e
        · rw[e];exact hlt
        · exact jjw hlt (h1 z e)
      · rename_i hge
        refine List.pairwise_cons.2 ⟨fun z hz=>?_,jlz h2⟩
        rcases jmw.1 hz with e | e
        · rw[e]
          rcases jvg y s with k | k | k
          · exact k
          · exact absurd k hne
          · exact absurd k hge
        · exact h1 z e
theorem jxw{x:Str}:∀ {b a:List Str},x∈jqm a b↔x∈a\/x∈b
  | [],a=>by simp[jqm]
  | y :: r,a=>by
    have:=jxw (x:=x) (b:=r) (a:=jbm y a)
    unfold jqm at this ⊢
    rw[List.foldl_cons,this,jmw,List.mem_cons]
    constructor
    · rintro ((h | h) | h)
      · exact .inr (.inl h)
      · exact .inl h
      · exact .inr (.inr h)
    · rintro (h | h | h)
      · exact .inl (.inr h)
      · exact .inl (.inl h)
      · exact .inr h
theorem jwl:∀ {b a:List Str},Srt a->Srt (jqm a b)
  | [],_,h=>by simpa[jqm] using h
  | y :: r,a,h=>by
    have:=jwl (b:=r) (jlz (s:=y) h)
    unfold jqm at this ⊢
    rwa [List.foldl_cons]
def beIn(x:Str)(f:List Str->List (Str×Int)):List Str->List (Str×Int)
  | []=>(x,0) :: f []
  | y :: yr=>if x<y then (x,0) :: f (y :: yr) else if y<x then (y,1) :: beIn x f yr else (x,2) :: f yr
def be:List Str->List Str->List (Str×Int)
  | []=>fun ys=>ys.map fun y=>(y,1)
  | x :: xr=>beIn x (be xr)
theorem jtv:be [] []=[]:=rfl
theorem jye(y:Str)(yr:List Str):be [] (y :: yr)=(y,1) :: be [] yr:=rfl
theorem jpe(x:Str)(xr:List Str):be (x :: xr) []=(x,0) :: be xr []:=rfl
theorem jn6{x y:Str}(xr yr:List Str)(h:x<y):be (x :: xr) (y :: yr)=(x,0) :: be xr (y :: yr):=by
 show beIn x (be xr) (y :: yr)=_
 rw[beIn,if_pos h]
theorem jn7{x y:Str}(xr yr:List Str)(h:y<x):be (x :: xr) (y :: yr)=(y,1) :: be (x :: xr) yr:=by
 show beIn x (be xr) (y :: yr)=(y,1) :: beIn x (be xr) yr
 rw[beIn,if_neg (jxg h),if_pos h]
theorem jn8(x:Str)(xr yr:List Str):be (x :: xr) (x :: yr)=(x,2) :: be xr yr:=by
 show beIn x (be xr) (x :: yr)=_
 rw[beIn,if_neg (jqf x),if_neg (jqf x)]
theorem jll{C:List Str->List Str->Prop}(h0:C [] [])(hr:∀ y yr,C [] yr->C [] (y :: yr))(hl:∀ x xr,C xr []->C (x :: xr) [])(hlt:∀ x xr y yr,x<y->C xr (y :: yr)->C (x :: xr) (y :: yr))(hgt:∀ x xr y yr,y<x->C (x :: xr) yr->C (x :: xr) (y :: yr))(tB:∀ x xr yr,C xr yr->C (x :: xr) (x :: yr)):∀ xs ys,C xs ys:=by
 intro xs;induction xs with
 | nil=>(
 intro ys;induction ys with
 | nil=>exact h0
 | cons y yr ih=>exact hr y yr ih)
 | cons x xr ih=>(
 intro ys;induction ys with
 | nil=>exact hl x xr (ih [])
 | cons y yr ih2=>(
 rcases jvg x y with h | h | h
 ·exact hlt x xr y yr h (ih (y :: yr))
 ·subst h;exact tB x xr yr (ih yr)
 ·exact hgt x xr y yr h ih2))
theorem be_len:∀ xs ys,(be xs ys).length<=xs.length+ys.length:=by
 refine jll ?_ ?_ ?_ ?_ ?_ ?_
 ·simp[jtv]
 ·intro y yr h;rw[jye];simp at h ⊢;omega
 ·intro x xr h;rw[jpe];simp at h ⊢;omega
 ·intro x xr y yr hlt h;rw[jn6 _ _ hlt];simp at h ⊢;omega
 ·intro x xr y yr hlt h;rw[jn7 _ _ hlt];simp at h ⊢;omega
 ·intro x xr yr h;rw[jn8];simp at h ⊢;omega
theorem jft(z:Str):∀ xs ys,z∈(be xs ys).map (·.1)↔z∈xs\/z∈ys:=by
 refine jll ?_ ?_ ?_ ?_ ?_ ?_
 ·simp[jtv]
 ·intro y yr h;rw[jye,List.map_cons,List.mem_cons,h,List.mem_cons];simp
 ·intro x xr h;rw[jpe,List.map_cons,List.mem_cons,h,List.mem_cons];simp
 ·(intro x xr y yr hlt h;rw[jn6 _ _ hlt,List.map_cons,List.mem_cons,h,List.mem_cons (l:=xr),or_assoc])
 ·(intro x xr y yr hlt h;rw[jn7 _ _ hlt,List.map_cons,List.mem_cons,h,List.mem_cons (l:=yr)];exact⟨fun k=>k.elim (fun k => .inr (.inl k)) (fun k=>k.elim .inl (fun k => .inr (.inr k))),fun k=>k.elim (fun k => .inr (.inl k)) (fun k=>k.elim .inl (fun k => .inr (.inr k)))⟩)
 ·(intro x xr yr h;rw[jn8,List.map_cons,List.mem_cons,h,List.mem_cons,List.mem_cons];exact⟨fun k=>k.elim (fun k => .inl (.inl k)) (fun k=>k.elim (fun k => .inl (.inr k)) (fun k => .inr (.inr k))),fun k=>k.elim (fun k=>k.elim .inl (fun k => .inr (.inl k))) (fun k=>k.elim .inl (fun k => .inr (.inr k)))⟩)
theorem srt_be:∀ xs ys,Srt xs->Srt ys->Srt ((be xs ys).map (·.1)):=by
 refine jll ?_ ?_ ?_ ?_ ?_ ?_
 ·intros;simp[jtv]
 ·(
 intro y yr h h1 h2;obtain⟨a,b⟩:=List.pairwise_cons.1 h2;rw[jye,List.map_cons];refine List.pairwise_cons.2 ⟨fun z hz=>?_,h h1 b⟩;rcases (jft z _ _).1 hz with k | k
 ·cases k
 ·exact a z k)
 ·(
 intro x xr h h1 h2;obtain⟨a,b⟩:=List.pairwise_cons.1 h1;rw[jpe,List.map_cons];refine List.pairwise_cons.2 ⟨fun z hz=>?_,h b h2⟩;rcases (jft z _ _).1 hz with k | k
 ·exact a z k
 ·cases k)
 ·(
 intro x xr y yr hlt h h1 h2;obtain⟨a,b⟩:=List.pairwise_cons.1 h1;obtain⟨a2,b2⟩:=List.pairwise_cons.1 h2;rw[jn6 _ _ hlt,List.map_cons];refine List.pairwise_cons.2 ⟨fun z hz=>?_,h b h2⟩;rcases (jft z _ _).1 hz with k | k
 ·exact a z k
 ·(
 rcases List.mem_cons.1 k with e | e
 ·rw[e];exact hlt
 ·exact jjw hlt (a2 z e)))
 ·(
 intro x xr y yr hlt h h1 h2;obtain⟨a,b⟩:=List.pairwise_cons.1 h1;obtain⟨a2,b2⟩:=List.pairwise_cons.1 h2;rw[jn7 _ _ hlt,List.map_cons];refine List.pairwise_cons.2 ⟨fun z hz=>?_,h h1 b2⟩;rcases (jft z _ _).1 hz with k | k
 ·(
 rcases List.mem_cons.1 k with e | e
 ·rw[e];exact hlt
 ·exact jjw hlt (a z e))
 ·exact a2 z k)
 ·(
 intro x xr yr h h1 h2;obtain⟨a,b⟩:=List.pairwise_cons.1 h1;obtain⟨a2,b2⟩:=List.pairwise_cons.1 h2;rw[jn8,List.map_cons];refine List.pairwise_cons.2 ⟨fun z hz=>?_,h b b2⟩;rcases (jft z _ _).1 hz with k | k
 ·exact a z k
 ·exact a2 z k)
theorem be_both{xs ys:List Str}(h1:Srt xs)(h2:Srt ys):(be xs ys).map (·.1)=jqm xs ys :=
  jyl (srt_be xs ys h1 h2) (jwl h1) fun z=>by rw[jft,jxw]
def jbo(l:List (Str×Int)):List Str:=l.map (·.1)
theorem jo8(l:List (Str×Int))(p:Str×Int):jbo (l++[p])=jbo l++[p.1]:=by simp[jbo]
theorem jh9(l:List (Str×Int)):(jbo l).length=l.length:=by simp[jbo]
end R1
namespace C3
open Go.RowKit
theorem jg7{l:List Tk}{i:Nat}{x:Tk}(hx:l[i]?=some x):l.drop i=x :: l.drop (i+1):=by
 obtain⟨hi,he⟩:=List.getElem?_eq_some_iff.1 hx;rw[List.drop_eq_getElem_cons hi,he]
def jkq(d:Bool)(l:List Tk)(q n:Int):List Tk:=if d then l else jxa l q n
theorem joo{l ys:List Tk}{W:List Tk}{k:Nat}{x:Tk}{q n:Int}(h:W=ys++jkq true (l.drop k) q n)(hx:l[k]?=some x):W=(ys++[x])++jkq true (l.drop (k+1)) q n:=by
 rw[h,jg7 hx];simp[jkq]
theorem restC_lt{l ys:List Tk}{W:List Tk}{k:Nat}{x:Tk}{q n:Int}(h:W=ys++jkq false (l.drop k) q n)(hx:l[k]?=some x)(hlt:x.k<q):W=(ys++[x])++jkq false (l.drop (k+1)) q n:=by
 rw[h,jg7 hx];simp[jkq,jxa,hlt]
theorem restC_eq{l ys:List Tk}{W:List Tk}{k:Nat}{x:Tk}{q n:Int}(h:W=ys++jkq false (l.drop k) q n)(hx:l[k]?=some x)(hlt:x.k=q):W=(ys++[⟨q,max n x.n⟩])++jkq true (l.drop (k+1)) q n:=by
 rw[h,jg7 hx];simp[jkq,jxa,hlt]
theorem restC_gt{l ys:List Tk}{W:List Tk}{k:Nat}{x:Tk}{q n:Int}(h:W=ys++jkq false (l.drop k) q n)(hx:l[k]?=some x)(hlt:q<x.k):W=((ys++[⟨q,n⟩])++[x])++jkq true (l.drop (k+1)) q n:=by
 rw[h,jg7 hx,jkq,if_neg (by simp),jxa,if_neg (by omega),if_neg (by omega)];simp[jkq]
theorem jqn.new{w:World}{x:Tk}{t:TypeId}:jqn (w.heap.size+1) (w.alloc (.cells #[.int .i64 x.k,.int .u64 x.n] t)) (some ⟨w.heap.size,0,none⟩) [x] :=
  jqn.one (by omega) (by simp) (by simp)
theorem len1{ys:List Tk}{x:Tk}(h:ys.length<=100000):ys.length+[x].length<=1000000:=by simp;omega
theorem len_snoc{ys:List Tk}{x:Tk}{m:Nat}(h:ys.length+1<=m):(ys++[x]).length<=m:=by simp;omega
end C3
end Go.Proofs.YtobggoephhjofaaGreatDoor
