/- A part. No condition. -/
import Derived.Test.YtobggoephhjofaaGreatDoorMk02
set_option maxRecDepth 100000
set_option maxHeartbeats 16000000
namespace Go.Proofs.YtobggoephhjofaaGreatDoor
namespace V4
open Go.RowKit
open C3 (Tk Asc isC ofC jxt Nok In jzk jzf jqz RetT)
def jnj(x:Va)(p q r s t:Bool):Bool:=jqa x.n x.m x.s.length x.c.length x.v.length p q r s t
def jql(k:Int)(x:Va):Bool :=
  if k=1 then jnj x true false false false false
  else if k=2 then jnj x true false false false false && decide (x.n<=1)
  else if k=3 then jnj x false false true false false && jx3 x.s
  else if k=4 then jnj x false false true false true && (jx3 x.s && decide (x.s.length=x.v.length))
  else if k=5 then jnj x false false false false true && decide (x.v.length=2)
  else if k=6 then (if x.s.length=0 then jnj x false false false false false else jnj x true true true false false && (decide (x.s.length=1) && (jx3 x.s && (decide (x.n≠0) || (decide (x.m≠0) || decide (x.s≠[[]]))))))
  else if k=7 then jnj x false false false true false && decide (x.c.length<=1)
  else jnj x false false false true true && decide (x.c.length=x.v.length)
theorem jnq(n m:Int)(s:List Str)(c:List (List Tk))(v:List Va):jql 1 (.mk n m s c v)=(jqa n m s.length c.length v.length true false false false false):=by unfold jql;rw[if_pos rfl];rfl
theorem jnp(n m:Int)(s:List Str)(c:List (List Tk))(v:List Va):jql 2 (.mk n m s c v)=(jqa n m s.length c.length v.length true false false false false && decide (n<=1)):=by unfold jql;rw[if_neg (by decide),if_pos rfl];rfl
theorem jno(n m:Int)(s:List Str)(c:List (List Tk))(v:List Va):jql 3 (.mk n m s c v)=(jqa n m s.length c.length v.length false false true false false && jx3 s):=by unfold jql;rw[if_neg (by decide),if_neg (by decide),if_pos rfl];rfl
theorem jnn(n m:Int)(s:List Str)(c:List (List Tk))(v:List Va):jql 4 (.mk n m s c v)=(jqa n m s.length c.length v.length false false true false true && (jx3 s && decide (s.length=v.length))):=by unfold jql;rw[if_neg (by decide),if_neg (by decide),if_neg (by decide),if_pos rfl];rfl
theorem jtq(n m:Int)(s:List Str)(c:List (List Tk))(v:List Va):jql 5 (.mk n m s c v)=(jqa n m s.length c.length v.length false false false false true && decide (v.length=2)):=by unfold jql;rw[if_neg (by decide),if_neg (by decide),if_neg (by decide),if_neg (by decide),if_pos rfl];rfl
theorem jtp(n m:Int)(s:List Str)(c:List (List Tk))(v:List Va):jql 6 (.mk n m s c v)=(if s.length=0 then jqa n m s.length c.length v.length false false false false false else jqa n m s.length c.length v.length true true true false false && (decide (s.length=1) && (jx3 s && (decide (n≠0) || (decide (m≠0) || decide (s≠[[]])))))):=by unfold jql;rw[if_neg (by decide),if_neg (by decide),if_neg (by decide),if_neg (by decide),if_neg (by decide),if_pos rfl];rfl
theorem jnm(n m:Int)(s:List Str)(c:List (List Tk))(v:List Va):jql 7 (.mk n m s c v)=(jqa n m s.length c.length v.length false false false true false && decide (c.length<=1)):=by unfold jql;rw[if_neg (by decide),if_neg (by decide),if_neg (by decide),if_neg (by decide),if_neg (by decide),if_neg (by decide),if_pos rfl];rfl
theorem jxv(n m:Int)(sA:Option Addr)(sc a:Nat)(cA:Option Addr)(cc b:Nat)(vA:Option Addr)(vc d:Nat)(p q r s t v:Bool)(w:World)(hv:jqa n m a b d p q r s t=v) :
    Calls Tryz.prog 137 #[.agg #[.int .u64 n,.int .u64 m,.slice sA a sc,.slice cA b cc,.slice vA d vc],.bool p,.bool q,.bool r,.bool s,.bool t] w (jz6 w (.bool v)):=hv▸jor n m sA sc a cA cc b vA vc d p q r s t w
theorem jvi(A:Option Addr)(c:Nat)(ss:List Str)(v:Bool)(w:World)(hl:jqr w A ss)(hn:ss.length<=maxLen)(ht:∀ s∈ss,s.length<=maxLen)(hv:jx3 ss=v) :
    Calls Tryz.prog 138 #[.slice A ss.length c] w fun e w'=>e = .returned (.bool v)/\w=w':=hv▸ju9 A c ss w hl hn ht
theorem jm9{n m:Int}(k:Int){s:List Str}{c:List (List Tk)}{v:List Va}(h1:k≠1)(h2:k≠2)(h3:k≠3)(h4:k≠4)(h5:k≠5)(h6:k≠6)(h7:k≠7):jql k (.mk n m s c v)=(jqa n m s.length c.length v.length false false false true true && decide (c.length=v.length)):=by
 unfold jql jnj;rw[if_neg h1,if_neg h2,if_neg h3,if_neg h4,if_neg h5,if_neg h6,if_neg h7];rfl
theorem jdr(k:Int)(A:Option Addr)(c ln:Nat)(x:Vl)(w:World)(bx:x.In w):Calls Tryz.prog 91 #[.agg #[.int .i64 k,.slice A ln c],x.val] w (jz6 w (.bool (jql k x.er))):=by
 obtain⟨n,m,sA,sc,ss,cA,cc,cs,vA,vc,vs⟩:=x;have sL:Below w.heap.size w ((w.alloc (.cells #[.int .i64 k,.slice A ln c] 24)).alloc (.cells #[.int .u64 n,.int .u64 m,.slice sA ss.length sc,.slice cA cs.length cc,.slice vA vs.length vc] 30)):=jzk (jzf _ _);have P:=bx.out;have HP:=Lh P;have fE:Hid (ss.length<=maxLen):=leT P.sb.1 P.sb.2.1;have wU:=Lh P.st;have mq:=Lh P.sl;have qa:ss.length<=9223372036854775807:=by have:=P.sb;unfold maxLen at this;omega
 have d8:cs.length<=9223372036854775807:=by have:=P.cb;unfold maxLen at this;omega
 have iB:vs.length<=9223372036854775807:=by have:=P.vb;unfold maxLen at this;omega
 obtain⟨qe,eo⟩:=P.hn;obtain⟨o7,iK⟩:=P.hm;have eS:=Lh sL;clear bx P sL;simp only[jzh,jzw];by_cases k1:k=1
 ·(
 subst k1;obtain⟨t,ht⟩:=exq (jqa n m ss.length (cs.map Ck.l).length (vs.map Vl.er).length true false false false false);have HF:Hid (jql 1 (.mk n m ss (cs.map Ck.l) (vs.map Vl.er))=(t)):=by (
 show jql _ _=_
 rw[jnq,ht])
 have jM:Hid (jqa n m ss.length cs.length vs.length true false false false false=t):=by show _=_;rw[<- ht,List.length_map,List.length_map]
 clear ht;go_enter Tryz.func91,Tryz.ntmps91;go_wp2_with fail;refine (jxv n m sA sc ss.length cA cc cs.length vA vc vs.length true false false false false t _ jM.out).mono ?_;rintro e w1 ⟨rfl,af⟩;have aD:Below w.heap.size w w1:=eS.out.trans (af.mono eS.out.size);have a0:w1.cell? ⟨w.heap.size+1,0,none⟩=some (.int .u64 n):=(af.cell (p:=⟨w.heap.size+1,0,none⟩) (by simp)).trans (by go_simp);have a1:w1.cell? ⟨w.heap.size+1,1,none⟩=some (.int .u64 m):=(af.cell (p:=⟨w.heap.size+1,1,none⟩) (by simp)).trans (by go_simp);have a2:w1.cell? ⟨w.heap.size+1,2,none⟩=some (.slice sA ss.length sc):=(af.cell (p:=⟨w.heap.size+1,2,none⟩) (by simp)).trans (by go_simp);have a3:w1.cell? ⟨w.heap.size+1,3,none⟩=some (.slice cA cs.length cc):=(af.cell (p:=⟨w.heap.size+1,3,none⟩) (by simp)).trans (by go_simp);have a4:w1.cell? ⟨w.heap.size+1,4,none⟩=some (.slice vA vs.length vc):=(af.cell (p:=⟨w.heap.size+1,4,none⟩) (by simp)).trans (by go_simp);have fk:Hid (jqr w1 sA ss):=mq.out.below aD;clear af eS;cases t with
 | false=>(go_wp2_with fail;go_ret;exact⟨jzi HF.out.symm,aD⟩)
 | true=>(go_wp2_with fail;go_ret;exact⟨jzi HF.out.symm,aD⟩))
 ·(
 skip
 by_cases k2:k=2
 ·(
 subst k2;obtain⟨t,ht⟩:=exq (jqa n m ss.length (cs.map Ck.l).length (vs.map Vl.er).length true false false false false);obtain⟨p,hp⟩:=exq (decide (n<=1));have HF:Hid (jql 2 (.mk n m ss (cs.map Ck.l) (vs.map Vl.er))=(t && p)):=by (
 show jql _ _=_
 rw[jnp,ht,hp])
 have jM:Hid (jqa n m ss.length cs.length vs.length true false false false false=t):=by show _=_;rw[<- ht,List.length_map,List.length_map]
 clear ht;have lE:=Lh hp;clear hp;go_enter Tryz.func91,Tryz.ntmps91;go_wp2_with fail;refine (jxv n m sA sc ss.length cA cc cs.length vA vc vs.length true false false false false t _ jM.out).mono ?_;rintro e w1 ⟨rfl,af⟩;have aD:Below w.heap.size w w1:=eS.out.trans (af.mono eS.out.size);have a0:w1.cell? ⟨w.heap.size+1,0,none⟩=some (.int .u64 n):=(af.cell (p:=⟨w.heap.size+1,0,none⟩) (by simp)).trans (by go_simp);have a1:w1.cell? ⟨w.heap.size+1,1,none⟩=some (.int .u64 m):=(af.cell (p:=⟨w.heap.size+1,1,none⟩) (by simp)).trans (by go_simp);have a2:w1.cell? ⟨w.heap.size+1,2,none⟩=some (.slice sA ss.length sc):=(af.cell (p:=⟨w.heap.size+1,2,none⟩) (by simp)).trans (by go_simp);have a3:w1.cell? ⟨w.heap.size+1,3,none⟩=some (.slice cA cs.length cc):=(af.cell (p:=⟨w.heap.size+1,3,none⟩) (by simp)).trans (by go_simp);have a4:w1.cell? ⟨w.heap.size+1,4,none⟩=some (.slice vA vs.length vc):=(af.cell (p:=⟨w.heap.size+1,4,none⟩) (by simp)).trans (by go_simp);have fk:Hid (jqr w1 sA ss):=mq.out.below aD;clear af eS;cases t with
 | false=>(go_wp2_with fail;go_ret;exact⟨jzi HF.out.symm,aD⟩)
 | true=>(
 cases p with
 | false=>(have cx:=of_decide_eq_false lE.out;have dx:decide (n<=1)=false:=decide_eq_false cx;clear cx;go_wp2_with fail;go_ret;exact⟨jzi HF.out.symm,aD⟩)
 | true=>(have cx:=of_decide_eq_true lE.out;have dx:n<=1:=cx;clear cx;go_wp2_with fail;go_ret;exact⟨jzi HF.out.symm,aD⟩)))
 ·(
 skip
 by_cases k3:k=3
 ·(
 subst k3;obtain⟨t,ht⟩:=exq (jqa n m ss.length (cs.map Ck.l).length (vs.map Vl.er).length false false true false false);obtain⟨u,hu⟩:=exq (jx3 ss);have HF:Hid (jql 3 (.mk n m ss (cs.map Ck.l) (vs.map Vl.er))=(t && u)):=by (
 show jql _ _=_
 rw[jno,ht,hu])
 have jM:Hid (jqa n m ss.length cs.length vs.length false false true false false=t):=by show _=_;rw[<- ht,List.length_map,List.length_map]
 clear ht;have wN:=Lh hu;clear hu;go_enter Tryz.func91,Tryz.ntmps91;go_wp2_with fail;refine (jxv n m sA sc ss.length cA cc cs.length vA vc vs.length false false true false false t _ jM.out).mono ?_;rintro e w1 ⟨rfl,af⟩;have aD:Below w.heap.size w w1:=eS.out.trans (af.mono eS.out.size);have a0:w1.cell? ⟨w.heap.size+1,0,none⟩=some (.int .u64 n):=(af.cell (p:=⟨w.heap.size+1,0,none⟩) (by simp)).trans (by go_simp);have a1:w1.cell? ⟨w.heap.size+1,1,none⟩=some (.int .u64 m):=(af.cell (p:=⟨w.heap.size+1,1,none⟩) (by simp)).trans (by go_simp);have a2:w1.cell? ⟨w.heap.size+1,2,none⟩=some (.slice sA ss.length sc):=(af.cell (p:=⟨w.heap.size+1,2,none⟩) (by simp)).trans (by go_simp);have a3:w1.cell? ⟨w.heap.size+1,3,none⟩=some (.slice cA cs.length cc):=(af.cell (p:=⟨w.heap.size+1,3,none⟩) (by simp)).trans (by go_simp);have a4:w1.cell? ⟨w.heap.size+1,4,none⟩=some (.slice vA vs.length vc):=(af.cell (p:=⟨w.heap.size+1,4,none⟩) (by simp)).trans (by go_simp);have fk:Hid (jqr w1 sA ss):=mq.out.below aD;clear af eS;cases t with
 | false=>(go_wp2_with fail;go_ret;exact⟨jzi HF.out.symm,aD⟩)
 | true=>(
 go_wp2_with fail;refine (jvi sA sc ss u _ fk.out fE.out wU.out wN.out).mono ?_;rintro e w2 ⟨rfl,rfl⟩;cases u with
 | false=>(go_wp2_with fail;go_ret;exact⟨jzi HF.out.symm,aD⟩)
 | true=>(go_wp2_with fail;go_ret;exact⟨jzi HF.out.symm,aD⟩)))
 ·(
 skip
 by_cases k4:k=4
 ·(
 subst k4;obtain⟨t,ht⟩:=exq (jqa n m ss.length (cs.map Ck.l).length (vs.map Vl.er).length false false true false true);obtain⟨u,hu⟩:=exq (jx3 ss);obtain⟨p,hp⟩:=exq (decide (ss.length=(vs.map Vl.er).length));have HF:Hid (jql 4 (.mk n m ss (cs.map Ck.l) (vs.map Vl.er))=(t && (u && p))):=by (
 show jql _ _=_
 rw[jnn,ht,hu,hp])
 have jM:Hid (jqa n m ss.length cs.length vs.length false false true false true=t):=by show _=_;rw[<- ht,List.length_map,List.length_map]
 clear ht;have wN:=Lh hu;clear hu;have lE:=Lh hp;clear hp;go_enter Tryz.func91,Tryz.ntmps91;go_wp2_with fail;refine (jxv n m sA sc ss.length cA cc cs.length vA vc vs.length false false true false true t _ jM.out).mono ?_;rintro e w1 ⟨rfl,af⟩;have aD:Below w.heap.size w w1:=eS.out.trans (af.mono eS.out.size);have a0:w1.cell? ⟨w.heap.size+1,0,none⟩=some (.int .u64 n):=(af.cell (p:=⟨w.heap.size+1,0,none⟩) (by simp)).trans (by go_simp);have a1:w1.cell? ⟨w.heap.size+1,1,none⟩=some (.int .u64 m):=(af.cell (p:=⟨w.heap.size+1,1,none⟩) (by simp)).trans (by go_simp);have a2:w1.cell? ⟨w.heap.size+1,2,none⟩=some (.slice sA ss.length sc):=(af.cell (p:=⟨w.heap.size+1,2,none⟩) (by simp)).trans (by go_simp);have a3:w1.cell? ⟨w.heap.size+1,3,none⟩=some (.slice cA cs.length cc):=(af.cell (p:=⟨w.heap.size+1,3,none⟩) (by simp)).trans (by go_simp);have a4:w1.cell? ⟨w.heap.size+1,4,none⟩=some (.slice vA vs.length vc):=(af.cell (p:=⟨w.heap.size+1,4,none⟩) (by simp)).trans (by go_simp);have fk:Hid (jqr w1 sA ss):=mq.out.below aD;clear af eS;cases t with
 | false=>(go_wp2_with fail;go_ret;exact⟨jzi HF.out.symm,aD⟩)
 | true=>(
 go_wp2_with fail;refine (jvi sA sc ss u _ fk.out fE.out wU.out wN.out).mono ?_;rintro e w2 ⟨rfl,rfl⟩;cases u with
 | false=>(go_wp2_with fail;go_ret;exact⟨jzi HF.out.symm,aD⟩)
 | true=>(
 cases p with
 | false=>(have cx:=of_decide_eq_false lE.out;rw[List.length_map] at cx;have dx:((ss.length:Int) == (vs.length:Int))=false:=beq_eq_false_iff_ne.2 (by omega);clear cx;go_wp2_with fail;go_ret;exact⟨jzi HF.out.symm,aD⟩)
 | true=>(have cx:=of_decide_eq_true lE.out;rw[List.length_map] at cx;have dx:((ss.length:Int) == (vs.length:Int))=true:=beq_iff_eq.2 (by omega);clear cx;go_wp2_with fail;go_ret;exact⟨jzi HF.out.symm,aD⟩))))
 ·(
 skip
 by_cases k5:k=5
 ·(
 subst k5;obtain⟨t,ht⟩:=exq (jqa n m ss.length (cs.map Ck.l).length (vs.map Vl.er).length false false false false true);obtain⟨p,hp⟩:=exq (decide ((vs.map Vl.er).length=2));have HF:Hid (jql 5 (.mk n m ss (cs.map Ck.l) (vs.map Vl.er))=(t && p)):=by (
 show jql _ _=_
 rw[jtq,ht,hp])
 have jM:Hid (jqa n m ss.length cs.length vs.length false false false false true=t):=by show _=_;rw[<- ht,List.length_map,List.length_map]
 clear ht;have lE:=Lh hp;clear hp;go_enter Tryz.func91,Tryz.ntmps91;go_wp2_with fail;refine (jxv n m sA sc ss.length cA cc cs.length vA vc vs.length false false false false true t _ jM.out).mono ?_;rintro e w1 ⟨rfl,af⟩;have aD:Below w.heap.size w w1:=eS.out.trans (af.mono eS.out.size);have a0:w1.cell? ⟨w.heap.size+1,0,none⟩=some (.int .u64 n):=(af.cell (p:=⟨w.heap.size+1,0,none⟩) (by simp)).trans (by go_simp);have a1:w1.cell? ⟨w.heap.size+1,1,none⟩=some (.int .u64 m):=(af.cell (p:=⟨w.heap.size+1,1,none⟩) (by simp)).trans (by go_simp);have a2:w1.cell? ⟨w.heap.size+1,2,none⟩=some (.slice sA ss.length sc):=(af.cell (p:=⟨w.heap.size+1,2,none⟩) (by simp)).trans (by go_simp);have a3:w1.cell? ⟨w.heap.size+1,3,none⟩=some (.slice cA cs.length cc):=(af.cell (p:=⟨w.heap.size+1,3,none⟩) (by simp)).trans (by go_simp);have a4:w1.cell? ⟨w.heap.size+1,4,none⟩=some (.slice vA vs.length vc):=(af.cell (p:=⟨w.heap.size+1,4,none⟩) (by simp)).trans (by go_simp);have fk:Hid (jqr w1 sA ss):=mq.out.below aD;clear af eS;cases t with
 | false=>(go_wp2_with fail;go_ret;exact⟨jzi HF.out.symm,aD⟩)
 | true=>(
 cases p with
 | false=>(have cx:=of_decide_eq_false lE.out;rw[List.length_map] at cx;have dx:((vs.length:Int) == 2)=false:=beq_eq_false_iff_ne.2 (by omega);clear cx;go_wp2_with fail;go_ret;exact⟨jzi HF.out.symm,aD⟩)
 | true=>(have cx:=of_decide_eq_true lE.out;rw[List.length_map] at cx;have dx:((vs.length:Int) == 2)=true:=beq_iff_eq.2 (by omega);clear cx;go_wp2_with fail;go_ret;exact⟨jzi HF.out.symm,aD⟩)))
 ·(
 skip
 by_cases k6:k=6
 ·(
 subst k6;by_cases c0:ss.length=0
 ·(
 have e0:ss=[]:=List.eq_nil_of_length_eq_zero c0;subst e0;clear c0;obtain⟨t,ht⟩:=exq (jqa n m ([]:List Str).length (cs.map Ck.l).length (vs.map Vl.er).length false false false false false);have HF:Hid (jql 6 (.mk n m [] (cs.map Ck.l) (vs.map Vl.er))=t):=by (
 show jql _ _=_
 rw[jtp,if_pos List.length_nil,ht])
 have jM:Hid (jqa n m 0 cs.length vs.length false false false false false=t):=by show _=_;rw[<- ht,List.length_map,List.length_map];rfl
 clear ht;go_enter Tryz.func91,Tryz.ntmps91;go_wp2_with fail;refine (jxv n m sA sc 0 cA cc cs.length vA vc vs.length false false false false false t _ jM.out).mono ?_;rintro e w1 ⟨rfl,af⟩;have aD:Below w.heap.size w w1:=eS.out.trans (af.mono eS.out.size);have a0:w1.cell? ⟨w.heap.size+1,0,none⟩=some (.int .u64 n):=(af.cell (p:=⟨w.heap.size+1,0,none⟩) (by simp)).trans (by go_simp);have a1:w1.cell? ⟨w.heap.size+1,1,none⟩=some (.int .u64 m):=(af.cell (p:=⟨w.heap.size+1,1,none⟩) (by simp)).trans (by go_simp);have a2:w1.cell? ⟨w.heap.size+1,2,none⟩=some (.slice sA 0 sc):=(af.cell (p:=⟨w.heap.size+1,2,none⟩) (by simp)).trans (by go_simp);have a3:w1.cell? ⟨w.heap.size+1,3,none⟩=some (.slice cA cs.length cc):=(af.cell (p:=⟨w.heap.size+1,3,none⟩) (by simp)).trans (by go_simp);have a4:w1.cell? ⟨w.heap.size+1,4,none⟩=some (.slice vA vs.length vc):=(af.cell (p:=⟨w.heap.size+1,4,none⟩) (by simp)).trans (by go_simp);have fk:Hid (jqr w1 sA []):=mq.out.below aD;clear af eS;cases t with
 | false=>(go_wp2_with fail;go_ret;exact⟨jzi HF.out.symm,aD⟩)
 | true=>(go_wp2_with fail;go_ret;exact⟨jzi HF.out.symm,aD⟩))
 ·(
 have d0:((ss.length:Int) == 0)=false:=beq_eq_false_iff_ne.2 (by omega);obtain⟨t,ht⟩:=exq (jqa n m ss.length (cs.map Ck.l).length (vs.map Vl.er).length true true true false false);obtain⟨p1,dC⟩:=exq (decide (ss.length=1));obtain⟨u,hu⟩:=exq (jx3 ss);obtain⟨q1,jh⟩:=exq (decide (n≠0));obtain⟨q2,jw⟩:=exq (decide (m≠0));obtain⟨q3,hq3⟩:=exq (decide (ss≠[[]]));have HF:Hid (jql 6 (.mk n m ss (cs.map Ck.l) (vs.map Vl.er))=(t && (p1 && (u && (q1 || (q2 || q3)))))):=by (
 show jql _ _=_
 rw[jtp,if_neg c0,ht,dC,hu,jh,jw,hq3])
 have jM:Hid (jqa n m ss.length cs.length vs.length true true true false false=t):=by show _=_;rw[<- ht,List.length_map,List.length_map]
 have wP:=Lh dC;have wN:=Lh hu;have sV:=Lh jh;have sU:=Lh jw;have wO:=Lh hq3;clear c0 ht dC hu jh jw hq3;go_enter Tryz.func91,Tryz.ntmps91;go_wp2_with fail;refine (jxv n m sA sc ss.length cA cc cs.length vA vc vs.length true true true false false t _ jM.out).mono ?_;rintro e w1 ⟨rfl,af⟩;have aD:Below w.heap.size w w1:=eS.out.trans (af.mono eS.out.size);have a0:w1.cell? ⟨w.heap.size+1,0,none⟩=some (.int .u64 n):=(af.cell (p:=⟨w.heap.size+1,0,none⟩) (by simp)).trans (by go_simp);have a1:w1.cell? ⟨w.heap.size+1,1,none⟩=some (.int .u64 m):=(af.cell (p:=⟨w.heap.size+1,1,none⟩) (by simp)).trans (by go_simp);have a2:w1.cell? ⟨w.heap.size+1,2,none⟩=some (.slice sA ss.length sc):=(af.cell (p:=⟨w.heap.size+1,2,none⟩) (by simp)).trans (by go_simp);have a3:w1.cell? ⟨w.heap.size+1,3,none⟩=some (.slice cA cs.length cc):=(af.cell (p:=⟨w.heap.size+1,3,none⟩) (by simp)).trans (by go_simp);have a4:w1.cell? ⟨w.heap.size+1,4,none⟩=some (.slice vA vs.length vc):=(af.cell (p:=⟨w.heap.size+1,4,none⟩) (by simp)).trans (by go_simp);have fk:Hid (jqr w1 sA ss):=mq.out.below aD;clear af eS;cases t with
 | false=>(go_wp2_with fail;go_ret;exact⟨jzi HF.out.symm,aD⟩)
 | true=>(
 cases p1 with
 | false=>(have cx:=of_decide_eq_false wP.out;have dx:((ss.length:Int) == 1)=false:=beq_eq_false_iff_ne.2 (by omega);clear cx;go_wp2_with fail;go_ret;exact⟨jzi HF.out.symm,aD⟩)
 | true=>(
 have cx:=of_decide_eq_true wP.out;obtain⟨s,rfl⟩:∃ s,ss=[s]:=List.length_eq_one_iff.1 cx
 clear cx;clear d0;obtain⟨b,off,rfl,hb,hc⟩:=fk.out.get (k:=0) (by simp);have cq:=hc 0 s rfl;simp only[Nat.add_zero] at cq;clear hc;go_wp2_with fail;refine (jvi _ sc [s] u _ fk.out fE.out wU.out wN.out).mono ?_;rintro e w2 ⟨rfl,rfl⟩;cases u with
 | false=>(go_wp2_with fail;go_ret;exact⟨jzi HF.out.symm,aD⟩)
 | true=>(
 cases q1 with
 | true=>(
 have d1:(n == 0)=false:=by have:=of_decide_eq_true sV.out;simp[this]
 have d1':(n != 0)=true:=by have:=of_decide_eq_true sV.out;simp[this]
 go_wp2_with fail;go_ret;exact⟨jzi HF.out.symm,aD⟩)
 | false=>(
 have e1:n=0:=by have:=of_decide_eq_false sV.out;omega
 subst e1;cases q2 with
 | true=>(
 have d2:(m == 0)=false:=by have:=of_decide_eq_true sU.out;simp[this]
 have d2':(m != 0)=true:=by have:=of_decide_eq_true sU.out;simp[this]
 go_wp2_with fail;go_ret;exact⟨jzi HF.out.symm,aD⟩)
 | false=>(
 have e2:m=0:=by have:=of_decide_eq_false sU.out;omega
 subst e2;cases q3 with
 | true=>(
 have d3:List.isEmpty s=false:=by (
 cases s with
 | nil=>exact absurd rfl (of_decide_eq_true wO.out)
 | cons=>rfl)
 go_wp2_with fail;go_ret;exact⟨jzi HF.out.symm,aD⟩)
 | false=>(
 have e3:s=[]:=by have:=of_decide_eq_false wO.out;simpa using this
 subst e3;go_wp2_with fail;go_ret;exact⟨jzi HF.out.symm,aD⟩))))))))
 ·(
 skip
 by_cases k7:k=7
 ·(
 subst k7;obtain⟨t,ht⟩:=exq (jqa n m ss.length (cs.map Ck.l).length (vs.map Vl.er).length false false false true false);obtain⟨p,hp⟩:=exq (decide ((cs.map Ck.l).length<=1));have HF:Hid (jql 7 (.mk n m ss (cs.map Ck.l) (vs.map Vl.er))=(t && p)):=by (
 show jql _ _=_
 rw[jnm,ht,hp])
 have jM:Hid (jqa n m ss.length cs.length vs.length false false false true false=t):=by show _=_;rw[<- ht,List.length_map,List.length_map]
 clear ht;have lE:=Lh hp;clear hp;go_enter Tryz.func91,Tryz.ntmps91;go_wp2_with fail;refine (jxv n m sA sc ss.length cA cc cs.length vA vc vs.length false false false true false t _ jM.out).mono ?_;rintro e w1 ⟨rfl,af⟩;have aD:Below w.heap.size w w1:=eS.out.trans (af.mono eS.out.size);have a0:w1.cell? ⟨w.heap.size+1,0,none⟩=some (.int .u64 n):=(af.cell (p:=⟨w.heap.size+1,0,none⟩) (by simp)).trans (by go_simp);have a1:w1.cell? ⟨w.heap.size+1,1,none⟩=some (.int .u64 m):=(af.cell (p:=⟨w.heap.size+1,1,none⟩) (by simp)).trans (by go_simp);have a2:w1.cell? ⟨w.heap.size+1,2,none⟩=some (.slice sA ss.length sc):=(af.cell (p:=⟨w.heap.size+1,2,none⟩) (by simp)).trans (by go_simp);have a3:w1.cell? ⟨w.heap.size+1,3,none⟩=some (.slice cA cs.length cc):=(af.cell (p:=⟨w.heap.size+1,3,none⟩) (by simp)).trans (by go_simp);have a4:w1.cell? ⟨w.heap.size+1,4,none⟩=some (.slice vA vs.length vc):=(af.cell (p:=⟨w.heap.size+1,4,none⟩) (by simp)).trans (by go_simp);have fk:Hid (jqr w1 sA ss):=mq.out.below aD;clear af eS;cases t with
 | false=>(go_wp2_with fail;go_ret;exact⟨jzi HF.out.symm,aD⟩)
 | true=>(
 cases p with
 | false=>(have cx:=of_decide_eq_false lE.out;rw[List.length_map] at cx;have dx:decide ((cs.length:Int)<=1)=false:=decide_eq_false (by omega);clear cx;go_wp2_with fail;go_ret;exact⟨jzi HF.out.symm,aD⟩)
 | true=>(
 have cx:=of_decide_eq_true lE.out;rw[List.length_map] at cx;have dx:(cs.length:Int)<=1:=by omega
 clear cx;go_wp2_with fail;go_ret;exact⟨jzi HF.out.symm,aD⟩)))
 ·(
 skip
 obtain⟨t,ht⟩:=exq (jqa n m ss.length (cs.map Ck.l).length (vs.map Vl.er).length false false false true true);obtain⟨p,hp⟩:=exq (decide ((cs.map Ck.l).length=(vs.map Vl.er).length));have HF:Hid (jql k (.mk n m ss (cs.map Ck.l) (vs.map Vl.er))=(t && p)):=by (
 show jql _ _=_
 rw[jm9 k k1 k2 k3 k4 k5 k6 k7,ht,hp])
 have jM:Hid (jqa n m ss.length cs.length vs.length false false false true true=t):=by show _=_;rw[<- ht,List.length_map,List.length_map]
 have lE:=Lh hp;clear ht hp;go_enter Tryz.func91,Tryz.ntmps91;go_wp2_with fail;refine (jxv n m sA sc ss.length cA cc cs.length vA vc vs.length false false false true true t _ jM.out).mono ?_;rintro e w1 ⟨rfl,af⟩;have aD:Below w.heap.size w w1:=eS.out.trans (af.mono eS.out.size);have a0:w1.cell? ⟨w.heap.size+1,0,none⟩=some (.int .u64 n):=(af.cell (p:=⟨w.heap.size+1,0,none⟩) (by simp)).trans (by go_simp);have a1:w1.cell? ⟨w.heap.size+1,1,none⟩=some (.int .u64 m):=(af.cell (p:=⟨w.heap.size+1,1,none⟩) (by simp)).trans (by go_simp);have a2:w1.cell? ⟨w.heap.size+1,2,none⟩=some (.slice sA ss.length sc):=(af.cell (p:=⟨w.heap.size+1,2,none⟩) (by simp)).trans (by go_simp);have a3:w1.cell? ⟨w.heap.size+1,3,none⟩=some (.slice cA cs.length cc):=(af.cell (p:=⟨w.heap.size+1,3,none⟩) (by simp)).trans (by go_simp);have a4:w1.cell? ⟨w.heap.size+1,4,none⟩=some (.slice vA vs.length vc):=(af.cell (p:=⟨w.heap.size+1,4,none⟩) (by simp)).trans (by go_simp);have fk:Hid (jqr w1 sA ss):=mq.out.below aD;clear af eS;cases t with
 | false=>(go_wp2_with fail;go_ret;exact⟨jzi HF.out.symm,aD⟩)
 | true=>(
 cases p with
 | false=>(have cx:=of_decide_eq_false lE.out;rw[List.length_map,List.length_map] at cx;have dx:((cs.length:Int) == (vs.length:Int))=false:=beq_eq_false_iff_ne.2 (by omega);clear cx;go_wp2_with fail;go_ret;exact⟨jzi HF.out.symm,aD⟩)
 | true=>(have cx:=of_decide_eq_true lE.out;rw[List.length_map,List.length_map] at cx;have dx:((cs.length:Int) == (vs.length:Int))=true:=beq_iff_eq.2 (by omega);clear cx;go_wp2_with fail;go_ret;exact⟨jzi HF.out.symm,aD⟩)))))))))
end V4
namespace S2
open Go.RowKit
theorem jib(k:Int)(w:World):Calls Tryz.prog 102 #[.int .i64 k] w fun e w'=>e = .returned (.int .i64 (arI k))/\w=w':=by
 by_cases h0:k=1\/k=2\/k=3\/k=6\/k=7
 ·(
 rcases h0 with rfl | rfl | rfl | rfl | rfl
 all_goals
   go_enter Tryz.func102,Tryz.ntmps102
   go_wp2
   go_ret
   exact⟨jxd (by decide),rfl⟩)
 ·(
 by_cases h1:k=4\/k=8
 ·(
 rcases h1 with rfl | rfl
 all_goals
   go_enter Tryz.func102,Tryz.ntmps102
   go_wp2
   go_ret
   exact⟨jxd (by decide),rfl⟩)
 ·(
 by_cases h2:k=5
 ·(
 subst h2;go_enter Tryz.func102,Tryz.ntmps102;go_wp2
 go_ret;exact⟨jxd (by decide),rfl⟩)
 ·(
 have HA:Hid (arI k = -1):=by show arI k = -1;unfold arI;rw[if_neg h0,if_neg h1,if_neg h2]
 have e1:k≠1:=fun h=>h0 (by simp[h])
 have e2:k≠2:=fun h=>h0 (by simp[h])
 have e3:k≠3:=fun h=>h0 (by simp[h])
 have e6:k≠6:=fun h=>h0 (by simp[h])
 have e7:k≠7:=fun h=>h0 (by simp[h])
 have e4:k≠4:=fun h=>h1 (by simp[h])
 have e8:k≠8:=fun h=>h1 (by simp[h])
 clear h0 h1;go_enter Tryz.func102,Tryz.ntmps102;go_wp2
 go_ret;exact⟨jxd HA.out.symm,rfl⟩)))
theorem jpf(k:Int)(w:World)(n:Nat):Calls Tryz.prog 102 #[.int .i64 k] (w.drewN n) fun e w'=>e = .returned (.int .i64 (arI k))/\∃ m,w'=w.drewN m :=
  (jib k _).mono fun _ _ ⟨h1,h2⟩=>⟨h1,n,h2.symm⟩
theorem jya(n:Nat)(k:Int)(A:Option Addr)(c:Nat)(l:List Sc):isT (n+1) (Sc.mk k A c l).er=(decide ((l.length:Int)=arI k) && l.all fun x=>isT n x.er):=by
 rw[isT,er_ins,er_k];simp only[Sc.ins,Sc.k,List.length_map,List.all_map];rfl
theorem jqq{p:Sc->Bool}{l:List Sc}{k:Nat}{x:Sc}(h0:(l.take k).all p=true)(hx:l[k]?=some x)(h:p x=true):(l.take (k+1)).all p=true:=by
 obtain⟨hk,he⟩:=List.getElem?_eq_some_iff.1 hx;rw[List.take_succ_eq_append_getElem hk,he,List.all_append,h0];simp[h]
theorem all_miss{p:Sc->Bool}{l:List Sc}{k:Nat}{x:Sc}(hx:l[k]?=some x)(h:p x=false):l.all p=false:=by
 rw[List.all_eq_false];exact⟨x,List.mem_of_getElem? hx,by simp[h]⟩
theorem jhl(n:Nat)(hn:n<=1000):∀ (N:Int) (s:Sc) (w:World),N=n->s.In w.heap.size w->Calls Tryz.prog 58 #[s.val,.int .i64 N] w (jz6 w (.bool (isT n s.er))):=by
 induction n with
 | zero=>(
 rintro N ⟨k,A,c,l⟩ w rfl -;simp only[jzh];go_enter Tryz.func58,Tryz.ntmps58;go_wp2_with fail;go_quiet (fail)
 go_wp2_with fail;go_ret;exact⟨rfl,jzq (jzf _ _) _⟩)
 | succ n ih=>(
 rintro N ⟨k0,A,c,l⟩ w hN bx;have hN0:0<N:=by omega
 have fw:N<=1000:=by omega
 have HN:Hid (N - 1=n):=by show N - 1=n;omega
 clear hN;obtain⟨hl,hlc,hc32,bu⟩:=bx.out;clear bx;have IH:=Lh (ih (by omega));have HALL:=Lh bu;clear ih bu;have hdec:decide (N<=0)=false:=decide_eq_false (by omega);simp only[jzh];rw[jya];by_cases har:(l.length:Int)=arI k0
 ·(
 rw[decide_eq_true har,Bool.true_and];go_enter Tryz.func58,Tryz.ntmps58;go_wp2_with fail;go_quiet ((go_at_call 102;exact jpf _ _ _))
 go_wp2_with fail;clear har hdec;have cw:Below w.heap.size w ((w.alloc (.cells #[.int .i64 k0,.slice A l.length c] 24)).drewN nq):=jzq (jzf _ _) _;go_loopw [5] (fun iv wr=>∃ (k:Nat),k<=l.length/\iv = .int .i64 k/\Hid ((l.take k).all (fun x=>isT n x.er)=true)/\Below w.heap.size w wr/\wr.cell? ⟨w.heap.size,1,none⟩=some (.slice A l.length c)/\w.heap.size<wr.heap.size) (fun iv _=>l.length - (intOf iv).toNat)
 case atStart=>exact⟨0,Nat.zero_le _,rfl,by simp[Hid],cw,by simp,by simp⟩
 case round=>(
 obtain⟨k,hk,rfl,h0,ar,hbox,ae⟩:=hrel;clear cw;by_cases hlt:k<l.length
 ·(
 obtain⟨b,off,rfl,hb,hc⟩:=(hl.below ar).get hlt;obtain⟨x,hx⟩:∃ x,l[k]?=some x:=⟨_,List.getElem?_eq_getElem hlt⟩
 obtain⟨cq,cB⟩:=hc k x hx;have rk:x.In wr.heap.size wr:=((HALL.out x (List.mem_of_getElem? hx)).later ar);have HX:=Lh hx;clear hx hc hl;obtain⟨xk,xA,xc,xl⟩:=x;simp only[Sc.v1,Sc.k] at cq cB;obtain⟨q,hq⟩:=exq (isT n (Sc.mk xk xA xc xl).er);have HQ:=Lh hq;go_wp2_with fail;refine (IH.out _ (.mk xk xA xc xl) wr HN.out rk).mono ?_;rintro e w' ⟨rfl,ab⟩;rw[hq];clear hq;have wC:=(ab.cell (p:=⟨w.heap.size,1,none⟩) ae).trans hbox;cases q with
 | false=>(go_wp2_with fail;go_ret;exact⟨jzi (all_miss HX.out HQ.out).symm,ar.trans (ab.mono ar.size)⟩)
 | true=>(
 go_wp2_with fail;go_roundw
 case rel=>exact⟨k+1,by omega,by go_num,jqq h0.out HX.out HQ.out,ar.trans (ab.mono ar.size),wC,ltl ae ab.size⟩
 case measure=>simp[intOf];omega))
 ·(go_wp2_with fail;go_ret;exact⟨jzi (by have:=h0.out;rw[List.take_of_length_le (by omega)] at this;exact this.symm),ar⟩)))
 ·(
 rw[decide_eq_false har,Bool.false_and];go_enter Tryz.func58,Tryz.ntmps58;go_wp2_with fail;go_quiet ((go_at_call 102;exact jpf _ _ _))
 go_wp2_with fail;go_ret;exact⟨rfl,jzq (jzf _ _) _⟩))
theorem jzk{w w':World}{o:Obj}(h:Below w.heap.size w w'):Below w.heap.size w (w'.alloc o):=h.alloc h.size o
theorem jgp:∀ (s:Sc) (w:World),s.In w.heap.size w->Calls Tryz.prog 26 #[s.val] w (jz6 w (.bool (isT 16 s.er))):=by
 rintro ⟨k0,A,c,l⟩ w bx;have jd:=Lh (bx.later (jzf w (.cells #[.int .i64 k0,.slice A l.length c] 24)));clear bx;simp only[jzh];go_enter Tryz.func26,Tryz.ntmps26;go_wp2_with fail;refine (callV (jzf w _) (jhl 16 (by decide) 16 (.mk k0 A c l) _ rfl jd.out)).mono ?_;rintro e w' ⟨rfl,hb⟩;go_wp2_with fail;go_ret;exact⟨rfl,hb⟩
end S2
end Go.Proofs.YtobggoephhjofaaGreatDoor
