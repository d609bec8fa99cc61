/- A part. No condition. -/
import Derived.Test.YtobggoephhjofaaGreatDoorMj08
set_option maxRecDepth 100000
set_option maxHeartbeats 16000000
namespace Go.Proofs.YtobggoephhjofaaGreatDoor
namespace V4
open Go.RowKit Go.Shelf
open S2 (Sc jxv)
attribute [local go_sem] Oper.semAt_some
def encC(x:Ck):Array Value:=#[x.v]
theorem jd2(A:Option Addr)(c:Nat)(l:List Ck)(w:World):Calls Tryz.prog 148 #[.slice A l.length c] w fun e w'=>e = .returned (.func (.func 165) #[] #[.pointer (some ⟨w.heap.size,0,none⟩)])/\w.alloc (.cells #[.slice A l.length c] 27)=w':=by
 go_enter Tryz.func148,Tryz.ntmps148;go_wp2_with fail;go_ret;exact⟨rfl,rfl⟩
theorem jd1(Bt D:Nat)(A:Option Addr)(c:Nat)(vs:List Ck)(w:World)(hl:jzr (Bar D) w A (jzm vs))(hn:vs.length*24<=140737488351232)(hBt:w.cell? ⟨Bt,0,none⟩=some (.slice A vs.length c)):jtu Tryz.prog 165 #[.pointer (some ⟨Bt,0,none⟩)] encC D (fun _=>True) vs w:=by
 intro l J Jx W hW hJ hJx hY h0;have hB:W.cell? ⟨Bt,0,none⟩=some (.slice A vs.length c):=(hW.cell (p:=⟨Bt,0,none⟩) (World.block_lt_of_cell? w _ hBt)).trans hBt;have hlW:jzr (Bar D) W A (jzm vs):=hl.kn (B:=0) (KN.of_below hW);have HY:=Lh hY;have HL:=Lh hlW;clear hY hJ hJx hBt hl hlW hW;refine (callsIn_wide (n:=6)).1 (callsIn_of_wp Tryz.func165 rfl trivial ?_ rfl);simp only[Tryz.ntmps165,List.size_toArray,List.length_cons,List.length_nil,Nat.reduceAdd,Nat.reduceSub,Array.replicate_succ,Array.replicate_zero,List.push_toArray,List.append_toArray,List.nil_append,List.cons_append];gi_wp2_with fail
 gi_loopw [7] (fun iv wr=>∃ (k:Nat),k<=vs.length/\iv = .int .i64 k/\J k wr/\KN D W.heap.size W wr) (fun iv _=>vs.length - (intOf iv).toNat)
 case atStart=>exact⟨0,Nat.zero_le _,rfl,h0,KN.refl _ _ _⟩
 case round=>(
 obtain⟨k,hk,rfl,hJr,hkr⟩:=hrel;clear h0;by_cases hlt:k<vs.length
 ·(
 obtain⟨x,hx⟩:∃ x,vs[k]?=some x:=⟨_,List.getElem?_eq_getElem hlt⟩
 obtain⟨b,off,rfl,hb,c0⟩:=jqn HL.out hx;replace c0:=hkr.cell hb c0;have hbb:=World.block_lt_of_cell? wr _ c0;simp only at hbb;have HX:=Lh hx;clear hx;obtain⟨fn,tmps,assign,body,hy,hR⟩:=jql (m':=5) (HY.out k x _ HX.out hJr hkr.size);unfold encC at hy;obtain⟨xA,xc,xl⟩:=x;simp only[Ck.v] at hy c0;gi_wp2_with fail
 refine hR.mono ?_;clear hR hy c0;rintro e W5 (⟨rfl,hJ5,hk5,-⟩ | ⟨rfl,hJx5,-⟩)
 ·(
 have hk6:KN D W.heap.size W W5:=hkr.trans hk5;clear hk5 hkr hJr;gi_wp2_with fail
 go_roundw
 case rel=>exact⟨k+1,by omega,by go_num,hJ5,hk6⟩
 case measure=>simp[intOf];omega)
 ·(
 gi_wp2_with fail
 refine bodyPost_ret (results_none rfl _ _ _) rfl ?_;exact⟨⟨_,rfl⟩,.inr ⟨k,hlt,hJx5⟩⟩))
 ·(
 gi_wp2_with fail
 go_end0
 have hke:k=vs.length:=by omega
 exact⟨⟨_,rfl⟩,.inl (hke▸hJr)⟩))
end V4
namespace V4
open Go.RowKit Go.Shelf
open S2 (Sc jxv)
attribute [local go_sem] Oper.semAt_some
def jzv(x:Sc×Vl):Array Value:=#[.int .i64 x.1.k,x.1.v1,.int .u64 x.2.n,.int .u64 x.2.m,x.2.s1,x.2.c1,x.2.v1]
def jwz(x:Sc×Vl):Value := .agg (jzv x)
def jjb(x:Sc×Vl):Array Value:=#[jwz x]
def jwp(x:Sc×Vl):Prop:=x.2.vs=[]\/x.1.ins≠[]
theorem jkf{e:Ending}{p q:Prop}(h:(e = .returned (.bool true)/\p)\/(e = .returned (.bool false)/\q)):∃ r:Bool,e = .returned (.bool r)/\(if r then p else q):=by
 rcases h with ⟨h1,h2⟩ | ⟨h1,h2⟩
 ·exact⟨true,h1,h2⟩
 ·exact⟨false,h1,h2⟩
theorem jyt(x:Sc×Vl)(w:World):Calls Tryz.prog 38 #[jwz x] w fun e w'=>e = .returned (.func (.func 70) #[] #[.pointer (some ⟨w.heap.size,0,none⟩)])/\w.alloc (.cells (jzv x) 76)=w':=by
 obtain⟨⟨k,A,c,l⟩,xn,xm,xK,xL,xN,xO,xP,xQ,xR,xS,xU⟩:=x;unfold jwz jzv;simp only[Sc.k,Sc.v1,Vl.n,Vl.m,Vl.s1,Vl.c1,Vl.v1];go_enter Tryz.func38,Tryz.ntmps38;go_wp2_with fail;go_ret;exact⟨rfl,rfl⟩
theorem jo1(Bt D:Nat)(x:Sc×Vl)(w:World)(h1:x.1.Inp (Bar D) w)(h2:x.2.Inp (Bar D) w)(hs:jwp x)(hBt:∀ i v,(jzv x)[i]?=some v->w.cell? ⟨Bt,i,none⟩=some v):jtu Tryz.prog 70 #[.pointer (some ⟨Bt,0,none⟩)] jjb D (fun _=>True) (jxc x) w:=by
 intro l J Jx W hW hJ hJx hY h0;have hb1:W.cell? ⟨Bt,1,none⟩=some x.1.v1:=(hW.cell (p:=⟨Bt,1,none⟩) (World.block_lt_of_cell? w _ (hBt 1 _ rfl))).trans (hBt 1 _ rfl);have hb6:W.cell? ⟨Bt,6,none⟩=some x.2.v1:=(hW.cell (p:=⟨Bt,6,none⟩) (World.block_lt_of_cell? w _ (hBt 6 _ rfl))).trans (hBt 6 _ rfl);have g1:x.1.Inp (Bar D) W:=sc_kn (B:=0) h1 (KN.of_below hW);have g2:x.2.Inp (Bar D) W:=h2.kn (B:=0) (KN.of_below hW);have HY:=Lh hY;have HJ:=Lh hJ;clear hY hJ hJx hBt h1 h2 hW;obtain⟨⟨k0,A,c,ins⟩,n0,m0,sA,sc,ss,cA,cc,cs,vA,vc,vs⟩:=x;simp only[Sc.v1,Vl.v1] at hb1 hb6;obtain⟨hlS,hnS⟩:jxv (Bar D) W A ins/\ins.length*32<=140737488351232:=by (
 cases g1 with
 | mk _ _ _ _ h1 _ _ h3 _=>exact⟨h1,h3⟩)
 obtain⟨hlV,hnV⟩:jzr (Bar D) W vA (jzk vs)/\vs.length*88<=140737488351232:=by (
 cases g2 with
 | mk _ _ _ _ _ _ _ _ _ _ _ _ _ _ _ _ _ _ _ h9 h10 _=>exact⟨h9,h10.2.2⟩)
 have HS:=Lh hlS;have HV:=Lh hlV;have HSA:=Lh hs;clear g1 g2 hlS hlV hs;refine (callsIn_wide (n:=6)).1 (callsIn_of_wp Tryz.func70 rfl trivial ?_ rfl);simp only[Tryz.ntmps70,List.size_toArray,List.length_cons,List.length_nil,Nat.reduceAdd,Nat.reduceSub,Array.replicate_succ,Array.replicate_zero,List.push_toArray,List.append_toArray,List.nil_append,List.cons_append];gi_wp2_with fail
 gi_loopw [13] (fun iv wr=>∃ (k:Nat),k<=vs.length/\iv = .int .i64 k/\J k wr/\KN D W.heap.size W wr) (fun iv _=>vs.length - (intOf iv).toNat)
 case atStart=>exact⟨0,Nat.zero_le _,rfl,h0,KN.refl _ _ _⟩
 case round=>(
 obtain⟨k,hk,rfl,hJr,hkr⟩:=hrel;clear h0;by_cases hlt:k<vs.length
 ·(
 obtain⟨x,hx⟩:∃ x,vs[k]?=some x:=⟨_,List.getElem?_eq_getElem hlt⟩
 obtain⟨b,off,rfl,hb,c0,c1,c2,c3,c4⟩:=jqm HV.out hx;replace c0:=hkr.cell hb c0;replace c1:=hkr.cell hb c1;replace c2:=hkr.cell hb c2;replace c3:=hkr.cell hb c3;replace c4:=hkr.cell hb c4;have hbb:=World.block_lt_of_cell? wr _ c0;simp only at hbb;have hi0:0<ins.length:=by (
 rcases HSA.out with h | h
 ·simp only[Vl.vs] at h;subst h;simp at hlt
 ·exact List.length_pos_iff.2 h)
 obtain⟨q,hq⟩:=exq (min k (ins.length - 1));have hql:q<ins.length:=by omega
 obtain⟨y,hy0⟩:∃ y,ins[q]?=some y:=⟨_,List.getElem?_eq_getElem hql⟩
 obtain⟨b',off',rfl,hb',hc'⟩:∃ b off,A=some ⟨b,off,none⟩/\Bar D b/\∀ i x,ins[i]?=some x->W.cell? ⟨b,off+i*2,none⟩=some (.int .i64 x.k)/\W.cell? ⟨b,off+i*2+1,none⟩=some x.v1:=by (
 rcases HS.out with h | h
 ·subst h;simp at hql
 ·exact h)
 have d0:=hkr.cell hb' (hc' q y hy0).1;have d1:=hkr.cell hb' (hc' q y hy0).2;have hbb':=World.block_lt_of_cell? wr _ d0;simp only at hbb';have hkid:(jxc (Sc.mk k0 (some ⟨b',off',none⟩) c ins,Vl.mk n0 m0 sA sc ss cA cc cs (some ⟨b,off,none⟩) vc vs))[k]?=some (y,x):=by (
 rw[jv0];simp only[Vl.vs,hx,Option.map_some,Sc.ins,scAt,hq,hy0,Option.getD_some])
 have HX:=Lh hkid;clear hkid hx hc' hy0;have hbr:Below wr.heap.size wr (wr.alloc (.cells #[.int .u64 x.n,.int .u64 x.m,x.s1,x.c1,x.v1] 30)):=(Below.refl _ wr).alloc (Nat.le_refl _) _;obtain⟨xn,xm,xK,xL,xN,xO,xP,xQ,xR,xS,xU⟩:=x;obtain⟨yk,yA,yc,yl⟩:=y;simp only[Vl.n,Vl.m,Vl.s1,Vl.c1,Vl.v1,Sc.k,Sc.v1] at c0 c1 c2 c3 c4 d0 d1;simp only[Vl.n,Vl.m,Vl.s1,Vl.c1,Vl.v1] at hbr;have hbr2:Below wr.heap.size wr (wr.alloc (.cells #[.int .u64 xn,.int .u64 xm,.slice xK xN.length xL,.slice xO xQ.length xP,.slice xR xU.length xS] 30)).drew:=⟨hbr.os,hbr.tape,hbr.output,hbr.size,hbr.block⟩;obtain⟨fn,tmps,assign,body,hy,hR⟩:=jql (m':=5) (HY.out k _ _ HX.out (HJ.out _ _ _ hJr (hbr2.mono hkr.size)) (leT hkr.size hbr2.size));unfold jjb jwz jzv at hy;simp only[Sc.k,Sc.v1,Vl.n,Vl.m,Vl.s1,Vl.c1,Vl.v1] at hy;have hmn:min (k:Int) (IntKind.i64.wrap ((ins.length:Int) - 1))=(q:Int):=by (
 have:IntKind.i64.wrap ((ins.length:Int) - 1)=(ins.length:Int) - 1:=IntWalk.i64_in _ (by omega);rw[this];omega)
 clear hq;have hmx:Tryz.prog.follows .mixedOrders=true:=by kernel_rfl
 have hR2:=hR.mono fun e W' h=>jkf h
 clear hR;gi_wp2_with fail
 gi_region_with_o (refine hR2.mono ?_;rintro e W5 ⟨r,rfl,hr⟩)
 all_goals (
   clear hR2 hy c0 c1 c2 c3 c4 d0 d1
   cases r with
   | true =>
     obtain⟨hJ5,hk5,-⟩:=hr
     have hk6:KN D W.heap.size W W5:=hkr.trans ((KN.of_below hbr2).trans hk5)
     clear hk5 hbr2 hbr hkr hJr
     gi_wp2_with fail
     go_roundw
     case rel=>exact⟨k+1,by omega,by go_num,hJ5,hk6⟩
     case measure=>simp[intOf];omega
   | false =>
     gi_wp2_with fail
     refine bodyPost_ret (results_none rfl _ _ _) rfl ?_
     exact⟨⟨_,rfl⟩,.inr ⟨k,by rw[jgx];exact hlt,hr.1⟩⟩))
 ·(
 gi_wp2_with fail
 go_end0
 have hke:k=vs.length:=by omega
 refine⟨⟨_,rfl⟩,.inl ?_⟩;rw[jgx];exact hke▸hJr))
end V4
namespace V4
open Go.RowKit Go.Shelf
open S2 (Sc jxv)
attribute [local go_sem] Oper.semAt_some
end V4
namespace S2
open Go.RowKit
def lv3(q:Bool):Int:=if q then 3 else 1
theorem jyt(s:Sc)(w:World):Calls Tryz.prog 55 #[s.val] w (jqd w s.v1):=by
 obtain⟨k0,A,c,l⟩:=s;simp only[jzh];go_enter Tryz.func55,Tryz.ntmps55;go_wp2_with fail;go_ret;exact⟨rfl,jzf _ _⟩
def jmg(s:Sc):Bool:=decide ((s.ins.length:Int)=arI s.k)
theorem jdz(n:Nat)(m:Int):((n:Int) == m)=decide ((n:Int)=m):=by
 by_cases h:(n:Int)=m <;> simp[h]
theorem jod(s:Sc)(w:World):Calls Tryz.prog 56 #[s.val] w (jqd w (.bool (jmg s))):=by
 obtain⟨k,A,c,l⟩:=s;simp only[jzh];by_cases h0:k=1\/k=2\/k=3\/k=6\/k=7
 ·(
 rcases h0 with rfl | rfl | rfl | rfl | rfl
 all_goals
   go_enter Tryz.func56,Tryz.ntmps56
   go_wp2_with fail
   go_ret
   exact⟨jzi (jdz _ _),jzf _ _⟩)
 ·(
 by_cases h1:k=4\/k=8
 ·(
 rcases h1 with rfl | rfl
 all_goals
   go_enter Tryz.func56,Tryz.ntmps56
   go_wp2_with fail
   go_ret
   exact⟨jzi (jdz _ _),jzf _ _⟩)
 ·(
 by_cases h2:k=5
 ·(
 subst h2;go_enter Tryz.func56,Tryz.ntmps56;go_wp2_with fail;go_ret;exact⟨jzi (jdz _ _),jzf _ _⟩)
 ·(
 have HA:Hid (jmg (.mk k A c l)=false):=by (
 show decide ((l.length:Int)=arI k)=false
 unfold arI;rw[if_neg h0,if_neg h1,if_neg h2];exact decide_eq_false (by omega))
 have e1:k≠1:=fun h=>h0 (by simp[h])
 have e2:k≠2:=fun h=>h0 (by simp[h])
 have e3:k≠3:=fun h=>h0 (by simp[h])
 have e6:k≠6:=fun h=>h0 (by simp[h])
 have e7:k≠7:=fun h=>h0 (by simp[h])
 have e4:k≠4:=fun h=>h1 (by simp[h])
 have e8:k≠8:=fun h=>h1 (by simp[h])
 clear h0 h1;go_enter Tryz.func56,Tryz.ntmps56;go_wp2_with fail;go_ret;exact⟨jzi HA.out.symm,jzf _ _⟩)))
end S2
namespace S2
open Go.RowKit
section
variable (w:World) {o:Oper} {a:Act} {K:Act->World->Prop} {Q:Exit->Act->World->Prop}
theorem jle(s x:Operand)(t:TypeId)(ho:o.op = .call { callee := .builtin .append,args:=#[s,x],argTypes:=#[t,t] })(base:Nat)(e:TypeId)(i:TypeInfo)(z:Value)(size bytes:Nat)(ht:Tryz.prog.underlying t=some (.slice e))(hi:Tryz.prog.info? e=some i)(hz:i.zero=some z)(hsize:i.size=size)(hby:i.bytes=bytes)(hzs:z.cells.size=size)(hsz:0<size)(v:Value)(n:Nat)(xs:List Value)(hs:a.eval s=v)(hown:w.ownsRow base e size v n xs)(ad:Addr)(m c:Nat)(news:List Value)(hx:a.eval x = .slice (some ad) m c)(hl:news.length=m*size)(hnews:∀ j u,news[j]?=some u->w.cell? (ad.add j)=some u)(h1:∀ u∈news,u.oneCell'=true)(h63:n+m<=maxLen)(hbytes:(n+m)*bytes<=140737488355328)(hbase:base<=w.heap.size)(h:∀ v' w',w'.ownsRow base e size v' (n+m) (xs++news)->w.grownBy w' v.ownBlock->(v'.ownBlock=v.ownBlock\/v'.ownBlock=some w.heap.size)->K (a.put o.dst v') w'):o.wp Tryz.prog a w K Q:=by
 obtain⟨v',w',hr,h2,h3,-,h4⟩:=run_append_own_at (P:=Tryz.prog) w base t o.type e i z size bytes ht hi hz hsize hby hzs hsz v n xs hown ad m c news hl hnews h1 h63 hbytes hbase;unfold Oper.wp execOp;simp only[ho,resolve,invoke,builtin,Sem.run_bind,Sem.run_pure,Result.andThen_ok,List.map_toArray,List.map_cons,List.map_nil,hs,hx,hr];exact h v' w' h2 h3 h4
theorem jw9{ops:Array Oper}{rest:List Oper}(hgd:o.guard=none)(s x:Operand)(t:TypeId)(ho:o.op = .call { callee := .builtin .append,args:=#[s,x],argTypes:=#[t,t] })
    (base:Nat) (e:TypeId) (i:TypeInfo) (z:Value) (size bytes:Nat) (ht:Tryz.prog.underlying t=some (.slice e)) (hi:Tryz.prog.info? e=some i) (hz:i.zero=some z) (hsize:i.size=size) (hby:i.bytes=bytes) (hzs:z.cells.size=size) (hsz:0<size)
    (v:Value) (n:Nat) (xs:List Value) (hs:a.eval s=v) (hown:w.ownsRow base e size v n xs)
    (ad:Addr) (m c:Nat) (news:List Value) (hx:a.eval x = .slice (some ad) m c) (hl:news.length=m*size) (hnews:∀ j u,news[j]?=some u->w.cell? (ad.add j)=some u) (h1:∀ u∈news,u.oneCell'=true)
    (h63:n+m<=maxLen) (hbytes:(n+m)*bytes<=140737488355328) (hbase:base<=w.heap.size)
    (h:∀ v' w',w'.ownsRow base e size v' (n+m) (xs++news)->w.grownBy w' v.ownBlock->(v'.ownBlock=v.ownBlock\/v'.ownBlock=some w.heap.size)->wpList Tryz.prog ops Q rest (a.put o.dst v') w'):wpList Tryz.prog ops Q (o :: rest) a w :=
  wpList_plain hgd fun _ hK=>jle w s x t ho base e i z size bytes ht hi hz hsize hby hzs hsz v n xs hs hown ad m c news hx hl hnews h1 h63 hbytes hbase fun v' w' h2 h3 h4=>hK _ _ (h v' w' h2 h3 h4)
end
end S2
namespace S2
open Go.RowKit
end S2
end Go.Proofs.YtobggoephhjofaaGreatDoor
