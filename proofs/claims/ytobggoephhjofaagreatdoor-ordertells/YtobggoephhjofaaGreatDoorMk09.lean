/- A part. No condition. -/
import Derived.Test.YtobggoephhjofaaGreatDoorMk08
import Derived.Deep.DeepCutAuto
set_option maxRecDepth 100000
set_option maxHeartbeats 16000000
namespace Go.Proofs.YtobggoephhjofaaGreatDoor
namespace V4
open Go.RowKit Go.Shelf
open S2 (Sc jx0)
attribute [local go_sem] Oper.semAt_some
def jqy(x:Vl×Vl):Array Value:=#[.int .u64 x.1.n,.int .u64 x.1.m,x.1.s1,x.1.c1,x.1.v1,.int .u64 x.2.n,.int .u64 x.2.m,x.2.s1,x.2.c1,x.2.v1]
def jpo(x:Vl×Vl):Value := .agg (jqy x)
def jrx(x:Vl×Vl):Array Value:=#[jpo x]
def jw8(x:Vl×Vl):Prop:=x.1.vs.length<=x.2.vs.length
theorem jh7(x:Vl×Vl)(h:jw8 x):(jvk x).length=x.1.vs.length:=by unfold jw8 at h;simp[jvk];omega
theorem jlb(x:Vl×Vl)(w:World):Calls Tryz.prog 66 #[jpo x] w fun e w'=>e = .returned (.func (.func 107) #[] #[.pointer (some ⟨w.heap.size,0,none⟩)])/\w.alloc (.cells (jqy x) 105)=w':=by
 obtain⟨⟨yn,ym,yK,yL,yN,yO,yP,yQ,yR,yS,yT⟩,xn,xm,xK,xL,xN,xO,xP,xQ,xR,xS,xU⟩:=x;unfold jpo jqy;simp only[Vl.n,Vl.m,Vl.s1,Vl.c1,Vl.v1];go_enter Tryz.func66,Tryz.ntmps66;go_wp2_with fail;go_ret;exact⟨rfl,rfl⟩
theorem jla(Bt D:Nat)(x:Vl×Vl)(w:World)(h1:x.1.Inp (Bar D) w)(h2:x.2.Inp (Bar D) w)(hs:jw8 x)(hBD:Bt≠D)(fi:∀ i v,(jqy x)[i]?=some v->w.cell? ⟨Bt,i,none⟩=some v):jf8 Tryz.prog 107 #[.pointer (some ⟨Bt,0,none⟩)] jrx D (fun _=>True) (jvk x) w:=by
 intro l J Jx W hW hJ eJ hY h0;have ca:W.cell? ⟨Bt,4,none⟩=some x.1.v1:=(hW.cell (p:=⟨Bt,4,none⟩) (World.block_lt_of_cell? w _ (fi 4 _ rfl))).trans (fi 4 _ rfl);have jT:W.cell? ⟨Bt,9,none⟩=some x.2.v1:=(hW.cell (p:=⟨Bt,9,none⟩) (World.block_lt_of_cell? w _ (fi 9 _ rfl))).trans (fi 9 _ rfl);have g1:x.1.Inp (Bar D) W:=h1.kn (B:=0) (KN.of_below hW);have g2:x.2.Inp (Bar D) W:=h2.kn (B:=0) (KN.of_below hW);have HY:=Lh hY;have HJ:=Lh hJ;clear hY hJ eJ fi h1 h2 hW;have mO:=jh7 x hs;obtain⟨⟨n0,m0,sA,sc,ss,cA,cc,cs,vA,vc,vs⟩,n1,m1,sA1,sc1,ss1,cA1,cc1,cs1,vA1,vc1,us⟩:=x;simp only[Vl.v1] at ca jT;simp only[jw8,Vl.vs] at hs mO;obtain⟨wb,hnV⟩:jzt (Bar D) W vA (jzj vs)/\vs.length*88<=140737488351232:=by (
 cases g1 with
 | mk _ _ _ _ _ _ _ _ _ _ _ _ _ _ _ _ _ _ _ h9 h10 _=>exact⟨h9,h10.2.2⟩)
 obtain⟨hlU,hnU⟩:jzt (Bar D) W vA1 (jzj us)/\us.length*88<=140737488351232:=by (
 cases g2 with
 | mk _ _ _ _ _ _ _ _ _ _ _ _ _ _ _ _ _ _ _ h9 h10 _=>exact⟨h9,h10.2.2⟩)
 have HU:=Lh hlU;have HV:=Lh wb;have mu:=Lh mO;have HBt:Hid (Bt≠D):=hBD;clear g1 g2 hlU wb mO hBD;refine (callsIn_wide (n:=6)).1 (callsIn_of_wp Tryz.func107 rfl trivial ?_ rfl);simp only[Tryz.ntmps107,List.size_toArray,List.length_cons,List.length_nil,Nat.reduceAdd,Nat.reduceSub,Array.replicate_succ,Array.replicate_zero,List.push_toArray,List.append_toArray,List.nil_append,List.cons_append];gi_wp2_with fail
 gi_loopw [9] (fun iv wr=>∃ (k:Nat),k<=vs.length/\iv = .int .i64 k/\J k wr/\KN D W.heap.size W wr) (fun iv _=>vs.length - (intOf iv).toNat)
 case atStart=>exact⟨0,Nat.zero_le _,rfl,h0,KN.refl _ _ _⟩
 case round=>(
 obtain⟨k,hk,rfl,ep,cX⟩:=hrel;clear h0;by_cases hlt:k<vs.length
 ·(
 obtain⟨x,hx⟩:∃ x,vs[k]?=some x:=⟨_,List.getElem?_eq_getElem hlt⟩
 obtain⟨b,off,rfl,hb,c0,c1,c2,c3,c4⟩:=jqo HV.out hx;replace c0:=cX.cell hb c0;replace c1:=cX.cell hb c1;replace c2:=cX.cell hb c2;replace c3:=cX.cell hb c3;replace c4:=cX.cell hb c4;have cD:=World.block_lt_of_cell? wr _ c0;simp only at cD;have hlu:k<us.length:=by omega
 obtain⟨y,cN⟩:∃ y,us[k]?=some y:=⟨_,List.getElem?_eq_getElem hlu⟩
 obtain⟨b',off',rfl,ct,d0,d1,d2,d3,d4⟩:=jqo HU.out cN;replace d0:=cX.cell ct d0;replace d1:=cX.cell ct d1;replace d2:=cX.cell ct d2;replace d3:=cX.cell ct d3;replace d4:=cX.cell ct d4;have cH:=World.block_lt_of_cell? wr _ d0;simp only at cH;have e9:=cX.cell HBt.out jT;have ko:=World.block_lt_of_cell? wr _ e9;simp only at ko;have iL:(jvk (Vl.mk n0 m0 sA sc ss cA cc cs (some ⟨b,off,none⟩) vc vs,Vl.mk n1 m1 sA1 sc1 ss1 cA1 cc1 cs1 (some ⟨b',off',none⟩) vc1 us))[k]?=some (x,y):=by (unfold jvk;simp only[Vl.vs];rw[List.getElem?_zip_eq_some];exact⟨hx,cN⟩)
 have HX:=Lh iL;clear iL hx cN;have fD:Below wr.heap.size wr (wr.alloc (.cells #[.int .u64 x.n,.int .u64 x.m,x.s1,x.c1,x.v1] 30)):=(Below.refl _ wr).alloc (Nat.le_refl _) _;obtain⟨xn,xm,xK,xL,xN,xO,xP,xQ,xR,xS,xU⟩:=x;obtain⟨yn,ym,yK,yL,yN,yO,yP,yQ,yR,yS,yT⟩:=y;simp only[Vl.n,Vl.m,Vl.s1,Vl.c1,Vl.v1] at c0 c1 c2 c3 c4 d0 d1 d2 d3 d4;simp only[Vl.n,Vl.m,Vl.s1,Vl.c1,Vl.v1] at fD;have iR:Below wr.heap.size wr (wr.alloc (.cells #[.int .u64 xn,.int .u64 xm,.slice xK xN.length xL,.slice xO xQ.length xP,.slice xR xU.length xS] 30)).drew:=⟨fD.os,fD.tape,fD.output,fD.size,fD.block⟩;obtain⟨fn,tmps,assign,body,hy,hR⟩:=jqh (m':=5) (HY.out k _ _ HX.out (HJ.out _ _ _ ep (iR.mono cX.size)) (leT cX.size iR.size));unfold jrx jpo jqy at hy;simp only[Vl.n,Vl.m,Vl.s1,Vl.c1,Vl.v1] at hy;have fj:Tryz.prog.follows .mixedOrders=true:=by kernel_rfl
 have fN:=hR.mono fun e W' h=>jwf h
 clear hR;gi_wp2_with fail
 gi_region_with_o (refine fN.mono ?_;rintro e W5 ⟨r,rfl,hr⟩)
 all_goals (
   clear fN hy c0 c1 c2 c3 c4 d0 d1 d2 d3 d4 e9
   cases r with
   | true =>
     obtain⟨fJ,dD,-⟩:=hr
     have o8:KN D W.heap.size W W5:=cX.trans ((KN.of_below iR).trans dD)
     clear dD iR fD cX ep
     gi_wp2_with fail
     go_roundw
     case rel=>exact⟨k+1,by omega,by go_num,fJ,o8⟩
     case measure=>simp[intOf];omega
   | false =>
     gi_wp2_with fail
     refine bodyPost_ret (results_none rfl _ _ _) rfl ?_
     exact⟨⟨_,rfl⟩,.inr ⟨k,by rw[mu.out];exact hlt,hr.1⟩⟩))
 ·(
 gi_wp2_with fail
 go_end0
 have mP:k=vs.length:=by omega
 refine⟨⟨_,rfl⟩,.inl ?_⟩;rw[mu.out];exact mP▸ep))
end V4
namespace S2
open Go.RowKit
def lv3(q:Bool):Int:=if q then 3 else 1
theorem jy1(s:Sc)(w:World):Calls Tryz.prog 55 #[s.val] w (jz6 w s.v1):=by
 obtain⟨k0,A,c,l⟩:=s;simp only[jzh];go_enter Tryz.func55,Tryz.ntmps55;go_wp2_with fail;go_ret;exact⟨rfl,jzf _ _⟩
def jml(s:Sc):Bool:=decide ((s.ins.length:Int)=arI s.k)
theorem jd9(n:Nat)(m:Int):((n:Int) == m)=decide ((n:Int)=m):=by
 by_cases h:(n:Int)=m <;> simp[h]
theorem joi(s:Sc)(w:World):Calls Tryz.prog 56 #[s.val] w (jz6 w (.bool (jml s))):=by
 obtain⟨k,A,c,l⟩:=s;simp only[jzh];by_cases h0:k=1\/k=2\/k=3\/k=6\/k=7
 ·(
 rcases h0 with rfl | rfl | rfl | rfl | rfl
 all_goals
   go_enter Tryz.func56,Tryz.ntmps56
   go_wp2_with fail
   go_ret
   exact⟨jzi (jd9 _ _),jzf _ _⟩)
 ·(
 by_cases h1:k=4\/k=8
 ·(
 rcases h1 with rfl | rfl
 all_goals
   go_enter Tryz.func56,Tryz.ntmps56
   go_wp2_with fail
   go_ret
   exact⟨jzi (jd9 _ _),jzf _ _⟩)
 ·(
 by_cases h2:k=5
 ·(subst h2;go_enter Tryz.func56,Tryz.ntmps56;go_wp2_with fail;go_ret;exact⟨jzi (jd9 _ _),jzf _ _⟩)
 ·(
 have HA:Hid (jml (.mk k A c l)=false):=by (
 show decide ((l.length:Int)=arI k)=false
 unfold arI;rw[if_neg h0,if_neg h1,if_neg h2];exact decide_eq_false (by omega))
 have e1:k≠1:=fun h=>h0 (by simp[h])
 have e2:k≠2:=fun h=>h0 (by simp[h])
 have e3:k≠3:=fun h=>h0 (by simp[h])
 have e6:k≠6:=fun h=>h0 (by simp[h])
 have e7:k≠7:=fun h=>h0 (by simp[h])
 have e4:k≠4:=fun h=>h1 (by simp[h])
 have e8:k≠8:=fun h=>h1 (by simp[h])
 clear h0 h1;go_enter Tryz.func56,Tryz.ntmps56;go_wp2_with fail;go_ret;exact⟨jzi HA.out.symm,jzf _ _⟩)))
end S2
namespace S2
open Go.RowKit
section
variable (w:World) {o:Oper} {a:Act} {K:Act->World->Prop} {Q:Exit->Act->World->Prop}
theorem jlp(s x:Operand)(t:TypeId)(ho:o.op = .call { callee := .builtin .append,args:=#[s,x],argTypes:=#[t,t] })(base:Nat)(e:TypeId)(i:TypeInfo)(z:Value)(size bytes:Nat)(ht:Tryz.prog.underlying t=some (.slice e))(hi:Tryz.prog.info? e=some i)(hz:i.zero=some z)(ge:i.size=size)(gr:i.bytes=bytes)(fS:z.cells.size=size)(ae:0<size)(v:Value)(n:Nat)(xs:List Value)(hs:a.eval s=v)(aj:w.ownsRow base e size v n xs)(ad:Addr)(m c:Nat)(news:List Value)(hx:a.eval x = .slice (some ad) m c)(hl:news.length=m*size)(fG:∀ j u,news[j]?=some u->w.cell? (ad.add j)=some u)(h1:∀ u∈news,u.oneCell'=true)(qA:n+m<=maxLen)(fc:(n+m)*bytes<=140737488355328)(b6:base<=w.heap.size)(h:∀ v' w',w'.ownsRow base e size v' (n+m) (xs++news)->w.grownBy w' v.ownBlock->(v'.ownBlock=v.ownBlock\/v'.ownBlock=some w.heap.size)->K (a.put o.dst v') w'):o.wp Tryz.prog a w K Q:=by
 obtain⟨v',w',hr,h2,h3,-,h4⟩:=run_append_own_at (P:=Tryz.prog) w base t o.type e i z size bytes ht hi hz ge gr fS ae v n xs aj ad m c news hl fG h1 qA fc b6;unfold Oper.wp execOp;simp only[ho,resolve,invoke,builtin,Sem.run_bind,Sem.run_pure,Result.andThen_ok,List.map_toArray,List.map_cons,List.map_nil,hs,hx,hr];exact h v' w' h2 h3 h4
theorem jkl{ops:Array Oper}{rest:List Oper}(jS:o.guard=none)(s x:Operand)(t:TypeId)(ho:o.op = .call { callee := .builtin .append,args:=#[s,x],argTypes:=#[t,t] })
    (base:Nat) (e:TypeId) (i:TypeInfo) (z:Value) (size bytes:Nat) (ht:Tryz.prog.underlying t=some (.slice e)) (hi:Tryz.prog.info? e=some i) (hz:i.zero=some z) (ge:i.size=size) (gr:i.bytes=bytes) (fS:z.cells.size=size) (ae:0<size)
    (v:Value) (n:Nat) (xs:List Value) (hs:a.eval s=v) (aj:w.ownsRow base e size v n xs)
    (ad:Addr) (m c:Nat) (news:List Value) (hx:a.eval x = .slice (some ad) m c) (hl:news.length=m*size) (fG:∀ j u,news[j]?=some u->w.cell? (ad.add j)=some u) (h1:∀ u∈news,u.oneCell'=true)
    (qA:n+m<=maxLen) (fc:(n+m)*bytes<=140737488355328) (b6:base<=w.heap.size)
    (h:∀ v' w',w'.ownsRow base e size v' (n+m) (xs++news)->w.grownBy w' v.ownBlock->(v'.ownBlock=v.ownBlock\/v'.ownBlock=some w.heap.size)->wpList Tryz.prog ops Q rest (a.put o.dst v') w'):wpList Tryz.prog ops Q (o :: rest) a w :=
  wpList_plain jS fun _ hK=>jlp w s x t ho base e i z size bytes ht hi hz ge gr fS ae v n xs hs aj ad m c news hx hl fG h1 qA fc b6 fun v' w' h2 h3 h4=>hK _ _ (h v' w' h2 h3 h4)
end
end S2
namespace S2
open Go.RowKit
end S2
namespace S2
open Go.RowKit
theorem jvq{X:World}{n i:Nat}{cs:Array Value}{t:TypeId}{v:Value}(h:X.heap.size=n)(hv:cs[i]?=some v):(X.alloc (.cells cs t)).cell? ⟨n,i,none⟩=some v:=by
 subst h;simp[hv]
section
variable {w wl wf:World} {x y:Sc} {PL PS:Nat->Prop} (hL:x.Inp PL wl) (hS:y.Inp PS wf) (hbf:Below w.heap.size w wf) (hlf:∀ b,b<wl.heap.size->wf.heap[b]?=wl.heap[b]?) (ae:wl.heap.size<=wf.heap.size) (hlt:w.heap.size+1<wf.heap.size)
    (hw0:wf.cell? ⟨w.heap.size+1,0,none⟩=some (.int .i64 0)) (oz:wf.cell? ⟨w.heap.size+1,1,none⟩=some (.slice none 0 0)) (hw2:wf.frozen? ⟨w.heap.size+1,0,none⟩=false) (jW:wf.frozen? ⟨w.heap.size+1,1,none⟩=false)
    (hPL:∀ b,PL b->w.heap.size+1+1<=b/\b<wl.heap.size) (hPS:∀ b,PS b->w.heap.size+1+1<=b/\b<wf.heap.size)
include hL hS hbf hlf ae hlt hw0 oz hw2 jW hPL hPS
end
end S2
end Go.Proofs.YtobggoephhjofaaGreatDoor
