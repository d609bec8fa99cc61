/- A part. No condition. -/
import Derived.Test.YtobggoephhjofaaGreatDoorMj09
import Derived.Deep.DeepCutAuto
set_option maxRecDepth 100000
set_option maxHeartbeats 16000000
namespace Go.Proofs.YtobggoephhjofaaGreatDoor
namespace S2
open Go.RowKit
end S2
namespace S2
open Go.RowKit
theorem jqo(w:World):Below w.heap.size w w.drew:=(Below.refl _ _).drew
theorem jvi{X:World}{n i:Nat}{cs:Array Value}{t:TypeId}{v:Value}(h:X.heap.size=n)(hv:cs[i]?=some v):(X.alloc (.cells cs t)).cell? ⟨n,i,none⟩=some v:=by
 subst h;simp[hv]
section
variable {w wl wf:World} {x y:Sc} {PL PS:Nat->Prop} (hL:x.Inp PL wl) (hS:y.Inp PS wf) (hbf:Below w.heap.size w wf) (hlf:∀ b,b<wl.heap.size->wf.heap[b]?=wl.heap[b]?) (hsz:wl.heap.size<=wf.heap.size) (hlt:w.heap.size+1<wf.heap.size)
    (hw0:wf.cell? ⟨w.heap.size+1,0,none⟩=some (.int .i64 0)) (hw1:wf.cell? ⟨w.heap.size+1,1,none⟩=some (.slice none 0 0)) (hw2:wf.frozen? ⟨w.heap.size+1,0,none⟩=false) (hw3:wf.frozen? ⟨w.heap.size+1,1,none⟩=false)
    (hPL:∀ b,PL b->w.heap.size+1+1<=b/\b<wl.heap.size) (hPS:∀ b,PS b->w.heap.size+1+1<=b/\b<wf.heap.size)
include hL hS hbf hlf hsz hlt hw0 hw1 hw2 hw3 hPL hPS
end
end S2
namespace S2
open Go.RowKit Go.Shelf
attribute [local go_sem] Oper.semAt_some
mutual
def jpl:Sc->Int->List (Int×Sc)
  | .mk k A c l,d=>(d,.mk k A c l) :: preL l (wrap64 (d+1))
def preL:List Sc->Int->List (Int×Sc)
  | [],_=>[]
  | x :: l,d=>jpl x d++preL l d
end
theorem jjn(a b:List Sc)(d:Int):preL (a++b) d=preL a d++preL b d:=by
 induction a with
 | nil=>rfl
 | cons x a ih=>rw[List.cons_append,preL,ih,preL,List.append_assoc]
theorem jgp{l:List Sc}{k:Nat}{x:Sc}(d:Int)(hx:l[k]?=some x):preL (l.take (k+1)) d=preL (l.take k) d++jpl x d:=by
 obtain⟨hk,he⟩:=List.getElem?_eq_some_iff.1 hx;rw[List.take_succ_eq_append_getElem hk,he,jjn,preL,preL,List.append_nil]
theorem jwg{l:List Sc}{k:Nat}{x:Sc}(d:Int)(hx:l[k]?=some x):preL l d=preL (l.take k) d++(jpl x d++preL (l.drop (k+1)) d):=by
 obtain⟨hk,he⟩:=List.getElem?_eq_some_iff.1 hx;conv=>lhs;rw[<- List.take_append_drop k l]
 rw[jjn,List.drop_eq_getElem_cons hk,he,preL]
def encD(x:Int×Sc):Array Value:=#[.int .i64 x.1,x.2.val]
structure KC (D:Nat) (W W':World):Prop where
  size:W.heap.size<=W'.heap.size
  same:∀ (b:Nat) (o:Obj),W.heap[b]?=some o->o.isCells=true->b≠D->W'.heap[b]?=some o
theorem KC.trans{D:Nat}{X Y Z:World}(h:KC D X Y)(k:KC D Y Z):KC D X Z:=⟨leT h.size k.size,fun b o h1 h2 h3=>k.same b o (h.same b o h1 h2 h3) h2 h3⟩
theorem KC.of_below{D:Nat}{W W':World}(h:Below W.heap.size W W'):KC D W W':=⟨h.size,fun b _ h1 _ _=>(h.block b (Array.getElem?_eq_some_iff.1 h1).1).trans h1⟩
theorem KC.book{D:Nat}{w:World}(W:World)(l:Nat)(o o':Obj)(_:w.heap.size<=l)(h:W.heap[l]?=some o)(ho:o.isCells=false)(_:o.isWalk=false):KC D W (W.putObj l o') :=
  ⟨by simp,fun b o2 h1 h2 _=>by
    have hne:b≠l:=fun e=>by subst e;rw[h] at h1;cases h1;rw[ho] at h2;cases h2
    rw[World.putObj_heap_other hne];exact h1⟩
theorem KC.cell{D:Nat}{W W':World}(h:KC D W W'){b o:Nat}{v:Value}(hb:b≠D)(hc:W.cell? ⟨b,o,none⟩=some v):W'.cell? ⟨b,o,none⟩=some v:=by
 obtain⟨ob,h1,h2⟩:=cells_of_cell hc;exact (World.cell?_of_block (a:=⟨b,o,none⟩) ((h.same b ob h1 h2 hb).trans h1.symm)).trans hc
theorem jxv.kc{D:Nat}{W W':World}{A:Option Addr}{l:List Sc}(h:jxv (fun b=>b≠D) W A l)(hk:KC D W W'):jxv (fun b=>b≠D) W' A l:=by
 rcases h with h | ⟨b,off,hA,hP,h⟩
 ·exact .inl h
 ·exact .inr ⟨b,off,hA,hP,fun i x hx=>⟨hk.cell hP (h i x hx).1,hk.cell hP (h i x hx).2⟩⟩
theorem Sc.Inp.kc{D:Nat}{W W':World}{s:Sc}(h:s.Inp (fun b=>b≠D) W)(hk:KC D W W'):s.Inp (fun b=>b≠D) W':=by
 induction h with
 | mk k A c l hl h1 h2 h3 _ ih=>exact .mk k A c l (hl.kc hk) h1 h2 h3 ih
theorem jql{m m':Nat}{P:Program}{l:Nat}{args:Array Value}{W:World}{R:Ending->World->Prop}(h:YieldAt Fence.wide m P l args W R):YieldAt Fence.wide m' P l args W R:=by
 obtain⟨fn,tmps,assign,body,h1,h2⟩:=h;exact⟨fn,tmps,assign,body,h1,h2.1,fun c cs _=>h2.2 c cs (room_wide _)⟩
def Went(D:Nat)(J Jx:List (Int×Sc)->World->Prop)(pre:List (Int×Sc))(zs:List (Int×Sc))(W:World)(e:Ending)(W':World):Prop :=
  (e = .returned (.bool true)/\J (pre++zs) W'/\KC D W W')\/(e = .returned (.bool false)/\∃ p,p <+: zs/\Jx (pre++p) W')
theorem jo8(l D N:Nat)(J Jx:List (Int×Sc)->World->Prop)(hJ:∀ pre W W',J pre W->Below W.heap.size W W'->J pre W')(hY:∀ pre x W1,J pre W1->pre.length<N->YieldAt Fence.wide 0 Tryz.prog l (encD x) W1 fun e W'=>(e = .returned (.bool true)/\J (pre++[x]) W'/\KC D W1 W')\/(e = .returned (.bool false)/\Jx (pre++[x]) W')):∀ (s:Sc) (n:Nat) (d:Int) (pre:List (Int×Sc)) (W:World),s.Inp (fun b=>b≠D) W->D<W.heap.size->J pre W->pre.length+(jpl s d).length<=N->CallsIn Fence.wide n Tryz.prog 101 #[s.val,.int .i64 d,.func (.func 55) #[] #[],.func (.yield l) #[] #[]] W (Went D J Jx pre (jpl s d) W):=by
 intro s;induction s using Sc.ind with
 | h k0 A c l0 ih=>(
 intro n d pre W hin hD h0 hN;have IH:=Lh ih;have HIN:=Lh hin;have HJ:=Lh hJ;have HY:=Lh hY;clear ih hin hJ hY;simp only[jzh];refine callsIn_of_wp Tryz.func101 rfl trivial ?_ rfl;simp only[Tryz.ntmps101,List.size_toArray,List.length_cons,List.length_nil,Nat.reduceAdd,Nat.reduceSub,Array.replicate_succ,Array.replicate_zero,List.push_toArray,List.append_toArray,List.nil_append,List.cons_append];have hJ1:=HJ.out pre W (W.alloc (.cells #[.int .i64 k0,.slice A l0.length c] 24)) h0 (jzf _ _);obtain⟨fn,tmps,assign,body,hy,hR⟩:=jql (m':=n - 1) (HY.out pre (d,.mk k0 A c l0) _ hJ1 (by rw[jpl] at hN;simp at hN;omega));unfold encD at hy;simp only[jzh] at hy;gi_wp2_with fail
 refine⟨fun h=>absurd h (by simp[Fence.wide]),hR.mono ?_⟩;rintro e W3 (⟨rfl,hJ3,hk3⟩ | ⟨rfl,hJx3⟩)
 ·(
 have hbne:W.heap.size≠D:=by omega
 have hb0:=hk3.cell (o:=0) hbne (by simp:_=some (.int .i64 k0));have hb1:=hk3.cell (o:=1) hbne (by simp:_=some (.slice A l0.length c));have hkW:KC D W W3:=(KC.of_below (jzf _ _)).trans hk3;clear hy hR hk3 hJ1 h0;gi_wp2_with fail
 refine⟨trivial,fun h=>absurd h (by simp[Fence.wide]),(callsIn_wide.2 (jyt (.mk k0 A c l0) W3)).mono ?_⟩;rintro e W4 ⟨rfl,hb4⟩;simp only[Sc.v1];have hJ4:=HJ.out _ _ _ hJ3 hb4;have hk4:KC D W W4:=hkW.trans (KC.of_below hb4);have hl32:l0.length*32<=140737488351232:=by (
 cases HIN.out with
 | mk _ _ _ _ _ _ _ h3 _=>exact h3)
 clear hJ3 hkW hb0 hb1 hb4;gi_wp2_with fail
 gi_loopw [20] (fun iv wr=>∃ (k:Nat),k<=l0.length/\iv = .int .i64 k/\J (pre++(d,Sc.mk k0 A c l0) :: preL (l0.take k) (wrap64 (d+1))) wr/\KC D W wr) (fun iv _=>l0.length - (intOf iv).toNat)
 case atStart=>exact⟨0,Nat.zero_le _,rfl,hJ4,hk4⟩
 case round=>(
 obtain⟨k,hk,rfl,hJr,hkr⟩:=hrel;clear hJ4 hk4;by_cases hlt:k<l0.length
 ·(
 obtain⟨hl,hall⟩:jxv (fun b=>b≠D) wr A l0/\∀ x∈l0,x.Inp (fun b=>b≠D) wr:=by (
 cases HIN.out with
 | mk _ _ _ _ h1 _ _ _ h4=>exact⟨h1.kc hkr,fun x hx=>(h4 x hx).kc hkr⟩)
 rcases hl with hl | ⟨b,off,rfl,hb,hc⟩
 ·subst hl;simp at hlt
 obtain⟨x,hx⟩:∃ x,l0[k]?=some x:=⟨_,List.getElem?_eq_getElem hlt⟩
 obtain⟨hc0,hc1⟩:=hc k x hx;have hxin:=hall x (List.mem_of_getElem? hx);have hM:=Lh (List.mem_of_getElem? hx);have HX:=Lh hx;have hNx:(pre++(d,Sc.mk k0 (some ⟨b,off,none⟩) c l0) :: preL (l0.take k) (wrap64 (d+1))).length+(jpl x (wrap64 (d+1))).length<=N:=by (
 rw[jpl,jwg (wrap64 (d+1)) hx] at hN;simp at hN ⊢
 omega)
 clear hx hc hall;have hbb:=World.block_lt_of_cell? wr _ hc0;simp only at hbb;obtain⟨xk,xA,xc,xl⟩:=x;simp only[Sc.v1,Sc.k] at hc0 hc1;have HNX:=Lh hNx;clear hNx hN;gi_wp2_with fail
 have hbr:Below wr.heap.size wr (wr.alloc (.cells #[.int .i64 xk,.slice xA xl.length xc] 24)):=jzf _ _;refine⟨trivial,fun h=>absurd h (by simp[Fence.wide]),(IH.out _ hM.out (n - 1) _ _ _ (hxin.kc (KC.of_below hbr)) (ltl (ltl hD hkr.size) hbr.size) (HJ.out _ _ _ hJr hbr) HNX.out).mono ?_⟩;rintro e W5 (⟨rfl,hJ5,hk5⟩ | ⟨rfl,p,hp,hJx5⟩)
 ·(
 have hk6:KC D W W5:=hkr.trans ((KC.of_below hbr).trans hk5);rw[List.append_assoc,List.cons_append,<- jgp (wrap64 (d+1)) HX.out] at hJ5;clear hk5 hbr hJr hkr hc0 hc1;gi_wp2_with fail
 go_roundw
 case rel=>exact⟨k+1,by omega,by go_num,hJ5,hk6⟩
 case measure=>simp[intOf];omega)
 ·(
 gi_wp2_with fail
 refine bodyPost_ret (results_tmp rfl _ _ _) rfl ?_;refine .inr ⟨rfl,(d,Sc.mk k0 (some ⟨b,off,none⟩) c l0) :: preL (l0.take k) (wrap64 (d+1))++p,?_,by rw[<- List.append_assoc];exact hJx5⟩;rw[jpl,jwg (wrap64 (d+1)) HX.out];obtain⟨r,hr⟩:=hp;exact⟨r++preL (l0.drop (k+1)) (wrap64 (d+1)),by simp[<- hr]⟩))
 ·(
 gi_wp2_with fail
 refine bodyPost_ret (results_tmp rfl _ _ _) rfl ?_;refine .inl ⟨rfl,?_,hkr⟩;rw[List.take_of_length_le (by omega)] at hJr;rw[jpl];exact hJr)))
 ·(
 gi_wp2_with fail
 refine bodyPost_ret (results_tmp rfl _ _ _) rfl ?_;refine .inr ⟨rfl,[(d,.mk k0 A c l0)],?_,hJx3⟩;rw[jpl];exact⟨preL l0 (wrap64 (d+1)),rfl⟩))
end S2
namespace S2
open Go.RowKit Go.Shelf
attribute [local go_sem] Oper.semAt_some
theorem joq(s:Sc)(w:World):Calls Tryz.prog 54 #[s.val,.func (.func 55) #[] #[]] w fun e w'=>e = .returned (.func (.func 100) #[] #[.pointer (some ⟨w.heap.size,0,none⟩),.pointer (some ⟨w.heap.size+1,0,none⟩)])/\(w.alloc (.cells #[.int .i64 s.k,s.v1] 24)).alloc (.cells #[.func (.func 55) #[] #[]] 91)=w':=by
 obtain⟨k0,A,c,l⟩:=s;simp only[jzh];go_enter Tryz.func54,Tryz.ntmps54;go_wp2_with fail;go_ret;exact⟨rfl,rfl⟩
theorem ju8(n Bt Bi D:Nat)(s:Sc)(w:World)(hin:s.Inp (fun b=>b≠D) w)(hD:D<w.heap.size)(hBt:w.cell? ⟨Bt,0,none⟩=some (.int .i64 s.k))(hBt1:w.cell? ⟨Bt,1,none⟩=some s.v1)(hBi:w.cell? ⟨Bi,0,none⟩=some (.func (.func 55) #[] #[])):SeqStopsK Fence.wide n Tryz.prog 100 #[.pointer (some ⟨Bt,0,none⟩),.pointer (some ⟨Bi,0,none⟩)] encD (KC D) (fun zs=>zs=jpl s 1) (fun pre=>pre <+: jpl s 1) (jpl s 1).length w:=by
 intro l J Jx W hW hJ hJx hY h0;have h1:=(hW.cell (p:=⟨Bt,0,none⟩) (World.block_lt_of_cell? w _ hBt)).trans hBt;have h2:=(hW.cell (p:=⟨Bt,1,none⟩) (World.block_lt_of_cell? w _ hBt1)).trans hBt1;have h3:=(hW.cell (p:=⟨Bi,0,none⟩) (World.block_lt_of_cell? w _ hBi)).trans hBi;have hinW:s.Inp (fun b=>b≠D) W:=hin.kc (KC.of_below hW);have HD:=Lh (jo8 l D (jpl s 1).length J Jx (fun pre W1 W2 hj hb=>hJ pre W1 W2 none hj ⟨hb.os,hb.tape,hb.output,hb.size,fun k hk _=>hb.block k hk⟩ (fun _ e=>by cases e))
   (fun pre x W1 hj hl=>jql (hY pre x W1 hj hl)) s (n - 1) 1 [] W hinW (ltl hD hW.size) h0 (by simp))
 clear hY hJ hJx hBt hBt1 hBi hin hinW;obtain⟨k0,A,c,l0⟩:=s;simp only[Sc.k,Sc.v1] at h1 h2;refine callsIn_of_wp Tryz.func100 rfl trivial ?_ rfl;simp only[Tryz.ntmps100,List.size_toArray,List.length_cons,List.length_nil,Nat.reduceAdd,Nat.reduceSub,Array.replicate_succ,Array.replicate_zero,List.push_toArray,List.append_toArray,List.nil_append,List.cons_append];gi_wp2_with fail
 refine⟨trivial,fun h=>absurd h (by simp[Fence.wide]),HD.out.mono ?_⟩;rintro e W5 (⟨rfl,hJ5,hk5⟩ | ⟨rfl,p,hp,hJx5⟩)
 ·(
 gi_wp2_with fail
 go_end0
 exact⟨⟨_,rfl⟩,.inl ⟨_,rfl,hJ5⟩⟩)
 ·(
 gi_wp2_with fail
 go_end0
 exact⟨⟨_,rfl⟩,.inr ⟨_,hp,hJx5⟩⟩)
end S2
namespace S2
open Go.RowKit Go.Shelf
attribute [local go_sem] Oper.semAt_some
def jg3(x:Int×Sc):Bool:=decide (x.1<=16) && jmg x.2
theorem jzx{fn:Func}{p:Tmp}{t:TypeId}(h:fn.results=#[.cell p t])(ht:t=4)(tmps:Array Value)(w:World)(g:Nat)(v:Value)(hp:tmps.getD p undef = .pointer (some ⟨g,0,none⟩))(h0:w.cell? ⟨g,0,none⟩=some v):(results fn tmps).run Tryz.prog w = .ok v w:=by
 have hp':tmps[p]?.getD undef = .pointer (some ⟨g,0,none⟩):=by simpa using hp
 subst ht;simp[results,h,hp',asAddr]
 go_simp
theorem Is_pre(s:Sc)(w:World)(hin:s.In w.heap.size w):Calls Tryz.prog 24 #[s.val] w (jqd w (.bool ((jpl s 1).all jg3))):=by
 refine (callsIn_wide (n:=6)).1 ?_;have HIN:=Lh hin;clear hin;obtain⟨k0,A,c,l⟩:=s;simp only[jzh];refine callsIn_of_wp_marks Tryz.func24 rfl trivial ?_ rfl;simp only[Tryz.ntmps24,List.size_toArray,List.length_cons,List.length_nil,Nat.reduceAdd,Nat.reduceSub,Array.replicate_succ,Array.replicate_zero,List.push_toArray,List.append_toArray,List.nil_append,List.cons_append];gi_wp2_with fail
 refine⟨trivial,(callsIn_wide.2 (joq (.mk k0 A c l) _)).mono ?_⟩;rintro e w' ⟨rfl,rfl⟩;gi_wp2_with fail
 have hB0:Below w.heap.size w ((((w.alloc (.cells #[.int .i64 k0,.slice A l.length c] 24)).alloc (.cells #[.bool false] 4)).alloc (.cells #[.int .i64 (Sc.mk k0 A c l).k,(Sc.mk k0 A c l).v1] 24)).alloc (.cells #[.func (.func 55) #[] #[]] 91)):=jzj (jzj (jzj (jzj (Below.refl _ _))));have hsz:((((w.alloc (.cells #[.int .i64 k0,.slice A l.length c] 24)).alloc (.cells #[.bool false] 4)).alloc (.cells #[.int .i64 (Sc.mk k0 A c l).k,(Sc.mk k0 A c l).v1] 24)).alloc (.cells #[.func (.func 55) #[] #[]] 91)).heap.size=w.heap.size+4:=by simp
 have bR:Boxed ((((w.alloc (.cells #[.int .i64 k0,.slice A l.length c] 24)).alloc (.cells #[.bool false] 4)).alloc (.cells #[.int .i64 (Sc.mk k0 A c l).k,(Sc.mk k0 A c l).v1] 24)).alloc (.cells #[.func (.func 55) #[] #[]] 91)) (w.heap.size+1) 4 (.bool false):=by (
 have:=Boxed.new (w.alloc (.cells #[.int .i64 k0,.slice A l.length c] 24)) 4 (.bool false);rw[World.size_alloc] at this;exact (this.alloc _).alloc _)
 have cT0:((((w.alloc (.cells #[.int .i64 k0,.slice A l.length c] 24)).alloc (.cells #[.bool false] 4)).alloc (.cells #[.int .i64 (Sc.mk k0 A c l).k,(Sc.mk k0 A c l).v1] 24)).alloc (.cells #[.func (.func 55) #[] #[]] 91)).cell? ⟨w.heap.size+1+1,0,none⟩=some (.int .i64 (Sc.mk k0 A c l).k):=(World.cell?_alloc_past _ _ _ (by simp)).trans (jvi (by simp) rfl);have cT1:((((w.alloc (.cells #[.int .i64 k0,.slice A l.length c] 24)).alloc (.cells #[.bool false] 4)).alloc (.cells #[.int .i64 (Sc.mk k0 A c l).k,(Sc.mk k0 A c l).v1] 24)).alloc (.cells #[.func (.func 55) #[] #[]] 91)).cell? ⟨w.heap.size+1+1,1,none⟩=some (Sc.mk k0 A c l).v1:=(World.cell?_alloc_past _ _ _ (by simp)).trans (jvi (by simp) rfl);have cI:((((w.alloc (.cells #[.int .i64 k0,.slice A l.length c] 24)).alloc (.cells #[.bool false] 4)).alloc (.cells #[.int .i64 (Sc.mk k0 A c l).k,(Sc.mk k0 A c l).v1] 24)).alloc (.cells #[.func (.func 55) #[] #[]] 91)).cell? ⟨w.heap.size+1+1+1,0,none⟩=some (.func (.func 55) #[] #[]):=jvi (by simp) rfl;generalize ((((w.alloc (.cells #[.int .i64 k0,.slice A l.length c] 24)).alloc (.cells #[.bool false] 4)).alloc (.cells #[.int .i64 (Sc.mk k0 A c l).k,(Sc.mk k0 A c l).v1] 24)).alloc (.cells #[.func (.func 55) #[] #[]] 91))=W0 at *;have hin0:(Sc.mk k0 A c l).Inp (fun b=>b≠w.heap.size+1) W0:=(Sc.In.keep HIN.out hB0).mono fun b hb=>by omega
 refine wpIn_rangeFunc_ownH rfl (by omega) (gf:=100) (lb:=#[.pointer (some ⟨w.heap.size+1+1,0,none⟩),.pointer (some ⟨w.heap.size+1+1+1,0,none⟩)]) rfl trivial (enters_of Tryz.func100 (by kernel_rfl) rfl)
   (ju8 5 (w.heap.size+1+1) (w.heap.size+1+1+1) (w.heap.size+1) (.mk k0 A c l) W0 hin0 (by omega) cT0 cT1 cI) KC.trans (KC.book (w:=W0)) (Below.refl _ _) (fun _=>rfl)
   (fun (pre:List (Int×Sc)) W=>(Boxed W (w.heap.size+1) 4 (.bool false)/\Below w.heap.size w W)/\pre.all jg3=true)
   (fun cd (pre:List (Int×Sc)) W=>(Boxed W (w.heap.size+1) 4 (.bool false)/\Below w.heap.size w W)/\cd = .ret/\pre.all jg3=false)
   (OwnFrom.and (OwnFrom.and (Own.from (boxed_own _ _ fun _=>_) _) (ownFrom_below (Nat.le_refl _) (by omega))) (ownFrom_pure _ _))
   (fun cd=>OwnFrom.and (OwnFrom.and (Own.from (boxed_own _ _ fun _=>_) _) (ownFrom_below (Nat.le_refl _) (by omega))) (ownFrom_pure _ _))
   ⟨⟨bR,hB0⟩,rfl⟩
   (fun x a' W=>∃ bp,a'={ tmps:=#[.agg #[.int .i64 k0,.slice A l.length c],.pointer (some ⟨w.heap.size,0,none⟩),.pointer (some ⟨w.heap.size+1,0,none⟩),.int .i64 x.1,.pointer (some ⟨bp,0,none⟩),.agg #[.int .i64 k0,.slice A l.length c],
       .func (.func 100) #[] #[.pointer (some ⟨w.heap.size+1+1,0,none⟩),.pointer (some ⟨w.heap.size+1+1+1,0,none⟩)],.int .i64 x.1,x.2.val,undef,undef,undef,undef,undef,undef,undef],defers:=[] } /\
     W.cell? ⟨bp,0,none⟩=some (.int .i64 x.2.k)/\W.cell? ⟨bp,1,none⟩=some x.2.v1)
   ?ax ?assign ?body ?done ?stop
 case ax=>(
 rintro x a' _ W W' row ⟨bp,h1,h2,h3⟩ hg hr;exact⟨bp,h1,cell_kept h2 hg (fun r e=>(hr r e).2),cell_kept h3 hg (fun r e=>(hr r e).2)⟩)
 case assign=>(
 rintro l0 pre ⟨d,⟨xk,xA,xc,xl⟩⟩ W K ⟨⟨hR,hB⟩,hp⟩ hK;unfold encD;simp only[jzh];gi_wp2
 exact hK _ _ ((KeepsOthers.alloc W _).from _) (KC.of_below (jzf _ _)) ⟨⟨hR.alloc _,jzj hB⟩,hp⟩ ⟨W.heap.size,rfl,by simp[Sc.k],by simp[Sc.v1]⟩)
 case body=>(
 rintro l0 pre ⟨d,⟨xk,xA,xc,xl⟩⟩ a' W hl0 - ⟨⟨hR,hB⟩,hp⟩ ⟨bp,rfl,hc0,hc1⟩ hlt;simp only[Sc.k,Sc.v1,jzh] at hc0 hc1 ⊢;have hcl:=hR.cell;have hcf:=hR.frozen;have HP:=Lh hp;clear hp;have hlw:w.heap.size+1<W0.heap.size:=by omega
 by_cases h16:d<=16
 ·(
 obtain⟨q,hq⟩:=exq (jmg (.mk xk xA xc xl));have HG:Hid ((pre++[(d,Sc.mk xk xA xc xl)]).all jg3=q):=by (
 show List.all _ _=q
 rw[List.all_append,HP.out];simp[jg3,h16,hq])
 have HQ:=Lh hq;have hn16:¬ 16<d:=by omega
 clear hq;gi_wp2_with fail
 refine⟨trivial,(CallsIn.inRound l0 (callsIn_wide.2 (jod (.mk xk xA xc xl) W))).mono ?_⟩;rintro e W2 ⟨rfl,hb2⟩;rw[HQ.out];have hR2:Boxed W2 (w.heap.size+1) 4 (.bool false):=(hb2.block _ hR.lt).trans hR;have hB2:=hB.trans (hb2.mono hB.size);have hcl2:=hR2.cell;have hcf2:=hR2.frozen;have hkf:KeepsFrom W0.heap.size W W2:=⟨hb2.size,fun k o _ h _=>(hb2.block k (Array.getElem?_eq_some_iff.1 h).1).trans h⟩;have hkc:KC (w.heap.size+1) W W2:=KC.of_below hb2;clear hb2 hcl hcf hc0 hc1;cases q with
 | true=>(
 gi_wp2_with fail
 exact⟨hkf,hkc,⟨hR2,hB2⟩,HG.out⟩)
 | false=>(
 gi_wp2_with fail
 exact⟨hkf.trans (KeepsFrom.of_grownBy (grownBy_setCell' _ _ _) (fun j e=>by cases e;exact hlw)),⟨hR2.set _,hB2.setCell (by simp) _⟩,rfl,HG.out⟩))
 ·(
 have HG:Hid ((pre++[(d,Sc.mk xk xA xc xl)]).all jg3=false):=by (
 show List.all _ _=false
 rw[List.all_append];simp[jg3,h16])
 have h17:16<d:=by omega
 gi_wp2_with fail
 refine⟨trivial,?_⟩;gi_wp2_with fail
 exact⟨KeepsFrom.of_grownBy (grownBy_setCell' _ _ _) (fun j e=>by cases e;exact hlw),⟨hR.set _,hB.setCell (by simp) _⟩,rfl,HG.out⟩))
 case done=>(
 rintro D zs W hD rfl ⟨⟨hR,hB⟩,hp⟩ hK;have hcl:=hR.cell;have hcf:=hR.frozen;have HP:=Lh hp;clear hp;gi_wp2
 have hne:w.heap.size+1≠D:=by omega
 have hK2:(W.setCell ⟨w.heap.size+1,0,none⟩ (.bool true)).heap[D]?=some (.deferred (some [])):=(Below.heap_setCell _ _ _ _ (Ne.symm hne)).trans hK;refine⟨by simp,.inl ⟨_,_,rfl,run_takeDeferred hK2,?_⟩⟩;refine⟨_,jzx rfl rfl _ _ (w.heap.size+1) (.bool true) rfl ((World.cell?_of_block (World.putObj_heap_other hne)).trans (hR.set (.bool true)).cell),?_⟩;rw[HP.out];exact⟨rfl,(hB.setCell (by simp) _).trans (belowK_b (w:=w) (Nat.le_refl _) _ D _ _ (by omega) hK2 rfl rfl)⟩)
 case stop=>(
 rintro D cd pre W hD hpre ⟨⟨hR,hB⟩,rfl,hp⟩ hK;have hcl:=hR.cell;have HA:Hid ((jpl (Sc.mk k0 A c l) 1).all jg3=false):=by (
 obtain⟨r,hr⟩:=hpre;show List.all _ _=false
 rw[<- hr,List.all_append,hp];rfl)
 gi_wp2
 have hne:w.heap.size+1≠D:=by omega
 refine⟨by simp,.inl ⟨_,_,rfl,run_takeDeferred hK,?_⟩⟩;refine⟨_,jzx rfl rfl _ _ (w.heap.size+1) (.bool false) rfl ((World.cell?_of_block (World.putObj_heap_other hne)).trans hcl),?_⟩;rw[HA.out];exact⟨rfl,hB.trans (belowK_b (w:=w) (Nat.le_refl _) W D _ _ (by omega) hK rfl rfl)⟩)
end S2
namespace V4
open Go.RowKit Go.Shelf
open S2 (Sc jxv jzf)
inductive jro {β:Type} (M S:β->Prop) (kids:β->List β):Nd β->Prop
  | mk (x:β) (l:List (Nd β)):M x->(S x->l.map Nd.lab=kids x)->(∀ t∈l,jro M S kids t)->jro M S kids (.mk x l)
theorem jro.mono{β:Type}{M M' S:β->Prop}{kids:β->List β}(hm:∀ x,M x->M' x){t:Nd β}(h:jro M S kids t):jro M' S kids t:=by
 induction h with
 | mk x l h1 h2 _ ih=>exact .mk x l (hm x h1) h2 ih
theorem jmt{β:Type}{y:β}:∀ {l:List (Nd β)},y∈Nd.preL l->∃ t∈l,y∈t.pre
  | [],h=>by simp[Nd.preL] at h
  | t :: l,h=>by
    rw[Nd.preL] at h
    rcases List.mem_append.1 h with h | h
    · exact⟨t,by simp,h⟩
    · obtain⟨t',h1,h2⟩:=jmt h
      exact⟨t',List.mem_cons_of_mem _ h1,h2⟩
theorem jro.all{β:Type}{M S:β->Prop}{kids:β->List β}{t:Nd β}(h:jro M S kids t):∀ x∈t.pre,M x:=by
 induction h with
 | mk x l h1 h2 _ ih=>(
 intro y hy;rw[Nd.pre] at hy;rcases List.mem_cons.1 hy with rfl | hy
 ·exact h1
 ·(
 obtain⟨t,ht,hy⟩:=jmt hy;exact ih t ht y hy))
def jc4(D:Nat)(W:World)(x:Sc×Vl):Prop:=x.1.Inp (Bar D) W/\x.2.Inp (Bar D) W
theorem jc4.kn{D B:Nat}{W W':World}(hk:KN D B W W')(x:Sc×Vl)(h:jc4 D W x):jc4 D W' x:=⟨sc_kn h.1 hk,h.2.kn hk⟩
theorem Vl.Inp.kid{P:Nat->Prop}{W:World}{x y:Vl}(h:x.Inp P W)(hy:y∈x.vs):y.Inp P W:=by
 cases h with
 | mk _ _ _ _ _ _ _ _ _ _ _ _ _ _ _ _ _ _ _ _ _ h11=>exact h11 y hy
theorem sc_at{P:Nat->Prop}{W:World}{s:Sc}(h:s.Inp P W)(i:Nat):(scAt s.ins i).Inp P W:=by
 cases h with
 | mk k A c l h1 h2 h3 h4 h5=>(
 unfold scAt;simp only[S2.Sc.ins];cases hx:l[min i (l.length - 1)]? with
 | none=>exact .mk _ _ _ _ (.inl rfl) (by simp) (by simp) (by simp) (by simp)
 | some y=>exact h5 y (List.mem_of_getElem? hx))
theorem goodT{D:Nat}{W:World}:∀ (x:Vl) (s:Sc),x.Inp (Bar D) W->s.Inp (Bar D) W->jro (jc4 D W) jwp jxc (jjl x s):=by
 intro x;induction x using Vl.ind with
 | h n m sA sc ss cA cc cs vA vc vs ih=>(
 intro s h hs;rw[jbt];refine .mk _ _ ⟨hs,h⟩ (fun _=>jcg (s,Vl.mk n m sA sc ss cA cc cs vA vc vs)) ?_;intro t ht;obtain⟨i,hi⟩:=List.getElem?_of_mem ht;rw[jkb] at hi;obtain⟨y,hy,rfl⟩:=Option.map_eq_some_iff.1 hi;have hm:=List.mem_of_getElem? hy;exact ih y hm _ (h.kid hm) (by rw[Nat.zero_add];exact sc_at hs i))
def Gives{β:Type}(g:Nat)(encs:β->Array Value)(D:Nat)(zs:List β)(w:World)(e:Ending)(w':World):Prop :=
  ∃ bt,e = .returned (.func (.func g) #[] #[.pointer (some ⟨bt,0,none⟩)])/\Below w.heap.size w w'/\jtu Tryz.prog g #[.pointer (some ⟨bt,0,none⟩)] encs D (fun _=>True) zs w'
theorem jz0{w:World}{cs:Array Value}{t:TypeId}(i:Nat)(v:Value)(h:cs[i]?=some v):(w.alloc (.cells cs t)).cell? ⟨w.heap.size,i,none⟩=some v:=by
 have:=World.alloc_heap_new w (.cells cs t);unfold World.cell?;rw[this];simpa using h
theorem jju{B:Nat}{a w:World}{o:Obj}(h:Below B a w)(hB:B<=w.heap.size):Below B a (w.alloc o):=h.alloc hB o
theorem jbg(x:Sc×Vl)(D:Nat)(w:World)(hm:jc4 D w x)(hs:jwp x):Calls Tryz.prog 38 #[jwz x] w (Gives 70 jjb D (jxc x) w):=by
 refine (jyt x w).mono ?_;rintro e w' ⟨rfl,rfl⟩;have hb:=jzf w (.cells (jzv x) 76);exact⟨_,rfl,hb,jo1 _ D x _ (jc4.kn (B:=0) (KN.of_below hb) x hm).1 (jc4.kn (B:=0) (KN.of_below hb) x hm).2 hs (fun i v h=>jz0 i v h)⟩
end V4
namespace V4
open Go.RowKit Go.Shelf
open S2 (Sc jxv jzf jzx)
open C3 (jzj)
attribute [local go_sem] Oper.semAt_some
theorem goInto_T(l D B:Nat)(zs:List (Sc×Vl))(J Jx:Nat->World->Prop)(hJ:Ab B J)(hJx:Ab B Jx)(hDB:D<B)(hY:∀ k x W1,zs[k]?=some x->J k W1->B<=W1.heap.size->YieldAt Fence.wide 0 Tryz.prog l (jjb x) W1 fun e W'=>(e = .returned (.bool true)/\J (k+1) W'/\KN D B W1 W'/\jwp x)\/(e = .returned (.bool false)/\Jx k W'/\KF B W1 W')):∀ (T:Nd (Sc×Vl)) (k0:Nat) (W:World),jro (jc4 D W) jwp jxc T->B<=W.heap.size->J k0 W->At zs k0 T.pre->Calls Tryz.prog 69 #[jwz T.lab,.func (.func 38) #[] #[],.func (.yield l) #[] #[]] W fun e W'=>(e = .returned (.bool true)/\J (k0+T.pre.length) W'/\KN D B W W')\/(e = .returned (.bool false)/\(∃ k,k<k0+T.pre.length/\Jx k W')/\KF B W W'):=by
 intro T;induction T using Nd.ind with
 | h x l0 ih=>(
 intro k0 W hg hB h0 hat;obtain⟨hmem,hkids,hall⟩:jc4 D W x/\(jwp x->l0.map Nd.lab=jxc x)/\∀ t∈l0,jro (jc4 D W) jwp jxc t:=by (
 cases hg with
 | mk _ _ h1 h2 h3=>exact⟨h1,h2,h3⟩)
 rw[Nd.pre] at hat;rw[Nd.pre];have IH:=Lh ih;have HM:=Lh (And.intro hmem (And.intro hkids hall));have HJ:=Lh hJ;have HJX:=Lh hJx;have HY:=Lh hY;have HAT:=Lh hat;clear ih hg hmem hkids hall hJ hJx hY hat;obtain⟨x0,hx0⟩:∃ x0,x0=x:=⟨_,rfl⟩
 obtain⟨⟨xk,xA,xc,xl⟩,xn,xm,xK,xL,xN,xO,xP,xQ,xR,xS,xU⟩:=x;have hbV:Below W.heap.size W ((((W.alloc (.cells #[.int .i64 xk,.slice xA xl.length xc,.int .u64 xn,.int .u64 xm,.slice xK xN.length xL,.slice xO xQ.length xP,.slice xR xU.length xS] 76)).alloc (.cells #[.func (.func 38) #[] #[]] 80)).alloc (.cells #[.func (.yield l) #[] #[]] 81)).alloc (.cells #[.bool false] 4)):=jzj (jzj (jzj (jzj (Below.refl _ _))));have hJ1:=HJ.out k0 W _ h0 (hbV.mono hB);obtain⟨fn,tmps,assign,body,hy,hR⟩:=jql (m':=5) (HY.out k0 (Sc.mk xk xA xc xl,Vl.mk xn xm xK xL xN xO xP xQ xR xS xU) _ (by have:=HAT.out 0 _ rfl;simpa using this) hJ1 (leT hB hbV.size));unfold jjb at hy;simp only[jwz,jzv,Sc.k,Sc.v1,Vl.n,Vl.m,Vl.s1,Vl.c1,Vl.v1] at hy;have hR2:=hR.mono fun e W' h=>jkf h
 clear hR h0 hJ1;simp only[Nd.lab,jwz,jzv,Sc.k,Sc.v1,Vl.n,Vl.m,Vl.s1,Vl.c1,Vl.v1];refine (callsIn_wide (n:=6)).1 (callsIn_of_wp_marks Tryz.func69 rfl trivial ?_ rfl);simp only[Tryz.ntmps69,List.size_toArray,List.length_cons,List.length_nil,Nat.reduceAdd,Nat.reduceSub,Array.replicate_succ,Array.replicate_zero,List.push_toArray,List.append_toArray,List.nil_append,List.cons_append];gi_wp2_with fail
 refine hR2.mono ?_;clear hy hR2;rintro e W3 ⟨r,rfl,hr⟩;have bR:Boxed ((((W.alloc (.cells #[.int .i64 xk,.slice xA xl.length xc,.int .u64 xn,.int .u64 xm,.slice xK xN.length xL,.slice xO xQ.length xP,.slice xR xU.length xS] 76)).alloc (.cells #[.func (.func 38) #[] #[]] 80)).alloc (.cells #[.func (.yield l) #[] #[]] 81)).alloc (.cells #[.bool false] 4)) (W.heap.size+1+1+1) 4 (.bool false):=by (
 have:=Boxed.new (((W.alloc (.cells #[.int .i64 xk,.slice xA xl.length xc,.int .u64 xn,.int .u64 xm,.slice xK xN.length xL,.slice xO xQ.length xP,.slice xR xU.length xS] 76)).alloc (.cells #[.func (.func 38) #[] #[]] 80)).alloc (.cells #[.func (.yield l) #[] #[]] 81)) 4 (.bool false);rw[World.size_alloc,World.size_alloc,World.size_alloc] at this;exact this)
 have hb1:∀ i v,(#[.int .i64 xk,.slice xA xl.length xc,.int .u64 xn,.int .u64 xm,.slice xK xN.length xL,.slice xO xQ.length xP,.slice xR xU.length xS]:Array Value)[i]?=some v->((((W.alloc (.cells #[.int .i64 xk,.slice xA xl.length xc,.int .u64 xn,.int .u64 xm,.slice xK xN.length xL,.slice xO xQ.length xP,.slice xR xU.length xS] 76)).alloc (.cells #[.func (.func 38) #[] #[]] 80)).alloc (.cells #[.func (.yield l) #[] #[]] 81)).alloc (.cells #[.bool false] 4)).cell? ⟨W.heap.size,i,none⟩=some v:=fun i v h =>
   ((show Below (W.heap.size+1) (W.alloc (.cells #[.int .i64 xk,.slice xA xl.length xc,.int .u64 xn,.int .u64 xm,.slice xK xN.length xL,.slice xO xQ.length xP,.slice xR xU.length xS] 76)) ((((W.alloc (.cells #[.int .i64 xk,.slice xA xl.length xc,.int .u64 xn,.int .u64 xm,.slice xK xN.length xL,.slice xO xQ.length xP,.slice xR xU.length xS] 76)).alloc (.cells #[.func (.func 38) #[] #[]] 80)).alloc (.cells #[.func (.yield l) #[] #[]] 81)).alloc (.cells #[.bool false] 4)) from jju (jju (jju (Below.refl _ _) (by simp)) (by simp)) (by simp)).cell (p:=⟨W.heap.size,i,none⟩) (by simp)).trans (jz0 i v h)
 have hb2:((((W.alloc (.cells #[.int .i64 xk,.slice xA xl.length xc,.int .u64 xn,.int .u64 xm,.slice xK xN.length xL,.slice xO xQ.length xP,.slice xR xU.length xS] 76)).alloc (.cells #[.func (.func 38) #[] #[]] 80)).alloc (.cells #[.func (.yield l) #[] #[]] 81)).alloc (.cells #[.bool false] 4)).cell? ⟨W.heap.size+1,0,none⟩=some (.func (.func 38) #[] #[]) :=
   ((show Below (W.heap.size+2) ((W.alloc (.cells #[.int .i64 xk,.slice xA xl.length xc,.int .u64 xn,.int .u64 xm,.slice xK xN.length xL,.slice xO xQ.length xP,.slice xR xU.length xS] 76)).alloc (.cells #[.func (.func 38) #[] #[]] 80)) ((((W.alloc (.cells #[.int .i64 xk,.slice xA xl.length xc,.int .u64 xn,.int .u64 xm,.slice xK xN.length xL,.slice xO xQ.length xP,.slice xR xU.length xS] 76)).alloc (.cells #[.func (.func 38) #[] #[]] 80)).alloc (.cells #[.func (.yield l) #[] #[]] 81)).alloc (.cells #[.bool false] 4)) from jju (jju (Below.refl _ _) (by simp)) (by simp)).cell (p:=⟨W.heap.size+1,0,none⟩) (by simp)).trans (by
     have:=jz0 (w:=(W.alloc (.cells #[.int .i64 xk,.slice xA xl.length xc,.int .u64 xn,.int .u64 xm,.slice xK xN.length xL,.slice xO xQ.length xP,.slice xR xU.length xS] 76))) (cs:=#[.func (.func 38) #[] #[]]) (t:=80) 0 _ rfl
     rw[World.size_alloc] at this;exact this)
 have hb3:((((W.alloc (.cells #[.int .i64 xk,.slice xA xl.length xc,.int .u64 xn,.int .u64 xm,.slice xK xN.length xL,.slice xO xQ.length xP,.slice xR xU.length xS] 76)).alloc (.cells #[.func (.func 38) #[] #[]] 80)).alloc (.cells #[.func (.yield l) #[] #[]] 81)).alloc (.cells #[.bool false] 4)).cell? ⟨W.heap.size+1+1,0,none⟩=some (.func (.yield l) #[] #[]) :=
   ((show Below (W.heap.size+3) (((W.alloc (.cells #[.int .i64 xk,.slice xA xl.length xc,.int .u64 xn,.int .u64 xm,.slice xK xN.length xL,.slice xO xQ.length xP,.slice xR xU.length xS] 76)).alloc (.cells #[.func (.func 38) #[] #[]] 80)).alloc (.cells #[.func (.yield l) #[] #[]] 81)) ((((W.alloc (.cells #[.int .i64 xk,.slice xA xl.length xc,.int .u64 xn,.int .u64 xm,.slice xK xN.length xL,.slice xO xQ.length xP,.slice xR xU.length xS] 76)).alloc (.cells #[.func (.func 38) #[] #[]] 80)).alloc (.cells #[.func (.yield l) #[] #[]] 81)).alloc (.cells #[.bool false] 4)) from jju (Below.refl _ _) (by simp)).cell (p:=⟨W.heap.size+1+1,0,none⟩) (by simp)).trans (by
     have:=jz0 (w:=((W.alloc (.cells #[.int .i64 xk,.slice xA xl.length xc,.int .u64 xn,.int .u64 xm,.slice xK xN.length xL,.slice xO xQ.length xP,.slice xR xU.length xS] 76)).alloc (.cells #[.func (.func 38) #[] #[]] 80))) (cs:=#[.func (.yield l) #[] #[]]) (t:=81) 0 _ rfl
     rw[World.size_alloc,World.size_alloc] at this;exact this)
 cases r with
 | false=>(
 obtain⟨hJx3,hk3⟩:=hr;have bR3:=hk3.boxed (by omega) bR;have hcl:=bR3.cell;have hcf:=bR3.frozen;gi_wp2_with fail
 refine⟨_,jzx rfl rfl _ _ (W.heap.size+1+1+1) (.bool false) rfl (bR3.set (.bool false)).cell,?_⟩;refine .inr ⟨rfl,⟨k0,by first | omega | (simp;omega) | simp,HJX.out _ _ _ hJx3 ((Below.refl _ _).setCell (by first | omega | (simp;omega) | simp) _)⟩,?_⟩;exact ((KF.of_below hbV).trans hk3).later ((Below.refl _ _).setCell (by first | omega | (simp;omega) | simp) _))
 | true=>(
 obtain⟨hJ3,hk3,hsafe⟩:=hr;have bR3:=hk3.boxed (by omega) bR;have c0:W3.cell? ⟨W.heap.size,0,none⟩=some (.int .i64 xk):=hk3.cell (by omega) (hb1 0 _ rfl);have c1:W3.cell? ⟨W.heap.size,1,none⟩=some (.slice xA xl.length xc):=hk3.cell (by omega) (hb1 1 _ rfl);have c2:W3.cell? ⟨W.heap.size,2,none⟩=some (.int .u64 xn):=hk3.cell (by omega) (hb1 2 _ rfl);have c3:W3.cell? ⟨W.heap.size,3,none⟩=some (.int .u64 xm):=hk3.cell (by omega) (hb1 3 _ rfl);have c4:W3.cell? ⟨W.heap.size,4,none⟩=some (.slice xK xN.length xL):=hk3.cell (by omega) (hb1 4 _ rfl);have c5:W3.cell? ⟨W.heap.size,5,none⟩=some (.slice xO xQ.length xP):=hk3.cell (by omega) (hb1 5 _ rfl);have c6:W3.cell? ⟨W.heap.size,6,none⟩=some (.slice xR xU.length xS):=hk3.cell (by omega) (hb1 6 _ rfl);have ce:W3.cell? ⟨W.heap.size+1,0,none⟩=some (.func (.func 38) #[] #[]):=hk3.cell (by omega) hb2;have cy:W3.cell? ⟨W.heap.size+1+1,0,none⟩=some (.func (.yield l) #[] #[]):=hk3.cell (by omega) hb3;have hkW:KN D B W W3:=(KN.of_below hbV).trans hk3;have hs3:=hk3.size;simp only[World.size_alloc] at hs3;clear hk3 bR hb1 hb2 hb3;have HG:=Lh (jbg (Sc.mk xk xA xc xl,Vl.mk xn xm xK xL xN xO xP xQ xR xS xU) D _ (jc4.kn hkW _ HM.out.1) hsafe);gi_wp2_with fail
 refine⟨trivial,(callsIn_wide.2 HG.out).mono ?_⟩;rintro e W4 ⟨bt,rfl,hb4,hseq⟩;have ce4:=(hb4.cell (p:=⟨W.heap.size+1,0,none⟩) (by simp only;omega)).trans ce;have cy4:=(hb4.cell (p:=⟨W.heap.size+1+1,0,none⟩) (by simp only;omega)).trans cy;have bR4:Boxed W4 (W.heap.size+1+1+1) 4 (.bool false):=(hb4.block _ (by omega)).trans bR3;have hkW4:KN D B W W4:=hkW.trans (KN.of_below hb4);have hJ4:=HJ.out _ _ _ hJ3 (hb4.mono (leT hB hkW.size));clear c0 c1 c2 c3 c4 c5 c6 ce cy bR3 hkW hJ3;have hs4:=hkW4.size;have hs34:=hb4.size;have hBs:B<=W4.heap.size:=leT hB hs4;have HSQ:=Lh hseq;have HKL:Hid (l0.map Nd.lab=jxc (Sc.mk xk xA xc xl,Vl.mk xn xm xK xL xN xO xP xQ xR xS xU)):=HM.out.2.1 hsafe;clear hseq hsafe hb4;gi_wp2_with fail
 refine jwf rfl (enters_of Tryz.func70 (by kernel_rfl) rfl) HSQ.out (fun _=>rfl)
   (fun k X=>(J (k0+1+(Nd.preL (l0.take k)).length) X/\KN D B W X)/\X.cell? ⟨W.heap.size+1,0,none⟩=some (.func (.func 38) #[] #[])/\X.cell? ⟨W.heap.size+1+1,0,none⟩=some (.func (.yield l) #[] #[])/\Boxed X (W.heap.size+1+1+1) 4 (.bool false))
   (fun c _ X=>c = .ret/\Boxed X (W.heap.size+1+1+1) 4 (.bool false)/\(∃ k,k<k0+(Nd.preL l0).length+1/\Jx k X)/\KF B W X)
   (fun k X Y ⟨⟨h1,h2⟩,h3,h4,h5⟩ hb=>⟨⟨HJ.out _ _ _ h1 (hb.mono hBs),h2.later (hb.mono hs4)⟩,(hb.cell (p:=⟨W.heap.size+1,0,none⟩) (by simp only;omega)).trans h3,(hb.cell (p:=⟨W.heap.size+1+1,0,none⟩) (by simp only;omega)).trans h4,(hb.block _ (by omega)).trans h5⟩)
   (fun c k X Y ⟨h1,h2,⟨k',h3,h4⟩,h5⟩ hb=>⟨h1,(hb.block _ (by omega)).trans h2,⟨k',h3,HJX.out _ _ _ h4 (hb.mono hBs)⟩,h5.later (hb.mono hs4)⟩)
   ⟨⟨by simpa[Nd.preL] using hJ4,hkW4⟩,ce4,cy4,bR4⟩
   (fun y a' X=>∃ bp,a'={ tmps:=#[.agg #[.int .i64 xk,.slice xA xl.length xc,.int .u64 xn,.int .u64 xm,.slice xK xN.length xL,.slice xO xQ.length xP,.slice xR xU.length xS],.func (.func 38) #[] #[],.func (.yield l) #[] #[],.pointer (some ⟨W.heap.size,0,none⟩),.pointer (some ⟨W.heap.size+1,0,none⟩),.pointer (some ⟨W.heap.size+1+1,0,none⟩),.pointer (some ⟨W.heap.size+1+1+1,0,none⟩),.pointer (some ⟨bp,0,none⟩),.func (.yield l) #[] #[],.agg #[.int .i64 xk,.slice xA xl.length xc,.int .u64 xn,.int .u64 xm,.slice xK xN.length xL,.slice xO xQ.length xP,.slice xR xU.length xS],.bool true,.bool false,.func (.func 38) #[] #[],.agg #[.int .i64 xk,.slice xA xl.length xc,.int .u64 xn,.int .u64 xm,.slice xK xN.length xL,.slice xO xQ.length xP,.slice xR xU.length xS],
       .func (.func 70) #[] #[.pointer (some ⟨bt,0,none⟩)],jwz y,undef,undef,undef,undef,undef],defers:=[] } /\
     ∀ i v,(jzv y)[i]?=some v->X.cell? ⟨bp,i,none⟩=some v)
   ?ax ?assign ?body ?done ?stop
 case ax=>(
 rintro y a' _ X Y row ⟨bp,h1,h2⟩ hg hr;exact⟨bp,h1,fun i v h=>cell_kept (h2 i v h) hg (fun r e=>(hr r e).2)⟩)
 case assign=>(
 intro l2 k y X K _ _ hK;obtain⟨⟨yk,yA,yc,yl⟩,yn,ym,yK,yL,yN,yO,yP,yQ,yR,yS,yT⟩:=y;unfold jjb;simp only[jwz,jzv,Sc.k,Sc.v1,Vl.n,Vl.m,Vl.s1,Vl.c1,Vl.v1];gi_wp2
 exact hK _ _ (jzf _ _) ⟨X.heap.size,rfl,fun i v h=>jz0 i v h⟩)
 case body=>(
 rintro l2 k y a' X hXs hyk ⟨⟨hJr,hkr⟩,h3,h4,h5⟩ ⟨bp,rfl,hc⟩;obtain⟨t,htk,htl⟩:∃ t,l0[k]?=some t/\t.lab=y:=by (
 rw[<- HKL.out,List.getElem?_map] at hyk;exact Option.map_eq_some_iff.1 hyk)
 have HT:=Lh (And.intro htk htl);have hat2:At zs (k0+1+(Nd.preL (l0.take k)).length) t.pre:=by (
 have h1:At zs (k0+1) (Nd.preL l0):=by (
 have h0:At zs k0 ([(Sc.mk xk xA xc xl,Vl.mk xn xm xK xL xN xO xP xQ xR xS xU)]++Nd.preL l0):=HAT.out;exact h0.right)
 rw[jwg htk] at h1;exact h1.right.left)
 have HR:=Lh (IH.out t (List.mem_of_getElem? htk) _ X ((HM.out.2.2 t (List.mem_of_getElem? htk)).mono (jc4.kn hkr)) (leT hBs hXs) hJr hat2);clear htk htl hat2 hyk;obtain⟨⟨yk,yA,yc,yl⟩,yn,ym,yK,yL,yN,yO,yP,yQ,yR,yS,yT⟩:=y;have htl:=HT.out.2;simp only[htl] at HR;simp only[jwz,jzv,Sc.k,Sc.v1,Vl.n,Vl.m,Vl.s1,Vl.c1,Vl.v1] at HR;have e0:=hc 0 _ rfl;have e1:=hc 1 _ rfl;have e2:=hc 2 _ rfl;have e3:=hc 3 _ rfl;have e4:=hc 4 _ rfl;have e5:=hc 5 _ rfl;have e6:=hc 6 _ rfl;simp only[jwz,jzv,Sc.k,Sc.v1,Vl.n,Vl.m,Vl.s1,Vl.c1,Vl.v1] at e0 e1 e2 e3 e4 e5 e6 ⊢;clear hc htl;gi_wp2_with fail
 refine⟨trivial,rfl,(CallsIn.inRound l2 (callsIn_wide.2 HR.out)).mono ?_⟩;clear HR e0 e1 e2 e3 e4 e5 e6;rintro e X5 (⟨rfl,hJ5,hk5⟩ | ⟨rfl,⟨k',hk',hJx5⟩,hkf5⟩)
 ·(
 have hJ6:J (k0+1+(Nd.preL (l0.take (k+1))).length) X5:=by (
 rw[jgp HT.out.1,List.length_append,<- Nat.add_assoc];exact hJ5)
 have g3:=hk5.cell (by omega) h3;have g4:=hk5.cell (by omega) h4;have g5:=hk5.boxed (by omega) h5;gi_wp2_with fail
 exact⟨hk5.mono hBs,⟨⟨hJ6,hkr.trans hk5⟩,g3,g4,g5⟩,trivial⟩)
 ·(
 have g5:=hkf5.boxed (by omega) h5;have hcl:=g5.cell;have hcf:=g5.frozen;have hk9:k'<k0+(Nd.preL l0).length+1:=by (
 have:=congrArg List.length (jwg HT.out.1);simp only[List.length_append] at this;omega)
 gi_wp2_with fail
 refine⟨(hkf5.mono hBs).trans (KF.set (by omega) _),rfl,g5.set _,⟨k',hk9,HJX.out _ _ _ hJx5 ((Below.refl _ _).setCell (by first | omega | (simp;omega) | simp) _)⟩,?_⟩;exact (hkr.kf.trans hkf5).later ((Below.refl _ _).setCell (by first | omega | (simp;omega) | simp) _)))
 case done=>(
 rintro E X hE ⟨⟨hJr,hkr⟩,-,-,h5⟩ hD2;have hlen:(jxc (Sc.mk xk xA xc xl,Vl.mk xn xm xK xL xN xO xP xQ xR xS xU)).length=l0.length:=by rw[<- HKL.out,List.length_map]
 rw[hlen,List.take_length] at hJr;have hcl:=h5.cell;have hcf:=h5.frozen;clear hlen;gi_wp2
 have hne:W.heap.size+1+1+1≠E:=by omega
 have hK2:(X.setCell ⟨W.heap.size+1+1+1,0,none⟩ (.bool true)).heap[E]?=some (.deferred (some [])):=(Below.heap_setCell _ _ _ _ (Ne.symm hne)).trans hD2;refine⟨by simp,.inl ⟨_,_,rfl,run_takeDeferred hK2,?_⟩⟩;refine⟨_,jzx rfl rfl _ _ (W.heap.size+1+1+1) (.bool true) rfl ((World.cell?_of_block (World.putObj_heap_other hne)).trans (h5.set (.bool true)).cell),?_⟩;have hbE:Below W.heap.size X ((X.setCell ⟨W.heap.size+1+1+1,0,none⟩ (.bool true)).putObj E (.deferred none)):=((Below.refl _ _).setCell (by first | omega | (simp;omega) | simp) _).trans ⟨rfl,rfl,rfl,by simp,fun q hq=>World.putObj_heap_other (by omega)⟩;refine .inl ⟨rfl,?_,hkr.later hbE⟩;have:=HJ.out _ _ _ hJr (hbE.mono hB);simpa[Nat.add_assoc,Nat.add_comm,Nat.add_left_comm] using this)
 case stop=>(
 rintro E c k X hE hk ⟨rfl,h5,⟨k',hk',hJx⟩,hkf⟩ hD2;have hcl:=h5.cell;gi_wp2
 have hne:W.heap.size+1+1+1≠E:=by omega
 refine⟨by simp,.inl ⟨_,_,rfl,run_takeDeferred hD2,?_⟩⟩;refine⟨_,jzx rfl rfl _ _ (W.heap.size+1+1+1) (.bool false) rfl ((World.cell?_of_block (World.putObj_heap_other hne)).trans hcl),?_⟩;have hbE:Below W.heap.size X (X.putObj E (.deferred none)):=⟨rfl,rfl,rfl,by simp,fun q hq=>World.putObj_heap_other (by omega)⟩;exact .inr ⟨rfl,⟨k',by first | omega | (simp;omega) | simp,HJX.out _ _ _ hJx (hbE.mono hB)⟩,hkf.later hbE⟩)))
theorem ju9(T:Nd (Sc×Vl))(D Bt Bi:Nat)(w:World)(hg:jro (jc4 D w) jwp jxc T)(hD:D<w.heap.size)(hBt:∀ i v,(jzv T.lab)[i]?=some v->w.cell? ⟨Bt,i,none⟩=some v)(hBi:w.cell? ⟨Bi,0,none⟩=some (.func (.func 38) #[] #[])):jtu Tryz.prog 68 #[.pointer (some ⟨Bt,0,none⟩),.pointer (some ⟨Bi,0,none⟩)] jjb D jwp T.pre w:=by
 intro l J Jx W hW hJ hJx hY h0;have HR:=Lh (goInto_T l D W.heap.size T.pre J Jx hJ hJx (ltl hD hW.size) hY T 0 W (hg.mono (jc4.kn (B:=0) (KN.of_below hW))) (Nat.le_refl _) h0 (At.all _));have hi:=(hW.cell (p:=⟨Bi,0,none⟩) (World.block_lt_of_cell? w _ hBi)).trans hBi;have hc:∀ i v,(jzv T.lab)[i]?=some v->W.cell? ⟨Bt,i,none⟩=some v:=fun i v h=>(hW.cell (p:=⟨Bt,i,none⟩) (World.block_lt_of_cell? w _ (hBt i v h))).trans (hBt i v h)
 clear hY hJ hJx hBt hBi hg;obtain⟨x,l0⟩:=T;rw[Nd.lab] at hc;simp only[Nd.lab] at HR;obtain⟨⟨yk,yA,yc,yl⟩,yn,ym,yK,yL,yN,yO,yP,yQ,yR,yS,yT⟩:=x;have e0:=hc 0 _ rfl;have e1:=hc 1 _ rfl;have e2:=hc 2 _ rfl;have e3:=hc 3 _ rfl;have e4:=hc 4 _ rfl;have e5:=hc 5 _ rfl;have e6:=hc 6 _ rfl;simp only[jwz,jzv,Sc.k,Sc.v1,Vl.n,Vl.m,Vl.s1,Vl.c1,Vl.v1] at e0 e1 e2 e3 e4 e5 e6 HR;clear hc;refine (callsIn_wide (n:=6)).1 (callsIn_of_wp Tryz.func68 rfl trivial ?_ rfl);simp only[Tryz.ntmps68,List.size_toArray,List.length_cons,List.length_nil,Nat.reduceAdd,Nat.reduceSub,Array.replicate_succ,Array.replicate_zero,List.push_toArray,List.append_toArray,List.nil_append,List.cons_append];gi_wp2_with fail
 refine⟨trivial,(callsIn_wide.2 HR.out).mono ?_⟩;rintro e W5 (⟨rfl,hJ5,hk5⟩ | ⟨rfl,⟨k,hk,hJx5⟩,-⟩)
 ·(
 gi_wp2_with fail
 go_end0
 rw[Nat.zero_add] at hJ5;exact⟨⟨_,rfl⟩,.inl hJ5⟩)
 ·(
 gi_wp2_with fail
 go_end0
 exact⟨⟨_,rfl⟩,.inr ⟨k,by omega,hJx5⟩⟩)
def jn1(T:Nd (Sc×Vl))(w:World)(e:Ending)(w':World):Prop :=
  ∃ b1 b2,e = .returned (.func (.func 68) #[] #[.pointer (some ⟨b1,0,none⟩),.pointer (some ⟨b2,0,none⟩)])/\Below w.heap.size w w' /\
    ∀ D w2,Below w'.heap.size w' w2->w.heap.size<=D->D<w2.heap.size->jtu Tryz.prog 68 #[.pointer (some ⟨b1,0,none⟩),.pointer (some ⟨b2,0,none⟩)] jjb D jwp T.pre w2
theorem jl4(T:Nd (Sc×Vl))(w:World)(hg:∀ D,w.heap.size<=D->jro (jc4 D w) jwp jxc T):Calls Tryz.prog 37 #[jwz T.lab,.func (.func 38) #[] #[]] w (jn1 T w):=by
 have hbV:Below w.heap.size w ((w.alloc (.cells (jzv T.lab) 76)).alloc (.cells #[.func (.func 38) #[] #[]] 80)):=jzj (jzj (Below.refl _ _));have HS:Hid (∀ D w2,Below ((w.alloc (.cells (jzv T.lab) 76)).alloc (.cells #[.func (.func 38) #[] #[]] 80)).heap.size ((w.alloc (.cells (jzv T.lab) 76)).alloc (.cells #[.func (.func 38) #[] #[]] 80)) w2->w.heap.size<=D->D<w2.heap.size->jtu Tryz.prog 68 #[.pointer (some ⟨w.heap.size,0,none⟩),.pointer (some ⟨w.heap.size+1,0,none⟩)] jjb D jwp T.pre w2):=by (
 intro D w2 hb2 hD hD2;refine ju9 T D _ _ _ ((hg D hD).mono (jc4.kn (B:=0) (KN.of_below (hbV.trans (hb2.mono hbV.size))))) hD2 (fun i v h=>?_) ?_
 ·exact (hb2.cell (p:=⟨w.heap.size,i,none⟩) (by simp;omega)).trans (((jju (Below.refl (w.heap.size+1) (w.alloc (.cells (jzv T.lab) 76))) (by simp)).cell (p:=⟨w.heap.size,i,none⟩) (by simp)).trans (jz0 i v h))
 ·(
 have:=jz0 (w:=w.alloc (.cells (jzv T.lab) 76)) (cs:=#[.func (.func 38) #[] #[]]) (t:=80) 0 _ rfl;rw[World.size_alloc] at this;exact (hb2.cell (p:=⟨w.heap.size+1,0,none⟩) (by simp)).trans this))
 have HB:=Lh hbV;clear hg hbV;obtain⟨x,l0⟩:=T;simp only[Nd.lab] at HS HB ⊢;obtain⟨⟨yk,yA,yc,yl⟩,yn,ym,yK,yL,yN,yO,yP,yQ,yR,yS,yT⟩:=x;simp only[jwz,jzv,Sc.k,Sc.v1,Vl.n,Vl.m,Vl.s1,Vl.c1,Vl.v1] at HS HB ⊢;go_enter Tryz.func37,Tryz.ntmps37;go_wp2_with fail;go_ret;exact⟨_,_,rfl,HB.out,HS.out⟩
end V4
namespace V4
open Go.RowKit Go.Shelf
open S2 (Sc jxv jzf jzx)
open C3 (jzj)
attribute [local go_sem] Oper.semAt_some
end V4
end Go.Proofs.YtobggoephhjofaaGreatDoor
