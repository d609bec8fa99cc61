/- A part. No condition. -/
import Derived.Test.YtobggoephhjofaaGreatDoorMk12
set_option maxRecDepth 100000
set_option maxHeartbeats 16000000
namespace Go.Proofs.YtobggoephhjofaaGreatDoor
namespace V4
open Go.RowKit
open C3 (Tk In jjd jxz jjb jjc jj1 jzk jzf)
theorem jyz(x:Int)(w:World):Calls Tryz.prog 154 #[.int .u64 x] w fun e w'=>e = .returned (.bool false)/\w=w':=by
 go_enter Tryz.func154,Tryz.ntmps154;go_wp2
 go_ret;exact⟨rfl,rfl⟩
theorem jxr(x y:Int)(w:World):Calls Tryz.prog 123 #[.int .u64 x,.int .u64 y] w fun e w'=>e = .returned (.int .i64 (jjd x y))/\w=w':=by
 rcases Int.lt_trichotomy x y with h | h | h
 ·(
 rw[jxz h];go_enter Tryz.func123,Tryz.ntmps123;go_wp2_with (go_at_call 154;refine (jyz _ _).mono ?_;rintro e w' ⟨rfl,rfl⟩)
 go_ret;exact⟨rfl,rfl⟩)
 ·(
 subst h;rw[jjc];go_enter Tryz.func123,Tryz.ntmps123;go_wp2_with (go_at_call 154;refine (jyz _ _).mono ?_;rintro e w' ⟨rfl,rfl⟩)
 go_ret;exact⟨rfl,rfl⟩)
 ·(
 rw[jjb h];have h1:¬ x<y:=by omega
 go_enter Tryz.func123,Tryz.ntmps123;go_wp2_with (go_at_call 154;refine (jyz _ _).mono ?_;rintro e w' ⟨rfl,rfl⟩)
 go_ret;exact⟨rfl,rfl⟩)
def orI(x y:Int):Int:=if x=0 then y else x
theorem jhp(b:Nat)(x y:Int)(w:World)(h0:w.cell? ⟨b,0,none⟩=some (.int .i64 x))(h1:w.cell? ⟨b,1,none⟩=some (.int .i64 y)):Calls Tryz.prog 122 #[.slice (some ⟨b,0,none⟩) 2 2] w fun e w'=>e = .returned (.int .i64 (orI x y))/\w=w':=by
 go_enter Tryz.func122,Tryz.ntmps122;go_wp2_with fail;go_loopw [8] (fun iv wr=>∃ k:Nat,k<=2/\iv = .int .i64 k/\wr=w/\Hid (1<=k->x=0)/\Hid (2<=k->y=0)) (fun iv _=>2 - (intOf iv).toNat)
 case atStart=>exact⟨0,Nat.zero_le _,rfl,rfl,fun h=>by omega,fun h=>by omega⟩
 case round=>(
 obtain⟨k,hk,rfl,rfl,g0,g1⟩:=hrel;rcases (by omega:k=0\/k=1\/k=2) with rfl | rfl | rfl
 ·(
 by_cases hx:x=0
 ·(
 have k1:(x != 0)=false:=by simp[hx]
 go_wp2_with fail;go_roundw
 case rel=>exact⟨1,by omega,by go_num,trivial,fun _=>hx,fun h=>by omega⟩
 case measure=>simp[intOf])
 ·(
 have k1:(x != 0)=true:=by simp[hx]
 go_wp2_with fail;go_ret;exact⟨by rw[orI,if_neg hx];rfl,rfl⟩))
 ·(
 have hx:x=0:=g0.out (by omega);by_cases hy:y=0
 ·(
 have k1:(y != 0)=false:=by simp[hy]
 have HX:=Lh hx;clear hx;go_wp2_with fail;go_roundw
 case rel=>exact⟨2,by omega,by go_num,trivial,fun _=>HX.out,fun _=>hy⟩
 case measure=>simp[intOf])
 ·(
 have k1:(y != 0)=true:=by simp[hy]
 have HX:=Lh hx;clear hx;go_wp2_with fail;go_ret;exact⟨by rw[orI,if_pos HX.out];rfl,rfl⟩))
 ·(have HX:=Lh (g0.out (by omega));have HY:=Lh (g1.out (by omega));go_wp2_with fail;go_ret;exact⟨by rw[orI,if_pos HX.out,HY.out];rfl,rfl⟩))
def jx8(x y:Tk):Int:=orI (jjd x.k y.k) (jjd x.n y.n)
theorem jrq(xk xn yk yn:Int)(w:World):Calls Tryz.prog 150 #[.agg #[.int .i64 xk,.int .u64 xn],.agg #[.int .i64 yk,.int .u64 yn]] w (jz6 w (.int .i64 (jx8 ⟨xk,xn⟩ ⟨yk,yn⟩))):=by
 obtain⟨p,hp⟩:=exq (jjd xk yk);obtain⟨q,hq⟩:=exq (jjd xn yn);have HP:=Lh hp;have HQ:=Lh hq;have HR:Hid (jx8 ⟨xk,xn⟩ ⟨yk,yn⟩=orI p q):=by show jx8 _ _=_;unfold jx8;rw[<- hp,<- hq]
 clear hp hq;go_enter Tryz.func150,Tryz.ntmps150;go_wp2_with fail;have e0:((w.alloc (.cells #[.int .i64 xk,.int .u64 xn] 53)).alloc (.cells #[.int .i64 yk,.int .u64 yn] 53)).cell? ⟨w.heap.size,0,none⟩=some (.int .i64 xk):=by simp[World.cell?_alloc_past]
 have e1:((w.alloc (.cells #[.int .i64 xk,.int .u64 xn] 53)).alloc (.cells #[.int .i64 yk,.int .u64 yn] 53)).cell? ⟨w.heap.size,1,none⟩=some (.int .u64 xn):=by simp[World.cell?_alloc_past]
 have e2:((w.alloc (.cells #[.int .i64 xk,.int .u64 xn] 53)).alloc (.cells #[.int .i64 yk,.int .u64 yn] 53)).cell? ⟨w.heap.size+1,0,none⟩=some (.int .i64 yk):=by simp
 have e3:((w.alloc (.cells #[.int .i64 xk,.int .u64 xn] 53)).alloc (.cells #[.int .i64 yk,.int .u64 yn] 53)).cell? ⟨w.heap.size+1,1,none⟩=some (.int .u64 yn):=by simp
 have cm:Below w.heap.size w ((w.alloc (.cells #[.int .i64 xk,.int .u64 xn] 53)).alloc (.cells #[.int .i64 yk,.int .u64 yn] 53)):=jzk (jzk (Below.refl _ _));have ae:w.heap.size+2<=((w.alloc (.cells #[.int .i64 xk,.int .u64 xn] 53)).alloc (.cells #[.int .i64 yk,.int .u64 yn] 53)).heap.size:=by simp
 have bz:w.heap.size<((w.alloc (.cells #[.int .i64 xk,.int .u64 xn] 53)).alloc (.cells #[.int .i64 yk,.int .u64 yn] 53)).heap.size:=by omega
 have fm:w.heap.size+1<((w.alloc (.cells #[.int .i64 xk,.int .u64 xn] 53)).alloc (.cells #[.int .i64 yk,.int .u64 yn] 53)).heap.size:=by omega
 generalize ((w.alloc (.cells #[.int .i64 xk,.int .u64 xn] 53)).alloc (.cells #[.int .i64 yk,.int .u64 yn] 53))=W0 at *;go_region_held3 (fun w'=>w'.cell? ⟨w.heap.size,0,none⟩=some (.int .i64 xk)/\w'.cell? ⟨w.heap.size,1,none⟩=some (.int .u64 xn)/\w'.cell? ⟨w.heap.size+1,0,none⟩=some (.int .i64 yk)/\w'.cell? ⟨w.heap.size+1,1,none⟩=some (.int .u64 yn))
   (first
     | with_reducible exact⟨e0,e1,e2,e3⟩
     | (refine⟨?_,?_,?_,?_⟩ <;> go_simp))
   (first
     | (go_at_call 156;refine (jj1 xk yk _).mono ?_;rintro e w4 ⟨rfl,rfl⟩;rw[HP.out])
     | (go_at_call 123;refine (jxr xn yn _).mono ?_;rintro e w4 ⟨rfl,rfl⟩;rw[HQ.out])
     | (go_at_call 122;refine (jhp _ p q _ (by simp) (by simp)).mono ?_;rintro e w4 ⟨rfl,rfl⟩))
 all_goals (
   go_wp2_with fail
   go_ret
   exact⟨by rw[HR.out];rfl,(jzk cm).drew⟩)
theorem jmh{x y:Tk}(h:x.k<y.k):jx8 x y = -1:=by unfold jx8;rw[jxz h];rfl
theorem jmi{x y:Tk}(h:y.k<x.k):jx8 x y=1:=by unfold jx8;rw[jjb h];rfl
theorem jdi{x y:Tk}(h:x.k=y.k):jx8 x y=jjd x.n y.n:=by unfold jx8;rw[h,jjc];rfl
theorem tickI_ne{x y:Tk}{a b:List Tk}{i:Nat}(hx:a[i]?=some x)(hy:b[i]?=some y)(h:jx8 x y≠0):decide (0<=jx8 x y)=!jz2 (a.drop i) (b.drop i):=by
 rw[jvu hx hy];rcases Int.lt_trichotomy x.k y.k with hk | hk | hk
 ·(
 have h1:¬ x.k=y.k:=by omega
 rw[jmh hk,if_neg h1,decide_eq_true hk];rfl)
 ·(
 rw[jdi hk] at h ⊢;rw[if_pos hk];rcases Int.lt_trichotomy x.n y.n with hn | hn | hn
 ·(
 have h1:¬ x.n=y.n:=by omega
 rw[jxz hn,if_neg h1,decide_eq_true hn];rfl)
 ·exact absurd (by rw[hn,jjc]) h
 ·(
 have h1:¬ x.n=y.n:=by omega
 have h2:¬ x.n<y.n:=by omega
 rw[jjb hn,if_neg h1,decide_eq_false h2];rfl))
 ·(
 have h1:¬ x.k=y.k:=by omega
 have h2:¬ x.k<y.k:=by omega
 rw[jmi hk,if_neg h1,decide_eq_false h2];rfl)
theorem tickI_eq{x y:Tk}{a b:List Tk}{i:Nat}(hx:a[i]?=some x)(hy:b[i]?=some y)(h:jx8 x y=0):jz2 (a.drop i) (b.drop i)=jz2 (a.drop (i+1)) (b.drop (i+1)):=by
 rw[jvu hx hy];rcases Int.lt_trichotomy x.k y.k with hk | hk | hk
 ·rw[jmh hk] at h;omega
 ·(
 rw[jdi hk] at h;rw[if_pos hk];rcases Int.lt_trichotomy x.n y.n with hn | hn | hn
 ·rw[jxz hn] at h;omega
 ·rw[if_pos hn]
 ·rw[jjb hn] at h;omega)
 ·rw[jmi hk] at h;omega
theorem jg8(A A':Option Addr)(c c':Nat)(l l':List Tk)(w:World)(h:In w A c l)(h':In w A' c' l'):Calls Tryz.prog 132 #[.slice A l.length c,.slice A' l'.length c',.func (.func 150) #[] #[]] w (C3.juh w (!jz2 l l')):=by
 obtain⟨hl,bD,bC,-⟩:=h;obtain⟨cR,ec,da,-⟩:=h';have eI:l.length<=9223372036854775807:=by unfold maxLen at bC;omega
 have rC:l'.length<=9223372036854775807:=by unfold maxLen at da;omega
 clear bD bC ec da;go_enter Tryz.func132,Tryz.ntmps132;go_wp2_with fail;go_loopw [13] (fun iv wr=>∃ k:Nat,k<=l.length/\k<=l'.length/\iv = .int .i64 k/\Hid (jz2 l l'=jz2 (l.drop k) (l'.drop k))/\Below w.heap.size w wr) (fun iv _=>l.length - (intOf iv).toNat)
 case atStart=>exact⟨0,Nat.zero_le _,Nat.zero_le _,rfl,rfl,Below.refl _ _⟩
 case round=>(
 obtain⟨k,hk,eN,rfl,h0,ar⟩:=hrel;by_cases hlt:k<l.length
 ·(
 obtain⟨b,off,rfl,hb,hc⟩:=(hl.below ar).get hlt;obtain⟨x,hx⟩:∃ x,l[k]?=some x:=⟨_,List.getElem?_eq_getElem hlt⟩
 obtain⟨cq,cB⟩:=hc k x hx;have HX:=Lh hx;clear hx hc hl;obtain⟨xk,xn⟩:=x;dsimp only at cq cB
 by_cases cJ:k<l'.length
 ·(
 obtain⟨b',off',rfl,ct,cP⟩:=(cR.below ar).get cJ;obtain⟨y,hy⟩:∃ y,l'[k]?=some y:=⟨_,List.getElem?_eq_getElem cJ⟩
 obtain⟨fI,fM⟩:=cP k y hy;have HY:=Lh hy;clear hy cP cR;obtain⟨yk,yn⟩:=y;dsimp only at fI fM
 have cD:b<wr.heap.size:=World.block_lt_of_cell? wr _ cq;have cH:b'<wr.heap.size:=World.block_lt_of_cell? wr _ fI;have d1:¬ (l'.length<=k):=by omega
 obtain⟨q,hq⟩:=exq (jx8 ⟨xk,xn⟩ ⟨yk,yn⟩);have HQ:=Lh hq;clear hq;have f0:(wr.alloc (.cells #[.int .i64 xk,.int .u64 xn] 53)).cell? ⟨b',off'+k*2,none⟩=some (.int .i64 yk):=(World.cell?_alloc_past _ _ _ cH).trans fI;have f1:(wr.alloc (.cells #[.int .i64 xk,.int .u64 xn] 53)).cell? ⟨b',off'+k*2+1,none⟩=some (.int .u64 yn):=(World.cell?_alloc_past _ _ _ cH).trans fM;go_wp2_with fail;refine (jrq xk xn yk yn _).mono ?_;rintro e w' ⟨rfl,ab⟩;rw[HQ.out];have bj:Below w.heap.size w w':=ar.trans (((jzk (jzk (Below.refl _ _))).trans (ab.mono (by simp;omega))).mono ar.size);by_cases jY:q=0
 ·(
 have k0:(q != 0)=false:=by simp[jY]
 clear ab;go_wp2_with fail;go_roundw
 case rel=>exact⟨k+1,by omega,by omega,by go_num,by show _=_;rw[h0.out];exact tickI_eq HX.out HY.out (HQ.out.trans jY),bj⟩
 case measure=>simp[intOf];omega)
 ·(
 have k0:(q != 0)=true:=by simp[jY]
 clear ab;go_wp2_with fail;go_ret;refine⟨_,rfl,?_,bj⟩;rw[h0.out,<- tickI_ne HX.out HY.out (by rw[HQ.out];exact jY),HQ.out]))
 ·(
 have d1:l'.length<=k:=by omega
 have HNL:Hid (¬ l.length<l'.length):=by show ¬ _;omega
 go_wp2_with fail;go_ret;refine⟨_,rfl,?_,jzk ar⟩;rw[h0.out,jww (.inr d1) hk eN,decide_eq_false HNL.out];rfl))
 ·(
 by_cases rD:l.length<l'.length
 ·(go_wp2_with fail;go_ret;refine⟨_,rfl,?_,ar⟩;rw[h0.out,jww (.inl (by omega)) hk eN,decide_eq_true rD];rfl)
 ·(go_wp2_with fail;go_ret;refine⟨_,rfl,?_,ar⟩;rw[h0.out,jww (.inl (by omega)) hk eN,decide_eq_false rD];rfl)))
end V4
namespace V4
open Go.RowKit Go.Shelf
open C3 (Tk In jzk)
attribute [local go_sem] Oper.semAt_some
def jge(l:List Ck)(i:Nat):List (Ck×Ck):=match l[i]? with
  | some b=>(l.take i).map fun a=>(a,b)
  | none=>[]
def jq0(l:List Ck)(i:Nat):List (Ck×Ck):=(List.range i).flatMap (jge l)
theorem jw0(l:List Ck)(i:Nat):jq0 l (i+1)=jq0 l i++jge l i:=by unfold jq0;rw[List.range_succ,List.flatMap_append];simp
theorem jfa(l:List Ck){i m:Nat}(h:i<=m):jq0 l i <+: jq0 l m:=by
 induction m with
 | zero=>rw[show i=0 by omega];exact List.prefix_rfl
 | succ m ih=>(
 by_cases h1:i<=m
 ·rw[jw0];exact (ih h1).trans (List.prefix_append _ _)
 ·rw[show i=m+1 by omega];exact List.prefix_rfl)
theorem jyk{l:List Ck}{i:Nat}(h:i<l.length):(jge l i).length=i:=by
 unfold jge;rw[List.getElem?_eq_getElem h];simp;omega
theorem jr8{l:List Ck}{i j:Nat}{a b:Ck}(hb:l[i]?=some b)(ha:l[j]?=some a)(hj:j<i):(jq0 l l.length)[(jq0 l i).length+j]?=some (a,b):=by
 have hi:=(List.getElem?_eq_some_iff.1 hb).1;obtain⟨r,hr⟩:=jfa l (show i+1<=l.length by omega);rw[<- hr,jw0,List.append_assoc,List.getElem?_append_right (by omega),Nat.add_sub_cancel_left,List.getElem?_append_left (by rw[jyk hi];exact hj)];unfold jge;rw[hb];simp only[List.getElem?_map];rw[List.getElem?_take_of_lt hj,ha];rfl
theorem jr9{l:List Ck}{i j:Nat}(hi:i<l.length)(hj:j<i):(jq0 l i).length+j<(jq0 l l.length).length:=by
 obtain⟨r,hr⟩:=jfa l (show i+1<=l.length by omega);rw[<- hr,jw0,List.length_append,List.length_append,jyk hi];omega
def encTw(x:Ck×Ck):Array Value:=#[x.1.v,x.2.v]
theorem twos_any(A:Option Addr)(c:Nat)(l:List Ck)(w:World):Calls Tryz.prog 149 #[.slice A l.length c] w fun e w'=>e = .returned (.func (.func 166) #[] #[.pointer (some ⟨w.heap.size,0,none⟩)])/\w.alloc (.cells #[.slice A l.length c] 27)=w':=by
 go_enter Tryz.func149,Tryz.ntmps149;go_wp2_with fail;go_ret;exact⟨rfl,rfl⟩
theorem twos_seq(Bt D:Nat)(A:Option Addr)(c:Nat)(vs:List Ck)(w:World)(hl:jzt (Bar D) w A (jzl vs))(bD:vs.length<=c)(mX:c<=9223372036854775807)(hBD:Bt≠D)(fi:w.cell? ⟨Bt,0,none⟩=some (.slice A vs.length c)):jf8 Tryz.prog 166 #[.pointer (some ⟨Bt,0,none⟩)] encTw D (fun _=>True) (jq0 vs vs.length) w:=by
 intro l J Jx W hW hJ eJ hY h0;have hB:W.cell? ⟨Bt,0,none⟩=some (.slice A vs.length c):=(hW.cell (p:=⟨Bt,0,none⟩) (World.block_lt_of_cell? w _ fi)).trans fi;have wa:jzt (Bar D) W A (jzl vs):=hl.kn (B:=0) (KN.of_below hW);have HY:=Lh hY;have HL:=Lh wa;clear hY hJ eJ fi hl wa hW;refine (callsIn_wide (n:=6)).1 (callsIn_of_wp Tryz.func166 rfl trivial ?_ rfl);simp only[Tryz.ntmps166,List.size_toArray,List.length_cons,List.length_nil,Nat.reduceAdd,Nat.reduceSub,Array.replicate_succ,Array.replicate_zero,List.push_toArray,List.append_toArray,List.nil_append,List.cons_append];gi_wp2_with fail
 gi_loopw [9] (fun iv wr=>∃ (i:Nat),i<=vs.length/\iv = .int .i64 i/\J (jq0 vs i).length wr/\KN D W.heap.size W wr) (fun iv _=>vs.length - (intOf iv).toNat)
 case atStart=>exact⟨0,Nat.zero_le _,rfl,h0,KN.refl _ _ _⟩
 case round=>(
 obtain⟨i,hi,rfl,ep,cX⟩:=hrel;clear h0;by_cases hlt:i<vs.length
 ·(
 obtain⟨x,hx⟩:∃ x,vs[i]?=some x:=⟨_,List.getElem?_eq_getElem hlt⟩
 obtain⟨b,off,rfl,hb,c0⟩:=jqi HL.out hx;replace c0:=cX.cell hb c0;have cD:=World.block_lt_of_cell? wr _ c0;simp only at cD;have HX:=Lh hx;have iw:=cX.cell hBD hB;clear hx;obtain⟨xA,xc,xl⟩:=x;simp only[Ck.v] at c0;gi_wp2_with fail
 clear c0 iw;gi_loopw [18] (fun jv wj=>∃ (j:Nat),j<=i/\jv = .int .i64 j/\J ((jq0 vs i).length+j) wj/\KN D W.heap.size W wj) (fun jv _=>i - (intOf jv).toNat)
 case atStart=>exact⟨0,Nat.zero_le _,rfl,ep,cX⟩
 case round=>(
 obtain⟨j,hj,rfl,hJj,wg⟩:=hrel;clear ep cX;by_cases lN:j<i
 ·(
 obtain⟨y,cN⟩:∃ y,vs[j]?=some y:=⟨_,List.getElem?_eq_getElem (by omega)⟩
 obtain⟨b2,off2,kC,-,d0⟩:=jqi HL.out cN;cases kC
 replace d0:=wg.cell hb d0;have hbj:=World.block_lt_of_cell? _ _ d0;simp only at hbj;obtain⟨fn,tmps,assign,body,hy,hR⟩:=jqh (m':=5) (HY.out _ _ _ (jr8 HX.out cN lN) hJj wg.size);unfold encTw at hy;clear cN;obtain⟨yA,yc,yl⟩:=y;simp only[Ck.v] at hy d0;gi_wp2_with fail
 refine hR.mono ?_;clear hR hy d0;rintro e W5 (⟨rfl,fJ,dD,-⟩ | ⟨rfl,ff,-⟩)
 ·(
 have o8:KN D W.heap.size W W5:=wg.trans dD;clear dD wg hJj;gi_wp2_with fail
 go_roundw
 case rel=>exact⟨j+1,by omega,by go_num,fJ,o8⟩
 case measure=>simp[intOf];omega)
 ·(
 gi_wp2_with fail
 refine bodyPost_ret (results_none rfl _ _ _) rfl ?_;exact⟨⟨_,rfl⟩,.inr ⟨_,jr9 hlt lN,ff⟩⟩))
 ·(
 have hje:j=i:=by omega
 have t8:=hJj;rw[hje,show (jq0 vs i).length+i=(jq0 vs (i+1)).length by rw[jw0,List.length_append,jyk hlt]] at t8;clear hje hJj;gi_wp2_with fail
 go_roundw
 case rel=>exact⟨i+1,by omega,by go_num,t8,wg⟩
 case measure=>simp[intOf];omega)))
 ·(
 gi_wp2_with fail
 go_end0
 have mP:i=vs.length:=by omega
 exact⟨⟨_,rfl⟩,.inl (mP▸ep)⟩))
end V4
namespace V4
open Go.RowKit Go.Shelf
open C3 (Tk In isC Asc jxt jzk)
open S2 (jzr)
attribute [local go_sem] Oper.semAt_some
def jwv(x:Ck×Ck):Bool:=jz2 x.1.l x.2.l && decide (jxt x.1.l x.2.l=2)
def jgi(cs:List Ck):Bool:=decide (cs.length<=40) && (cs.all (fun c=>isC c.l) && (jq0 cs cs.length).all jwv)
theorem mem_twos{l:List Ck}{x:Ck×Ck}(h:x∈jq0 l l.length):x.1∈l/\x.2∈l:=by
 unfold jq0 at h;obtain⟨i,_,hi⟩:=List.mem_flatMap.1 h;unfold jge at hi;split at hi
 ·(
 rename_i b hb
 obtain⟨a,ha,rfl⟩:=List.mem_map.1 hi;exact⟨List.mem_of_mem_take ha,List.mem_of_getElem? hb⟩)
 ·cases hi
theorem jnd{l:List Tk}(h:isC l=true):Asc l/\l.length<=1000:=by
 unfold isC at h;simp at h
 exact⟨h.2.1,by omega⟩
theorem ju0(A:Option Addr)(c:Nat)(cs:List Ck)(w:World)(hl:jzt (fun b=>b<w.heap.size) w A (jzl cs))(bD:cs.length<=c)(mX:c<=maxLen)(hn:cs.length*24<=140737488351232)(ew:∀ k∈cs,InC w k):Calls Tryz.prog 116 #[.slice A cs.length c] w (jz6 w (.bool (jgi cs))):=by
 have hct:c<=9223372036854775807:=by unfold maxLen at mX;omega
 have HL:=Lh hl;have HK:=Lh ew;have HN:=Lh hn;have HC:=Lh (And.intro bD hct);clear hl ew hn mX;have bR:Boxed (w.alloc (.cells #[.bool false] 4)) w.heap.size 4 (.bool false):=Boxed.new w 4 (.bool false);have cm:Below w.heap.size w (w.alloc (.cells #[.bool false] 4)):=jzk (Below.refl _ _);refine (callsIn_wide (n:=6)).1 (callsIn_of_wp_marks Tryz.func116 rfl trivial ?_ rfl);simp only[Tryz.ntmps116,List.size_toArray,List.length_cons,List.length_nil,Nat.reduceAdd,Nat.reduceSub,Array.replicate_succ,Array.replicate_zero,List.push_toArray,List.append_toArray,List.nil_append,List.cons_append];by_cases fY:cs.length<=40
 ·(
 have k40:decide (40<(cs.length:Int))=false:=decide_eq_false (by omega);obtain⟨q,hq⟩:=exq ((cs.all fun c=>isC c.l));have HQ:=Lh hq;have HS:Hid (jgi cs=(q && (jq0 cs cs.length).all jwv)):=by show jgi cs=_;unfold jgi;rw[decide_eq_true fY,hq];rfl
 clear hq fY;gi_wp2_with fail
 refine⟨trivial,(callsIn_wide.2 (jle A c cs _)).mono ?_⟩;rintro e w1 ⟨rfl,rfl⟩;obtain⟨w1,oz⟩:=exq ((w.alloc (.cells #[.bool false] 4)).alloc (.cells #[.slice A cs.length c] 27));have uf:Below w.heap.size w w1:=by rw[<- oz];exact jzk cm
 have fm:w1.heap.size=w.heap.size+2:=by rw[<- oz];simp
 have bR1:Boxed w1 w.heap.size 4 (.bool false):=by rw[<- oz];exact bR.alloc _
 have cB1:w1.cell? ⟨w.heap.size+1,0,none⟩=some (.slice A cs.length c):=by (rw[<- oz];have:=jzs (w:=w.alloc (.cells #[.bool false] 4)) (cs:=#[.slice A cs.length c]) (t:=27) 0 _ rfl;rw[World.size_alloc] at this;exact this)
 gi_wp2_with fail
 clear oz bR cm;have HE:=Lh (jd7 (fun c=>isC c.l) cs (fun x _ W hx=>C3.jpl x.A x.c x.l W (Ck.Inp.inn hx)) (fun _=>True) (fun _ _ _=>trivial) 165 #[.pointer (some ⟨w.heap.size+1,0,none⟩)] (enters_of Tryz.func165 (by kernel_rfl) rfl) w1
   (fun D w2 hb hD eK=>jld (w.heap.size+1) D A c cs w2 ((HL.out.below (uf.trans (hb.mono uf.size))).mono fun b hb=>by unfold Bar;omega) HN.out ((hb.cell (p:=⟨w.heap.size+1,0,none⟩) (by simp only;omega)).trans cB1))
   (fun x hx=>(HK.out x hx).later uf))
 refine⟨trivial,(callsIn_wide.2 HE.out).mono ?_⟩;clear HE;rintro e w2 ⟨rfl,ab⟩;rw[HQ.out];have iw:Below w.heap.size w w2:=uf.trans (ab.mono uf.size);have de:w.heap.size+2<=w2.heap.size:=by have:=ab.size;omega
 have bR2:Boxed w2 w.heap.size 4 (.bool false):=(ab.block _ (by omega)).trans bR1;clear ab bR1 cB1 uf;cases q with
 | false=>(
 have b8:=bR2.cell;have fW:=bR2.frozen;gi_wp2_with fail
 refine⟨_,jzr rfl rfl _ _ w.heap.size (.bool false) rfl (bR2.set (.bool false)).cell,?_⟩;rw[HS.out];exact⟨rfl,iw.setCell (by simp) _⟩)
 | true=>(
 gi_wp2_with fail
 refine⟨trivial,(callsIn_wide.2 (twos_any A c cs _)).mono ?_⟩;rintro e w3 ⟨rfl,rfl⟩;obtain⟨w3,jW⟩:=exq (w2.alloc (.cells #[.slice A cs.length c] 27));have iF:Below w.heap.size w w3:=by rw[<- jW];exact jzk iw
 have vf:w.heap.size+2<w3.heap.size:=by rw[<- jW];simp;omega
 have bR3:Boxed w3 w.heap.size 4 (.bool false):=by rw[<- jW];exact bR2.alloc _
 have cB3:w3.cell? ⟨w2.heap.size,0,none⟩=some (.slice A cs.length c):=by rw[<- jW];exact jzs 0 _ rfl
 gi_wp2_with fail
 clear jW bR2 iw;have i8:=Lh (twos_seq w2.heap.size w.heap.size A c cs w3 ((HL.out.below iF).mono fun b hb=>by unfold Bar;omega) HC.out.1 HC.out.2 (by omega) cB3);refine jjf rfl (enters_of Tryz.func166 (by kernel_rfl) rfl) i8.out (fun _=>rfl)
   (fun k X=>(Boxed X w.heap.size 4 (.bool false)/\Below w.heap.size w X)/\((jq0 cs cs.length).take k).all jwv=true)
   (fun c _ X=>(Boxed X w.heap.size 4 (.bool false)/\Below w.heap.size w X)/\c = .ret/\(jq0 cs cs.length).all jwv=false)
   (fun k X Y ⟨⟨h1,h2⟩,h3⟩ hb=>⟨⟨(hb.block _ (by omega)).trans h1,h2.trans (hb.mono (by omega))⟩,h3⟩)
   (fun c k X Y ⟨⟨h1,h2⟩,h3⟩ hb=>⟨⟨(hb.block _ (by omega)).trans h1,h2.trans (hb.mono (by omega))⟩,h3⟩)
   ⟨⟨bR3,iF⟩,rfl⟩
   (fun y a' _=>a'={ tmps:=#[.slice A cs.length c,undef,.pointer (some ⟨w.heap.size,0,none⟩),y.1.v,y.2.v,.slice A cs.length c,.int .i64 cs.length,.bool false,.bool false,.slice A cs.length c,
       .func (.func 165) #[] #[.pointer (some ⟨w.heap.size+1,0,none⟩)],.bool true,.bool false,.bool false,.slice A cs.length c,.func (.func 166) #[] #[.pointer (some ⟨w2.heap.size,0,none⟩)],y.1.v,y.2.v,undef,undef,undef,undef,undef,undef,undef,undef,undef,undef],defers:=[] })
   ?ax ?assign ?body ?done ?stop
 case ax=>(rintro y a' _ X Y row h1 hg hr;exact h1)
 case assign=>(
 intro l2 k y X K _ _ hK;unfold encTw;gi_wp2
 exact hK _ _ (Below.refl _ _) rfl)
 case body=>(
 rintro l2 k y a' X nr hx ⟨⟨h1,h2⟩,h4⟩ rfl;have hm:=mem_twos (List.mem_of_getElem? hx);have HX:=Lh hx;have HP:=Lh h4;have i1:=Ck.Inp.inn ((HK.out y.1 hm.1).later h2);have i2:=Ck.Inp.inn ((HK.out y.2 hm.2).later h2);have j1:=jnd (List.all_eq_true.1 HQ.out y.1 hm.1);have j2:=jnd (List.all_eq_true.1 HQ.out y.2 hm.2);have HCF:=Lh (jg8 _ _ _ _ _ _ X i1 i2);have HCM:Hid (∀ Z,Below X.heap.size X Z->Calls Tryz.prog 136 #[.slice y.1.A y.1.l.length y.1.c,.slice y.2.A y.2.l.length y.2.c] Z (jz6 Z (.int .i64 (jxt y.1.l y.2.l)))):=fun Z hZ=>C3.jpn _ _ _ _ _ _ Z (i1.later hZ) (i2.later hZ) j1.1 j2.1 j1.2 j2.2
 clear hm hx h4 i1 i2 j1 j2;have b8:=h1.cell;have fW:=h1.frozen;obtain⟨⟨yA,yc,yl⟩,⟨zA,zc,zl⟩⟩:=y;simp only[Ck.v] at HCF HCM ⊢;obtain⟨g,hg⟩:=exq (jz2 yl zl);have HG:=Lh hg;rw[hg] at HCF;clear hg;gi_wp2_with fail
 refine⟨trivial,rfl,(CallsIn.inRound l2 (callsIn_wide.2 HCF.out)).mono ?_⟩;clear HCF;rintro e X5 ⟨i,rfl,hi,bh⟩;have jU:Below w.heap.size w X5:=h2.trans (bh.mono h2.size);have g1:Boxed X5 w.heap.size 4 (.bool false):=(bh.block _ (by omega)).trans h1;clear b8 fW;cases g with
 | false=>(
 have b8:=g1.cell;have fW:=g1.frozen;have HF:Hid ((jq0 cs cs.length).all jwv=false):=jj3 HX.out (by unfold jwv;simp only[HG.out,Bool.false_and]);have mS:decide (0<=i)=true:=hi;have hi1:0<=i:=of_decide_eq_true hi;gi_wp2_with fail
 refine⟨trivial,?_⟩;gi_wp2_with fail
 exact⟨(KF.of_below bh).trans (KF.set (by omega) _),⟨g1.set _,jU.setCell (by first | omega | (simp;omega) | simp) _⟩,rfl,HF.out⟩)
 | true=>(
 have mS:decide (0<=i)=false:=hi;have hi1:¬ 0<=i:=of_decide_eq_false hi;obtain⟨z,hz⟩:=exq (jxt yl zl);have HZ:=Lh hz;have tp:=Lh (HCM.out X5 bh);rw[hz] at tp;clear hz hi;gi_wp2_with fail
 refine⟨trivial,rfl,(CallsIn.inRound l2 (callsIn_wide.2 tp.out)).mono ?_⟩;clear HCM tp;rintro e X6 ⟨rfl,sH⟩;have pg:Below X.heap.size X X6:=bh.trans (sH.mono bh.size);have hB6:Below w.heap.size w X6:=h2.trans (pg.mono h2.size);have g6:Boxed X6 w.heap.size 4 (.bool false):=(pg.block _ (by omega)).trans h1;have b8:=g6.cell;have fW:=g6.frozen;by_cases db:z=2
 ·(
 have kz:(z != 2)=false:=by simp[db]
 have HF:Hid (((jq0 cs cs.length).take (k+1)).all jwv=true):=by (
 show List.all _ _=_
 rw[jqq HX.out,HP.out];unfold jwv;simp only[HG.out,HZ.out,db];rfl)
 gi_wp2_with fail
 exact⟨KN.of_below pg,⟨⟨g6,hB6⟩,HF.out⟩,trivial⟩)
 ·(
 have kz:(z != 2)=true:=by simp[db]
 have HF:Hid ((jq0 cs cs.length).all jwv=false):=jj3 HX.out (by unfold jwv;simp only[HG.out,HZ.out,decide_eq_false db];rfl);gi_wp2_with fail
 exact⟨(KF.of_below pg).trans (KF.set (by omega) _),⟨g6.set _,hB6.setCell (by first | omega | (simp;omega) | simp) _⟩,rfl,HF.out⟩)))
 case done=>(
 rintro E X hE ⟨⟨hR,hB⟩,hp⟩ hK;have b8:=hR.cell;have fW:=hR.frozen;rw[List.take_length] at hp;have HP:=Lh hp;clear hp;gi_wp2
 have hne:w.heap.size≠E:=by omega
 have fX:(X.setCell ⟨w.heap.size,0,none⟩ (.bool true)).heap[E]?=some (.deferred (some [])):=(Below.heap_setCell _ _ _ _ (Ne.symm hne)).trans hK;refine⟨by simp,.inl ⟨_,_,rfl,run_takeDeferred fX,?_⟩⟩;refine⟨_,jzr rfl rfl _ _ w.heap.size (.bool true) rfl ((World.cell?_of_block (World.putObj_heap_other hne)).trans (hR.set (.bool true)).cell),?_⟩;rw[HS.out,HP.out];exact⟨rfl,(hB.setCell (by first | omega | (simp;omega) | simp) _).trans ⟨rfl,rfl,rfl,by simp,fun q hq=>World.putObj_heap_other (by omega)⟩⟩)
 case stop=>(
 rintro E c k X hE hk ⟨⟨hR,hB⟩,rfl,hp⟩ hK;have b8:=hR.cell;have HP:=Lh hp;clear hp;gi_wp2
 have hne:w.heap.size≠E:=by omega
 refine⟨by simp,.inl ⟨_,_,rfl,run_takeDeferred hK,?_⟩⟩;refine⟨_,jzr rfl rfl _ _ w.heap.size (.bool false) rfl ((World.cell?_of_block (World.putObj_heap_other hne)).trans b8),?_⟩;rw[HS.out,HP.out];exact⟨rfl,hB.trans ⟨rfl,rfl,rfl,by simp,fun q hq=>World.putObj_heap_other (by omega)⟩⟩)))
 ·(
 have k40:decide (40<(cs.length:Int))=true:=decide_eq_true (by omega);have HS:Hid (jgi cs=false):=by show jgi cs=_;unfold jgi;rw[decide_eq_false fY];rfl
 have b8:=bR.cell;have fW:=bR.frozen;clear fY;gi_wp2_with fail
 refine⟨trivial,?_⟩;gi_wp2_with fail
 refine⟨trivial,?_⟩;gi_wp2_with fail
 refine⟨_,jzr rfl rfl _ _ w.heap.size (.bool false) rfl bR.cell,?_⟩;rw[HS.out];exact⟨rfl,cm⟩)
end V4
namespace V4
open Go.RowKit
open S2 (Sc)
open C3 (isC jzk)
theorem jqt{w:World}{a:Obj}{cs:Array Value}{t:TypeId}(i:Nat)(v:Value)(h:cs[i]?=some v):((w.alloc a).alloc (.cells cs t)).cell? ⟨w.heap.size+1,i,none⟩=some v:=by
 have:=jzs (w:=w.alloc a) (t:=t) i v h;rw[World.size_alloc] at this;exact this
theorem ckIn{w:World}(n m:Int)(sA:Option Addr)(sc:Nat)(ss:List Str)(cA:Option Addr)(cc:Nat)(cs:List Ck)(vA:Option Addr)(vc:Nat)(vs:List Vl)(hx:(Vl.mk n m sA sc ss cA cc cs vA vc vs).In w):∀ k∈cs,InC w k:=by
 cases hx with
 | mk _ _ _ _ _ _ _ _ _ _ _ _ _ _ _ _ _ _ h8 _ _ _=>exact h8
theorem formed_1(A:Option Addr)(c:Nat)(il:List Sc)(n m:Int)(sA:Option Addr)(sc:Nat)(ss:List Str)(cA:Option Addr)(cc:Nat)(cs:List Ck)(vA:Option Addr)(vc:Nat)(vs:List Vl)(w:World):Calls Tryz.prog 73 #[.agg #[.int .i64 1,.slice A il.length c,.int .u64 n,.int .u64 m,.slice sA ss.length sc,.slice cA cs.length cc,.slice vA vs.length vc]] w (jz6 w (.bool (true))):=by
 have cm:Below w.heap.size w ((w.alloc (.cells #[.int .i64 1,.slice A il.length c,.int .u64 n,.int .u64 m,.slice sA ss.length sc,.slice cA cs.length cc,.slice vA vs.length vc] 76)).alloc (.cells #[.int .u64 n,.int .u64 m,.slice sA ss.length sc,.slice cA cs.length cc,.slice vA vs.length vc] 30)):=jzk (jzk (Below.refl _ _));go_enter Tryz.func73,Tryz.ntmps73;go_wp2_with fail;go_ret;exact⟨rfl,cm⟩
theorem formed_0(k:Int)(h:¬ (1<=k/\k<=8))(A:Option Addr)(c:Nat)(il:List Sc)(n m:Int)(sA:Option Addr)(sc:Nat)(ss:List Str)(cA:Option Addr)(cc:Nat)(cs:List Ck)(vA:Option Addr)(vc:Nat)(vs:List Vl)(w:World):Calls Tryz.prog 73 #[.agg #[.int .i64 k,.slice A il.length c,.int .u64 n,.int .u64 m,.slice sA ss.length sc,.slice cA cs.length cc,.slice vA vs.length vc]] w (jz6 w (.bool (false))):=by
 have cm:Below w.heap.size w ((w.alloc (.cells #[.int .i64 k,.slice A il.length c,.int .u64 n,.int .u64 m,.slice sA ss.length sc,.slice cA cs.length cc,.slice vA vs.length vc] 76)).alloc (.cells #[.int .u64 n,.int .u64 m,.slice sA ss.length sc,.slice cA cs.length cc,.slice vA vs.length vc] 30)):=jzk (jzk (Below.refl _ _));have k1:(k == 1)=false:=jdc (by omega);have k2:(k == 2)=false:=jdc (by omega);have k3:(k == 3)=false:=jdc (by omega);have k4:(k == 4)=false:=jdc (by omega);have k5:(k == 5)=false:=jdc (by omega);have k6:(k == 6)=false:=jdc (by omega);have k7:(k == 7)=false:=jdc (by omega);have k8:(k == 8)=false:=jdc (by omega);clear h;go_enter Tryz.func73,Tryz.ntmps73;go_wp2_with fail;go_ret;exact⟨rfl,cm⟩
theorem formed_2(A:Option Addr)(c:Nat)(il:List Sc)(n m:Int)(sA:Option Addr)(sc:Nat)(ss:List Str)(cA:Option Addr)(cc:Nat)(cs:List Ck)(vA:Option Addr)(vc:Nat)(vs:List Vl)(w:World)(hx:(Vl.mk n m sA sc ss cA cc cs vA vc vs).In w):Calls Tryz.prog 73 #[.agg #[.int .i64 2,.slice A il.length c,.int .u64 n,.int .u64 m,.slice sA ss.length sc,.slice cA cs.length cc,.slice vA vs.length vc]] w (jz6 w (.bool (decide (n<=1)))):=by
 have cm:Below w.heap.size w ((w.alloc (.cells #[.int .i64 2,.slice A il.length c,.int .u64 n,.int .u64 m,.slice sA ss.length sc,.slice cA cs.length cc,.slice vA vs.length vc] 76)).alloc (.cells #[.int .u64 n,.int .u64 m,.slice sA ss.length sc,.slice cA cs.length cc,.slice vA vs.length vc] 30)):=jzk (jzk (Below.refl _ _));have hn:=hx.out.hn;clear hx;go_enter Tryz.func73,Tryz.ntmps73;go_wp2_with fail;go_ret;exact⟨rfl,cm⟩
theorem formed_3(A:Option Addr)(c:Nat)(il:List Sc)(n m:Int)(sA:Option Addr)(sc:Nat)(ss:List Str)(cA:Option Addr)(cc:Nat)(cs:List Ck)(vA:Option Addr)(vc:Nat)(vs:List Vl)(w:World)(hx:(Vl.mk n m sA sc ss cA cc cs vA vc vs).In w):Calls Tryz.prog 73 #[.agg #[.int .i64 3,.slice A il.length c,.int .u64 n,.int .u64 m,.slice sA ss.length sc,.slice cA cs.length cc,.slice vA vs.length vc]] w (jz6 w (.bool (jkc ss))):=by
 have cm:Below w.heap.size w ((w.alloc (.cells #[.int .i64 3,.slice A il.length c,.int .u64 n,.int .u64 m,.slice sA ss.length sc,.slice cA cs.length cc,.slice vA vs.length vc] 76)).alloc (.cells #[.int .u64 n,.int .u64 m,.slice sA ss.length sc,.slice cA cs.length cc,.slice vA vs.length vc] 30)):=jzk (jzk (Below.refl _ _));have hp:=(hx.later cm).out;have HC:=Lh (jut sA sc ss _ hp.sl (by have:=hp.sb;omega) hp.st);clear hx hp;go_enter Tryz.func73,Tryz.ntmps73;go_wp2_with fail;refine HC.out.mono ?_;rintro e w' ⟨rfl,hb⟩;go_wp2_with fail;go_ret;exact⟨rfl,cm.trans (hb.mono cm.size)⟩
theorem jto(A:Option Addr)(c:Nat)(il:List Sc)(n m:Int)(sA:Option Addr)(sc:Nat)(ss:List Str)(cA:Option Addr)(cc:Nat)(cs:List Ck)(vA:Option Addr)(vc:Nat)(vs:List Vl)(w:World):Calls Tryz.prog 73 #[.agg #[.int .i64 5,.slice A il.length c,.int .u64 n,.int .u64 m,.slice sA ss.length sc,.slice cA cs.length cc,.slice vA vs.length vc]] w (jz6 w (.bool (decide (vs.length=2)))):=by
 have cm:Below w.heap.size w ((w.alloc (.cells #[.int .i64 5,.slice A il.length c,.int .u64 n,.int .u64 m,.slice sA ss.length sc,.slice cA cs.length cc,.slice vA vs.length vc] 76)).alloc (.cells #[.int .u64 n,.int .u64 m,.slice sA ss.length sc,.slice cA cs.length cc,.slice vA vs.length vc] 30)):=jzk (jzk (Below.refl _ _));by_cases h2:vs.length=2
 ·(have k2:((vs.length:Int) == 2)=true:=ibeq (by omega);rw[decide_eq_true h2];clear h2;go_enter Tryz.func73,Tryz.ntmps73;go_wp2_with fail;go_ret;exact⟨rfl,cm⟩)
 ·(have k2:((vs.length:Int) == 2)=false:=jdc (by omega);rw[decide_eq_false h2];clear h2;go_enter Tryz.func73,Tryz.ntmps73;go_wp2_with fail;go_ret;exact⟨rfl,cm⟩)
theorem formed_6(A:Option Addr)(c:Nat)(il:List Sc)(n m:Int)(sA:Option Addr)(sc:Nat)(ss:List Str)(cA:Option Addr)(cc:Nat)(cs:List Ck)(vA:Option Addr)(vc:Nat)(vs:List Vl)(w:World)(hx:(Vl.mk n m sA sc ss cA cc cs vA vc vs).In w):Calls Tryz.prog 73 #[.agg #[.int .i64 6,.slice A il.length c,.int .u64 n,.int .u64 m,.slice sA ss.length sc,.slice cA cs.length cc,.slice vA vs.length vc]] w (jz6 w (.bool (jqa n m ss.length cs.length vs.length false false false false false || jxm n m ss))):=by
 have cm:Below w.heap.size w ((w.alloc (.cells #[.int .i64 6,.slice A il.length c,.int .u64 n,.int .u64 m,.slice sA ss.length sc,.slice cA cs.length cc,.slice vA vs.length vc] 76)).alloc (.cells #[.int .u64 n,.int .u64 m,.slice sA ss.length sc,.slice cA cs.length cc,.slice vA vs.length vc] 30)):=jzk (jzk (Below.refl _ _));have hp:=(hx.later cm).out;have hn:=hp.hn;have hm:=hp.hm;have HW:Hid (∀ Z,Below (((w.alloc (.cells #[.int .i64 6,.slice A il.length c,.int .u64 n,.int .u64 m,.slice sA ss.length sc,.slice cA cs.length cc,.slice vA vs.length vc] 76)).alloc (.cells #[.int .u64 n,.int .u64 m,.slice sA ss.length sc,.slice cA cs.length cc,.slice vA vs.length vc] 30))).heap.size (((w.alloc (.cells #[.int .i64 6,.slice A il.length c,.int .u64 n,.int .u64 m,.slice sA ss.length sc,.slice cA cs.length cc,.slice vA vs.length vc] 76)).alloc (.cells #[.int .u64 n,.int .u64 m,.slice sA ss.length sc,.slice cA cs.length cc,.slice vA vs.length vc] 30))) Z->Calls Tryz.prog 113 #[.agg #[.int .u64 n,.int .u64 m,.slice sA ss.length sc,.slice cA cs.length cc,.slice vA vs.length vc]] Z (jz6 Z (.bool (jxm n m ss)))):=fun Z hZ=>jdf n m sA sc ss cA cc _ vA vc _ Z hn.1 hm.1 (hp.sl.below hZ) (by have:=hp.sb;omega) hp.st
 clear hx hp hn hm;obtain⟨q,hq⟩:=exq (jqa n m ss.length cs.length vs.length false false false false false);have HC:=Lh (jpd n m sA sc ss.length cA cc cs.length vA vc vs.length (((w.alloc (.cells #[.int .i64 6,.slice A il.length c,.int .u64 n,.int .u64 m,.slice sA ss.length sc,.slice cA cs.length cc,.slice vA vs.length vc] 76)).alloc (.cells #[.int .u64 n,.int .u64 m,.slice sA ss.length sc,.slice cA cs.length cc,.slice vA vs.length vc] 30))));rw[hq] at HC ⊢;clear hq;go_enter Tryz.func73,Tryz.ntmps73;go_wp2_with fail;refine HC.out.mono ?_;clear HC;rintro e w3 ⟨rfl,hb⟩;have e0:=(hb.cell (p:=⟨w.heap.size+1,0,none⟩) (by simp)).trans (jqt 0 _ rfl);have e1:=(hb.cell (p:=⟨w.heap.size+1,1,none⟩) (by simp)).trans (jqt 1 _ rfl);have e2:=(hb.cell (p:=⟨w.heap.size+1,2,none⟩) (by simp)).trans (jqt 2 _ rfl);have e3:=(hb.cell (p:=⟨w.heap.size+1,3,none⟩) (by simp)).trans (jqt 3 _ rfl);have e4:=(hb.cell (p:=⟨w.heap.size+1,4,none⟩) (by simp)).trans (jqt 4 _ rfl);have iF:=cm.trans (hb.mono cm.size);have sY:=Lh (HW.out w3 hb);clear HW hb cm;cases q with
 | true=>(go_wp2_with fail;go_ret;exact⟨rfl,iF⟩)
 | false=>(go_wp2_with fail;refine sY.out.mono ?_;rintro e w4 ⟨rfl,ca⟩;go_wp2_with fail;go_ret;exact⟨rfl,iF.trans (ca.mono iF.size)⟩)
theorem formed_7(A:Option Addr)(c:Nat)(il:List Sc)(n m:Int)(sA:Option Addr)(sc:Nat)(ss:List Str)(cA:Option Addr)(cc:Nat)(cs:List Ck)(vA:Option Addr)(vc:Nat)(vs:List Vl)(w:World)(hx:(Vl.mk n m sA sc ss cA cc cs vA vc vs).In w):Calls Tryz.prog 73 #[.agg #[.int .i64 7,.slice A il.length c,.int .u64 n,.int .u64 m,.slice sA ss.length sc,.slice cA cs.length cc,.slice vA vs.length vc]] w (jz6 w (.bool (decide (cs.length<=1) && !cs.any jm8))):=by
 have cm:Below w.heap.size w ((w.alloc (.cells #[.int .i64 7,.slice A il.length c,.int .u64 n,.int .u64 m,.slice sA ss.length sc,.slice cA cs.length cc,.slice vA vs.length vc] 76)).alloc (.cells #[.int .u64 n,.int .u64 m,.slice sA ss.length sc,.slice cA cs.length cc,.slice vA vs.length vc] 30)):=jzk (jzk (Below.refl _ _));have hp:=(hx.later cm).out;have hk:=ckIn n m sA sc ss cA cc cs vA vc vs (hx.later cm);have HC:=Lh (jbt cA cc cs _ hp.cl (by have:=hp.cb;omega) hk);clear hx hp hk;by_cases h1:cs.length<=1
 ·(have k1:decide ((cs.length:Int)<=1)=true:=decide_eq_true (by omega);rw[decide_eq_true h1];go_enter Tryz.func73,Tryz.ntmps73;go_wp2_with fail;refine HC.out.mono ?_;rintro e w' ⟨rfl,hb⟩;go_wp2_with fail;go_ret;exact⟨rfl,cm.trans (hb.mono cm.size)⟩)
 ·(have k1:decide ((cs.length:Int)<=1)=false:=decide_eq_false (by omega);rw[decide_eq_false h1];clear h1;go_enter Tryz.func73,Tryz.ntmps73;go_wp2_with fail;go_ret;exact⟨rfl,cm⟩)
theorem formed_8(A:Option Addr)(c:Nat)(il:List Sc)(n m:Int)(sA:Option Addr)(sc:Nat)(ss:List Str)(cA:Option Addr)(cc:Nat)(cs:List Ck)(vA:Option Addr)(vc:Nat)(vs:List Vl)(w:World)(hx:(Vl.mk n m sA sc ss cA cc cs vA vc vs).In w):Calls Tryz.prog 73 #[.agg #[.int .i64 8,.slice A il.length c,.int .u64 n,.int .u64 m,.slice sA ss.length sc,.slice cA cs.length cc,.slice vA vs.length vc]] w (jz6 w (.bool (decide (cs.length=vs.length) && jgi cs))):=by
 have cm:Below w.heap.size w ((w.alloc (.cells #[.int .i64 8,.slice A il.length c,.int .u64 n,.int .u64 m,.slice sA ss.length sc,.slice cA cs.length cc,.slice vA vs.length vc] 76)).alloc (.cells #[.int .u64 n,.int .u64 m,.slice sA ss.length sc,.slice cA cs.length cc,.slice vA vs.length vc] 30)):=jzk (jzk (Below.refl _ _));have hp:=(hx.later cm).out;have hk:=ckIn n m sA sc ss cA cc cs vA vc vs (hx.later cm);have HC:=Lh (ju0 cA cc cs _ hp.cl hp.cb.1 hp.cb.2.1 hp.cb.2.2 hk);clear hx hp hk;by_cases h1:cs.length=vs.length
 ·(have k1:((cs.length:Int) == (vs.length:Int))=true:=ibeq (by omega);rw[decide_eq_true h1];clear h1;go_enter Tryz.func73,Tryz.ntmps73;go_wp2_with fail;refine HC.out.mono ?_;rintro e w' ⟨rfl,hb⟩;go_wp2_with fail;go_ret;exact⟨rfl,cm.trans (hb.mono cm.size)⟩)
 ·(have k1:((cs.length:Int) == (vs.length:Int))=false:=jdc (by omega);rw[decide_eq_false h1];clear h1;go_enter Tryz.func73,Tryz.ntmps73;go_wp2_with fail;go_ret;exact⟨rfl,cm⟩)
open Go.RowKit Go.Shelf
open S2 (Sc isT jzf)
def jws(k n m:Int)(a b d:Nat):Bool :=
  if k=1 then jqa n m a b d true false false false false else if k=2 then jqa n m a b d true false false false false else if k=3 then jqa n m a b d false false true false false else
  if k=4 then jqa n m a b d false false true false true else if k=5 then jqa n m a b d false false false false true else if k=6 then jqa n m a b d true true true false false else
  if k=7 then jqa n m a b d false false false true false else if k=8 then jqa n m a b d false false false true true else jqa n m a b d false false false false false
def jbq(k n m:Int)(ss:List Str)(cs:List Ck)(d:Nat)(fl:Bool):Bool :=
  if k=1 then true else if k=2 then decide (n<=1) else if k=3 then jkc ss else if k=4 then jkc ss && (decide (d=ss.length) && fl) else if k=5 then decide (d=2) else
  if k=6 then jqa n m ss.length cs.length d false false false false false || jxm n m ss else if k=7 then decide (cs.length<=1) && !cs.any jm8 else if k=8 then decide (cs.length=d) && jgi cs else false
theorem jl1(k:Int)(A:Option Addr)(c:Nat)(il:List Sc)(n m:Int)(sA:Option Addr)(sc:Nat)(ss:List Str)(cA:Option Addr)(cc:Nat)(cs:List Ck)(vA:Option Addr)(vc:Nat)(vs:List Vl)(w:World)(b f:Bool)(hs:∀ Z,Calls Tryz.prog 72 #[.int .i64 k,.agg #[.int .u64 n,.int .u64 m,.slice sA ss.length sc,.slice cA cs.length cc,.slice vA vs.length vc]] Z (jif Z b))(hf:∀ Z,Below w.heap.size w Z->Calls Tryz.prog 73 #[.agg #[.int .i64 k,.slice A il.length c,.int .u64 n,.int .u64 m,.slice sA ss.length sc,.slice cA cs.length cc,.slice vA vs.length vc]] Z (jz6 Z (.bool f))):Calls Tryz.prog 39 #[.agg #[.int .i64 k,.slice A il.length c,.int .u64 n,.int .u64 m,.slice sA ss.length sc,.slice cA cs.length cc,.slice vA vs.length vc]] w (jz6 w (.bool (b && f))):=by
 have HS:=Lh hs;have HF:=Lh hf;clear hs hf;go_enter Tryz.func39,Tryz.ntmps39;go_wp2_with fail;refine (HS.out _).mono ?_;rintro e w2 ⟨n',m',sA',sc',a',cA',cc',b',vA',vc',d',rfl,hh,ab⟩;have HH:=Lh hh;have iw:Below w.heap.size w w2:=(jzf w _).trans (ab.mono (by simp));have de:w.heap.size<w2.heap.size:=by have:=ab.size;simp at this;omega
 have cj:∀ i v,(#[.int .i64 k,.slice A il.length c,.int .u64 n,.int .u64 m,.slice sA ss.length sc,.slice cA cs.length cc,.slice vA vs.length vc]:Array Value)[i]?=some v->w2.cell? ⟨w.heap.size,i,none⟩=some v:=fun i v h=>(ab.cell (p:=⟨w.heap.size,i,none⟩) (by simp)).trans (jzs i v h)
 clear hh ab;go_wp2_with fail;refine (jpd n' m' sA' sc' a' cA' cc' b' vA' vc' d' w2).mono ?_;rintro e w3 ⟨rfl,bj⟩;rw[HH.out];have iF:Below w.heap.size w w3:=iw.trans (bj.mono iw.size);have e0:=(bj.cell (p:=⟨w.heap.size,0,none⟩) de).trans (cj 0 _ rfl);have e1:=(bj.cell (p:=⟨w.heap.size,1,none⟩) de).trans (cj 1 _ rfl);have e2:=(bj.cell (p:=⟨w.heap.size,2,none⟩) de).trans (cj 2 _ rfl);have e3:=(bj.cell (p:=⟨w.heap.size,3,none⟩) de).trans (cj 3 _ rfl);have e4:=(bj.cell (p:=⟨w.heap.size,4,none⟩) de).trans (cj 4 _ rfl);have e5:=(bj.cell (p:=⟨w.heap.size,5,none⟩) de).trans (cj 5 _ rfl);have e6:=(bj.cell (p:=⟨w.heap.size,6,none⟩) de).trans (cj 6 _ rfl);clear cj bj;cases b with
 | false=>(go_wp2_with fail;go_ret;exact⟨rfl,iF⟩)
 | true=>(go_wp2_with fail;refine (HF.out w3 iF).mono ?_;rintro e w4 ⟨rfl,ca⟩;go_wp2_with fail;go_ret;exact⟨rfl,iF.trans (ca.mono iF.size)⟩)
theorem juv(k n m:Int)(sA:Option Addr)(sc a:Nat)(cA:Option Addr)(cc b:Nat)(vA:Option Addr)(vc d:Nat)(w:World):Calls Tryz.prog 72 #[.int .i64 k,.agg #[.int .u64 n,.int .u64 m,.slice sA a sc,.slice cA b cc,.slice vA d vc]] w (jif w (jws k n m a b d)):=by
 unfold jws;by_cases h1:k=1
 ·subst h1;exact jod n m sA sc a cA cc b vA vc d w
 rw[if_neg h1];by_cases h2:k=2
 ·subst h2;exact joc n m sA sc a cA cc b vA vc d w
 rw[if_neg h2];by_cases h3:k=3
 ·subst h3;exact job n m sA sc a cA cc b vA vc d w
 rw[if_neg h3];by_cases h4:k=4
 ·subst h4;exact joa n m sA sc a cA cc b vA vc d w
 rw[if_neg h4];by_cases h5:k=5
 ·subst h5;exact jfe n m sA sc a cA cc b vA vc d w
 rw[if_neg h5];by_cases h6:k=6
 ·subst h6;exact jt9 n m sA sc a cA cc b vA vc d w
 rw[if_neg h6];by_cases h7:k=7
 ·subst h7;exact jt8 n m sA sc a cA cc b vA vc d w
 rw[if_neg h7];by_cases h8:k=8
 ·subst h8;exact jt7 n m sA sc a cA cc b vA vc d w
 rw[if_neg h8];exact joe k (by omega) n m sA sc a cA cc b vA vc d w
def jvl(k n m:Int)(a b d:Nat):Bool:=if k=5 then jqa n m a b d false false false false true && decide (d=2) else jqa n m a b d false false false false false
def jku(x:Sc×Vl):Bool:=jvl x.1.k x.2.n x.2.m x.2.ss.length x.2.cs.length x.2.vs.length
theorem jre(x:Sc×Vl)(w:World):Calls Tryz.prog 161 #[jkb x] w (jz6 w (.bool (jku x))):=by
 obtain⟨⟨k,A,c,il⟩,n,m,sA,sc,ss,cA,cc,cs,vA,vc,vs⟩:=x;simp only[jkb,jzx,jku,Sc.k,Sc.v1,Vl.n,Vl.m,Vl.s1,Vl.c1,Vl.v1,Vl.ss,Vl.cs,Vl.vs];unfold jvl;have hB:Below w.heap.size w (w.alloc (.cells #[.int .i64 k,.slice A il.length c,.int .u64 n,.int .u64 m,.slice sA ss.length sc,.slice cA cs.length cc,.slice vA vs.length vc] 76)):=jzf w _;by_cases h5:k=5
 ·(
 subst h5;rw[if_pos rfl];have HR:=Lh (jl1 5 A c il n m sA sc ss cA cc cs vA vc vs (w.alloc (.cells #[.int .i64 5,.slice A il.length c,.int .u64 n,.int .u64 m,.slice sA ss.length sc,.slice cA cs.length cc,.slice vA vs.length vc] 76)) _ _
   (fun Z=>jfe n m sA sc ss.length cA cc cs.length vA vc vs.length Z) (fun Z _=>jto A c il n m sA sc ss cA cc cs vA vc vs Z))
 go_enter Tryz.func161,Tryz.ntmps161;go_wp2_with fail;refine HR.out.mono ?_;rintro e w' ⟨rfl,hb⟩;go_wp2_with fail;go_ret;exact⟨rfl,hB.trans (hb.mono hB.size)⟩)
 ·(rw[if_neg h5];have k5:(k == 5)=false:=jdc h5;clear h5;go_enter Tryz.func161,Tryz.ntmps161;go_wp2_with fail;refine (jpd n m sA sc ss.length cA cc cs.length vA vc vs.length _).mono ?_;rintro e w' ⟨rfl,hb⟩;go_wp2_with fail;go_ret;exact⟨rfl,hB.trans (hb.mono hB.size)⟩)
end V4
end Go.Proofs.YtobggoephhjofaaGreatDoor
