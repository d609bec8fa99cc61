/- A part. No condition. -/
import Derived.Test.YtobggoephhjofaaGreatDoorMk17
set_option maxRecDepth 100000
set_option maxHeartbeats 16000000
namespace Go.Proofs.YtobggoephhjofaaGreatDoor
namespace J5
open Go.RowKit
open C3 (Tk In jjd jxz jjb jjc jj1 jzk jzf)
open V4 (jx8 orI jhp jxr jz2)
theorem cmpB_S:∀ x y:Str,Lib.compareBytes x y=jx1 x y
  | [],[]=>by unfold jx1;simp[Lib.compareBytes]
  | [],y :: b=>by unfold jx1;simp[Lib.compareBytes]
  | x :: a,[]=>by unfold jx1;simp[Lib.compareBytes]
  | x :: a,y :: b=>by
    rw[Lib.compareBytes,cmpB_S a b]
    unfold jx1
    by_cases h1:x<y
    · rw[if_pos h1,if_pos (List.cons_lt_cons_iff.2 (.inl h1))]
    · rw[if_neg h1]
      by_cases h2:y<x
      · rw[if_pos h2,if_neg (fun h=>by
          rcases List.cons_lt_cons_iff.1 h with h | ⟨h,_⟩
          · exact h1 h
          · subst h;exact h1 h2),if_pos (List.cons_lt_cons_iff.2 (.inl h2))]
      · rw[if_neg h2]
        have e:x=y:=UInt8.le_antisymm (UInt8.not_lt.1 h2) (UInt8.not_lt.1 h1)
        subst e
        simp
theorem jof(x y:Str)(w:World):Calls Tryz.prog 76 #[.string (S x),.string (S y)] w (jz6 w (.int .i64 (jx1 x y))):=by
 refine (Go.Proofs.Tryz.strings_Compare (S x) (S y) w).mono ?_;rintro e w' ⟨rfl,rfl⟩;refine⟨?_,Below.refl _ _⟩;rw[<- cmpB_S];rfl
def jps:List Tk->List Tk->Int
  | [],[]=>0
  | [],_ :: _=>-1
  | _ :: _,[]=>1
  | x :: a,y :: b=>if jx8 x y=0 then jps a b else jx8 x y
theorem ju6{a b:List Tk}{i:Nat}{x y:Tk}(hx:a[i]?=some x)(hy:b[i]?=some y):jps (a.drop i) (b.drop i)=if jx8 x y=0 then jps (a.drop (i+1)) (b.drop (i+1)) else jx8 x y:=by
 obtain⟨hi,he⟩:=List.getElem?_eq_some_iff.1 hx;obtain⟨hj,hf⟩:=List.getElem?_eq_some_iff.1 hy;rw[List.drop_eq_getElem_cons hi,List.drop_eq_getElem_cons hj,he,hf,jps]
theorem rowI_eq0{a b:List Tk}{i:Nat}{x y:Tk}(hx:a[i]?=some x)(hy:b[i]?=some y)(h:jx8 x y=0):jps (a.drop i) (b.drop i)=jps (a.drop (i+1)) (b.drop (i+1)):=by rw[ju6 hx hy,if_pos h]
theorem rowI_ne{a b:List Tk}{i:Nat}{x y:Tk}(hx:a[i]?=some x)(hy:b[i]?=some y)(h:jx8 x y≠0):jps (a.drop i) (b.drop i)=jx8 x y:=by rw[ju6 hx hy,if_neg h]
theorem rowI_gt{a b:List Tk}{i:Nat}(h1:i<a.length)(h2:b.length<=i)(_:i<=b.length):jps (a.drop i) (b.drop i)=1:=by
 rw[List.drop_eq_getElem_cons h1,List.drop_of_length_le h2,jps]
theorem rowI_lt{a b:List Tk}{i:Nat}(h1:a.length<=i)(_:i<=a.length)(h2:i<b.length):jps (a.drop i) (b.drop i) = -1:=by
 rw[List.drop_eq_getElem_cons h2,List.drop_of_length_le h1,jps]
theorem rowI_end{a b:List Tk}{i:Nat}(h1:a.length<=i)(h2:b.length<=i):jps (a.drop i) (b.drop i)=0:=by
 rw[List.drop_of_length_le h1,List.drop_of_length_le h2,jps]
theorem rowI_T:∀ a b:List Tk,jps a b=jkv a b
  | [],[]=>by unfold jkv;simp[jps,jz2]
  | [],y :: b=>by unfold jkv;simp[jps,jz2]
  | x :: a,[]=>by unfold jkv;simp[jps,jz2]
  | x :: a,y :: b=>by
    rw[jps,rowI_T a b]
    unfold jkv
    rw[jz2,jz2]
    rcases Int.lt_trichotomy x.k y.k with hk | hk | hk
    · rw[V4.jmh hk,if_neg (by decide),if_neg (show ¬ x.k=y.k by omega),if_pos (decide_eq_true hk)]
    · rw[V4.jdi hk,if_pos hk,if_pos hk.symm]
      rcases Int.lt_trichotomy x.n y.n with hn | hn | hn
      · rw[jxz hn,if_neg (by decide),if_neg (show ¬ x.n=y.n by omega),if_pos (decide_eq_true hn)]
      · rw[hn,jjc,if_pos rfl,if_pos rfl,if_pos rfl]
      · rw[jjb hn,if_neg (by decide),if_neg (show ¬ x.n=y.n by omega),if_neg (show ¬ decide (x.n<y.n)=true by simp;omega),if_neg (show ¬ y.n=x.n by omega),if_pos (decide_eq_true hn)]
    · rw[V4.jmi hk,if_neg (by decide),if_neg (show ¬ x.k=y.k by omega),if_neg (show ¬ decide (x.k<y.k)=true by simp;omega),if_neg (show ¬ y.k=x.k by omega),if_pos (decide_eq_true hk)]
theorem jd2(xk xn yk yn:Int)(w:World):Calls Tryz.prog 133 #[.agg #[.int .i64 xk,.int .u64 xn],.agg #[.int .i64 yk,.int .u64 yn]] w (jz6 w (.int .i64 (jx8 ⟨xk,xn⟩ ⟨yk,yn⟩))):=by
 obtain⟨p,hp⟩:=exq (jjd xk yk);obtain⟨q,hq⟩:=exq (jjd xn yn);have HP:=Lh hp;have HQ:=Lh hq;have HR:Hid (jx8 ⟨xk,xn⟩ ⟨yk,yn⟩=orI p q):=by show jx8 _ _=_;unfold jx8;rw[<- hp,<- hq]
 clear hp hq;go_enter Tryz.func133,Tryz.ntmps133;go_wp2_with fail;have e0:((w.alloc (.cells #[.int .i64 xk,.int .u64 xn] 53)).alloc (.cells #[.int .i64 yk,.int .u64 yn] 53)).cell? ⟨w.heap.size,0,none⟩=some (.int .i64 xk):=by simp[World.cell?_alloc_past]
 have e1:((w.alloc (.cells #[.int .i64 xk,.int .u64 xn] 53)).alloc (.cells #[.int .i64 yk,.int .u64 yn] 53)).cell? ⟨w.heap.size,1,none⟩=some (.int .u64 xn):=by simp[World.cell?_alloc_past]
 have e2:((w.alloc (.cells #[.int .i64 xk,.int .u64 xn] 53)).alloc (.cells #[.int .i64 yk,.int .u64 yn] 53)).cell? ⟨w.heap.size+1,0,none⟩=some (.int .i64 yk):=by simp
 have e3:((w.alloc (.cells #[.int .i64 xk,.int .u64 xn] 53)).alloc (.cells #[.int .i64 yk,.int .u64 yn] 53)).cell? ⟨w.heap.size+1,1,none⟩=some (.int .u64 yn):=by simp
 have cm:Below w.heap.size w ((w.alloc (.cells #[.int .i64 xk,.int .u64 xn] 53)).alloc (.cells #[.int .i64 yk,.int .u64 yn] 53)):=jzk (jzk (Below.refl _ _));have ae:w.heap.size+2<=((w.alloc (.cells #[.int .i64 xk,.int .u64 xn] 53)).alloc (.cells #[.int .i64 yk,.int .u64 yn] 53)).heap.size:=by simp
 have bz:w.heap.size<((w.alloc (.cells #[.int .i64 xk,.int .u64 xn] 53)).alloc (.cells #[.int .i64 yk,.int .u64 yn] 53)).heap.size:=by omega
 have fm:w.heap.size+1<((w.alloc (.cells #[.int .i64 xk,.int .u64 xn] 53)).alloc (.cells #[.int .i64 yk,.int .u64 yn] 53)).heap.size:=by omega
 generalize ((w.alloc (.cells #[.int .i64 xk,.int .u64 xn] 53)).alloc (.cells #[.int .i64 yk,.int .u64 yn] 53))=W0 at *;go_region_held3 (fun w'=>w'.cell? ⟨w.heap.size,0,none⟩=some (.int .i64 xk)/\w'.cell? ⟨w.heap.size,1,none⟩=some (.int .u64 xn)/\w'.cell? ⟨w.heap.size+1,0,none⟩=some (.int .i64 yk)/\w'.cell? ⟨w.heap.size+1,1,none⟩=some (.int .u64 yn))
   (first
     | with_reducible exact⟨e0,e1,e2,e3⟩
     | (refine⟨?_,?_,?_,?_⟩ <;> go_simp))
   (first
     | (go_at_call 156;refine (jj1 xk yk _).mono ?_;rintro e w4 ⟨rfl,rfl⟩;rw[HP.out])
     | (go_at_call 123;refine (jxr xn yn _).mono ?_;rintro e w4 ⟨rfl,rfl⟩;rw[HQ.out])
     | (go_at_call 122;refine (jhp _ p q _ (by simp) (by simp)).mono ?_;rintro e w4 ⟨rfl,rfl⟩))
 all_goals (
   go_wp2_with fail
   go_ret
   exact⟨by rw[HR.out];rfl,(jzk cm).drew⟩)
theorem jbp(A A':Option Addr)(c c':Nat)(l l':List Tk)(w:World)(h:In w A c l)(h':In w A' c' l'):Calls Tryz.prog 132 #[.slice A l.length c,.slice A' l'.length c',.func (.func 133) #[] #[]] w (jz6 w (.int .i64 (jps l l'))):=by
 obtain⟨hl,bD,bC,-⟩:=h;obtain⟨cR,ec,da,-⟩:=h';have eI:l.length<=9223372036854775807:=by unfold maxLen at bC;omega
 have rC:l'.length<=9223372036854775807:=by unfold maxLen at da;omega
 clear bD bC ec da;go_enter Tryz.func132,Tryz.ntmps132;go_wp2_with fail;go_loopw [13] (fun iv wr=>∃ k:Nat,k<=l.length/\k<=l'.length/\iv = .int .i64 k/\Hid (jps l l'=jps (l.drop k) (l'.drop k))/\Below w.heap.size w wr) (fun iv _=>l.length - (intOf iv).toNat)
 case atStart=>exact⟨0,Nat.zero_le _,Nat.zero_le _,rfl,rfl,Below.refl _ _⟩
 case round=>(
 obtain⟨k,hk,eN,rfl,h0,ar⟩:=hrel;by_cases hlt:k<l.length
 ·(
 obtain⟨b,off,rfl,hb,hc⟩:=(hl.below ar).get hlt;obtain⟨x,hx⟩:∃ x,l[k]?=some x:=⟨_,List.getElem?_eq_getElem hlt⟩
 obtain⟨cq,cB⟩:=hc k x hx;have HX:=Lh hx;clear hx hc hl;obtain⟨xk,xn⟩:=x;dsimp only at cq cB
 by_cases cJ:k<l'.length
 ·(
 obtain⟨b',off',rfl,ct,cP⟩:=(cR.below ar).get cJ;obtain⟨y,hy⟩:∃ y,l'[k]?=some y:=⟨_,List.getElem?_eq_getElem cJ⟩
 obtain⟨fI,fM⟩:=cP k y hy;have HY:=Lh hy;clear hy cP cR;obtain⟨yk,yn⟩:=y;dsimp only at fI fM
 have cD:b<wr.heap.size:=World.block_lt_of_cell? wr _ cq;have cH:b'<wr.heap.size:=World.block_lt_of_cell? wr _ fI;have d1:¬ (l'.length<=k):=by omega
 obtain⟨q,hq⟩:=exq (jx8 ⟨xk,xn⟩ ⟨yk,yn⟩);have HQ:=Lh hq;clear hq;have f0:(wr.alloc (.cells #[.int .i64 xk,.int .u64 xn] 53)).cell? ⟨b',off'+k*2,none⟩=some (.int .i64 yk):=(World.cell?_alloc_past _ _ _ cH).trans fI;have f1:(wr.alloc (.cells #[.int .i64 xk,.int .u64 xn] 53)).cell? ⟨b',off'+k*2+1,none⟩=some (.int .u64 yn):=(World.cell?_alloc_past _ _ _ cH).trans fM;go_wp2_with fail;refine (jd2 xk xn yk yn _).mono ?_;rintro e w' ⟨rfl,ab⟩;rw[HQ.out];have bj:Below w.heap.size w w':=ar.trans (((jzk (jzk (Below.refl _ _))).trans (ab.mono (by simp;omega))).mono ar.size);by_cases jY:q=0
 ·(
 have k0:(q != 0)=false:=by simp[jY]
 clear ab;go_wp2_with fail;go_roundw
 case rel=>exact⟨k+1,by omega,by omega,by go_num,by show _=_;rw[h0.out];exact rowI_eq0 HX.out HY.out (HQ.out.trans jY),bj⟩
 case measure=>simp[intOf];omega)
 ·(
 have k0:(q != 0)=true:=by simp[jY]
 clear ab;go_wp2_with fail;go_ret;refine⟨jxd ?_,bj⟩;rw[h0.out,rowI_ne HX.out HY.out (by rw[HQ.out];exact jY),HQ.out]))
 ·(
 have d1:l'.length<=k:=by omega
 have HNL:Hid (¬ l.length<l'.length):=by show ¬ _;omega
 go_wp2_with fail;go_ret;refine⟨jxd ?_,jzk ar⟩;rw[h0.out,rowI_gt hlt d1 eN]))
 ·(
 by_cases rD:l.length<l'.length
 ·(go_wp2_with fail;go_ret;refine⟨jxd ?_,ar⟩;rw[h0.out,rowI_lt (by omega) hk (by omega)])
 ·(go_wp2_with fail;go_ret;refine⟨jxd ?_,ar⟩;rw[h0.out,rowI_end (by omega) (by omega)])))
theorem jli(A A':Option Addr)(c c':Nat)(l l':List Tk)(w:World)(h:In w A c l)(h':In w A' c' l'):Calls Tryz.prog 85 #[.slice A l.length c,.slice A' l'.length c'] w (jz6 w (.int .i64 (jkv l l'))):=by
 rw[<- rowI_T];have HC:=Lh (jbp A A' c c' l l' w h h');clear h h';go_enter Tryz.func85,Tryz.ntmps85;go_wp2_with fail;refine HC.out.mono ?_;rintro e w' ⟨rfl,hb⟩;go_wp2_with fail;go_ret;exact⟨rfl,hb⟩
open Go.RowKit Go.Shelf
open C3 (Tk In jzk jzf)
open V4 (Va Vl Ck jzt jzj jzl jzh)
theorem jzt.tail{P:Nat->Prop}{w:World}{b off:Nat}{u:List Value}{cs:List Value}(h:jzt P w (some ⟨b,off,none⟩) (u++cs)):jzt P w (some ⟨b,off+u.length,none⟩) cs:=by
 rcases h with h | ⟨b',off',hA,hP,h⟩
 ·exact .inl (List.append_eq_nil_iff.1 h).2
 ·(
 cases hA
 refine .inr ⟨b,off+u.length,rfl,hP,fun i v hv=>?_⟩;have:=h (u.length+i) v (by rw[List.getElem?_append_right (by omega)];simpa using hv);rwa [<- Nat.add_assoc] at this)
theorem jb5{w:World}{cs:Array Value}{t:TypeId}{o2 o3:Obj}(i:Nat)(v:Value)(h:cs[i]?=some v):(((w.alloc (.cells cs t)).alloc o2).alloc o3).cell? ⟨w.heap.size,i,none⟩=some v :=
  ((V4.jq3 (V4.jq3 (Below.refl (w.heap.size+1) (w.alloc (.cells cs t))) (by simp)) (by simp)).cell (p:=⟨w.heap.size,i,none⟩) (by simp)).trans (V4.jzs i v h)
theorem jza{w:World}{b:Nat}{cs:Array Value}{t:TypeId}(h:w.heap[b]?=some (.cells cs t (0,0)))(i:Nat)(v:Value)(hv:cs[i]?=some v):w.cell? ⟨b,i,none⟩=some v:=by
 unfold World.cell?;rw[h];simpa using hv
theorem jzb{w:World}{b:Nat}{cs:Array Value}{t:TypeId}(h:w.heap[b]?=some (.cells cs t (0,0)))(i:Nat):w.frozen? ⟨b,i,none⟩=false:=by
 simp[World.frozen?,h]
theorem blk5 {W:World} {X:Nat} {t:TypeId} {cs:Array Value} {a b c d e:Value} (h:W.heap[X]?=some (.cells cs t (0,0))) (h0:cs[0]?=some a:=by exact rfl) (h1:cs[1]?=some b:=by exact rfl) (h2:cs[2]?=some c:=by exact rfl) (h3:cs[3]?=some d:=by exact rfl) (h4:cs[4]?=some e:=by exact rfl):W.cell? ⟨X,0,none⟩=some a/\W.cell? ⟨X,1,none⟩=some b/\W.cell? ⟨X,2,none⟩=some c/\W.cell? ⟨X,3,none⟩=some d/\W.cell? ⟨X,4,none⟩=some e:=⟨jza h 0 _ h0,jza h 1 _ h1,jza h 2 _ h2,jza h 3 _ h3,jza h 4 _ h4⟩
theorem blk2c {W:World} {X:Nat} {t:TypeId} {cs:Array Value} {a b:Value} (h:W.heap[X]?=some (.cells cs t (0,0))) (h0:cs[0]?=some a:=by exact rfl) (h1:cs[1]?=some b:=by exact rfl):W.cell? ⟨X,0,none⟩=some a/\W.cell? ⟨X,1,none⟩=some b:=⟨jza h 0 _ h0,jza h 1 _ h1⟩
theorem fro5 {W:World} {X:Nat} {t:TypeId} {cs:Array Value} (h:W.heap[X]?=some (.cells cs t (0,0))):W.frozen? ⟨X,0,none⟩=false/\W.frozen? ⟨X,1,none⟩=false/\W.frozen? ⟨X,2,none⟩=false/\W.frozen? ⟨X,3,none⟩=false/\W.frozen? ⟨X,4,none⟩=false:=⟨jzb h 0,jzb h 1,jzb h 2,jzb h 3,jzb h 4⟩
def jfu{M V:Type}(c:M->M->Int):List (M×V)->List (M×V)->Int
  | _,[]=>-1
  | [],_ :: _=>1
  | x :: _,y :: _=>c x.1 y.1
def jyh(x:Str):Value := .string (S x)
def jjh(x y:Str):Int:=jx1 x y
def OkS(N:Nat)(w:World)(x:Str):Prop:=(fun (_:Nat) (_:World) (_:Str)=>True) N w x
structure LnS where
  A:Option Addr
  c:Nat
  B:Option Addr
  d:Nat
  l:List (Str×Vl)
def LnS.val(L:LnS):Value := .agg #[.slice L.A L.l.length L.c,.slice L.B L.l.length L.d]
structure LnS.In (N:Nat) (w:World) (L:LnS):Prop where
  ml:jzt (fun b=>b<N) w L.A (L.l.map fun p=>jyh p.1)
  vl:jzt (fun b=>b<N) w L.B (jzj (L.l.map (·.2)))
  cap:L.l.length<=L.c
  top:L.c<=maxLen
  dap:L.l.length<=L.d
  dop:L.d<=maxLen
  mo:∀ p∈L.l,OkS N w p.1
  vk:∀ p∈L.l,p.2.Inp (fun b=>b<N) w
theorem OkS.keep{N:Nat}{w w':World}{x:Str}(h:OkS N w x)(hb:Below N w w'):OkS N w' x:=(fun _ _=>trivial) h hb
theorem LnS.In.keep{N:Nat}{w w':World}{L:LnS}(h:L.In N w)(hb:Below N w w'):L.In N w' :=
  ⟨h.ml.keep fun b hlt=>hb.block b hlt,h.vl.keep fun b hlt=>hb.block b hlt,h.cap,h.top,h.dap,h.dop,fun p hp=>(h.mo p hp).keep hb,fun p hp=>(h.vk p hp).keep fun b hlt=>hb.block b hlt⟩
theorem jo4(L K:LnS)(N:Nat)(w:World)(hL:L.In N w)(hK:K.In N w)(hN:N<=w.heap.size):Calls Tryz.prog 119 #[.slice L.A L.l.length L.c,.slice K.A K.l.length K.c,.func (.func 76) #[] #[]] w (jz6 w (.int .i64 (jfu jjh L.l K.l))):=by
 obtain⟨A,c,B,d,l⟩:=L;obtain⟨A',c',B',d',l'⟩:=K;have bC:=hL.top;have da:=hK.top;have bD:=hL.cap;have ec:=hK.cap;unfold maxLen at bC da;dsimp only at bC da bD ec ⊢
 cases l' with
 | nil=>(clear hL hK;rw[show jfu jjh l [] = -1 by cases l <;> rfl];go_enter Tryz.func119,Tryz.ntmps119;go_wp2_with fail;go_ret;exact⟨rfl,Below.refl _ _⟩)
 | cons y l'=>(
 cases l with
 | nil=>(clear hL hK;rw[show jfu jjh [] (y :: l')=1 from rfl];go_enter Tryz.func119,Tryz.ntmps119;go_wp2_with fail;go_ret;exact⟨rfl,Below.refl _ _⟩)
 | cons x l=>(
 obtain⟨b,off,rfl,hb,hc⟩:=hL.ml.get (k:=0) (by simp);obtain⟨b',off',rfl,ct,cP⟩:=hK.ml.get (k:=0) (by simp);have c0:w.cell? ⟨b,off,none⟩=some (jyh x.1):=hc 0 _ rfl;have d0:w.cell? ⟨b',off',none⟩=some (jyh y.1):=cP 0 _ rfl;have HX:=Lh (show OkS w.heap.size w x.1 from trivial);have HY:=Lh (show OkS w.heap.size w y.1 from trivial);have HC:Hid (∀ w2,Below w.heap.size w w2->Calls Tryz.prog 76 #[jyh x.1,jyh y.1] w2 (jz6 w2 (.int .i64 (jjh x.1 y.1)))):=fun w2 _=>jof x.1 y.1 w2
 rw[show jfu jjh (x :: l) (y :: l')=jjh x.1 y.1 from rfl];obtain⟨q,hq⟩:=exq (jjh x.1 y.1);rw[hq] at HC ⊢;obtain⟨u,hu⟩:=exq (jyh x.1);obtain⟨v,hv⟩:=exq (jyh y.1);rw[hu] at HC c0;rw[hv] at HC d0;have k0:(((y :: l').length:Int) == 0)=false:=beq_eq_false_iff_ne.2 (by simp only[List.length_cons];omega);have k1:(((x :: l).length:Int) == 0)=false:=beq_eq_false_iff_ne.2 (by simp only[List.length_cons];omega);have k2:0<(x :: l).length:=by simp
 have k3:0<(y :: l').length:=by simp
 have cD:b<w.heap.size:=ltl hb hN;have cH:b'<w.heap.size:=ltl ct hN;generalize (x :: l).length=n1 at *;generalize (y :: l').length=n2 at *;clear hL hK hc cP hq hu hv HX HY;go_enter Tryz.func119,Tryz.ntmps119;go_wp2_with fail;go_region_held3 (fun w'=>w'.cell? ⟨b,off,none⟩=some u/\w'.cell? ⟨b',off',none⟩=some v)
   (first
     | with_reducible exact⟨c0,d0⟩
     | (refine⟨?_,?_⟩ <;> go_simp))
   (first
     | (go_at_call 76;refine (HC.out _ (C3.jqz w)).mono ?_;rintro e w4 ⟨rfl,ca⟩;(have c0:=(ca.cell (p:=⟨b,off,none⟩) cD).trans c0;have d0:=(ca.cell (p:=⟨b',off',none⟩) cH).trans d0)))
 all_goals (
   go_wp2_with fail
   go_ret
   exact⟨rfl,(C3.jqz w).trans ca⟩)))
theorem jpu{fn:Func}{u p q:Tmp}(h:fn.results=#[.tmp u,.cell p 30,.cell q 130])(tmps:Array Value)(w:World)(g k:Nat)(v0 v1 v2 v3 v4 u0 u1:Value)(hp:tmps.getD p undef = .pointer (some ⟨g,0,none⟩))(hq:tmps.getD q undef = .pointer (some ⟨k,0,none⟩))(h0:w.cell? ⟨g,0,none⟩=some v0)(h1:w.cell? ⟨g,1,none⟩=some v1)(h2:w.cell? ⟨g,2,none⟩=some v2)(h3:w.cell? ⟨g,3,none⟩=some v3)(h4:w.cell? ⟨g,4,none⟩=some v4)(g0:w.cell? ⟨k,0,none⟩=some u0)(g1:w.cell? ⟨k,1,none⟩=some u1):(results fn tmps).run Tryz.prog w = .ok (.tuple #[tmps.getD u undef,.agg #[v0,v1,v2,v3,v4],.agg #[u0,u1]]) w:=by
 have iD:tmps[p]?.getD undef = .pointer (some ⟨g,0,none⟩):=by simpa using hp
 have mg:tmps[q]?.getD undef = .pointer (some ⟨k,0,none⟩):=by simpa using hq
 simp[results,h,iD,mg,asAddr]
 go_simp
def jt2(N c d:Nat)(x:Str×Vl)(l:List (Str×Vl))(w:World)(e:Ending)(w':World):Prop :=
  ∃ A' B',e = .returned (.tuple #[jyh x.1,x.2.val,.agg #[.slice A' l.length (c - 1),.slice B' l.length (d - 1)]])/\(LnS.mk A' (c - 1) B' (d - 1) l).In N w'/\Below w.heap.size w w'
theorem jfi(A B:Option Addr)(c d:Nat)(x:Str×Vl)(l:List (Str×Vl))(N:Nat)(w:World)(hL:(LnS.mk A c B d (x :: l)).In N w)(hN:N<=w.heap.size):Calls Tryz.prog 120 #[.agg #[.slice A (x :: l).length c,.slice B (x :: l).length d]] w (jt2 N c d x l w):=by
 have bC:=hL.top;have bD:=hL.cap;have mU:=hL.dop;have iP:=hL.dap;unfold maxLen at bC mU;dsimp only at bC bD mU iP
 have lL:=hL.ml;have nO:=hL.vl;dsimp only at lL nO
 obtain⟨b,off,rfl,hb,hc⟩:=lL.get (k:=0) (by simp);have c0:w.cell? ⟨b,off,none⟩=some (jyh x.1):=hc 0 _ rfl;obtain⟨b',off',rfl,ct,e0,e1,e2,e3,e4⟩:=V4.jqo nO (k:=0) (x:=x.2) rfl;rw[Nat.zero_mul,Nat.add_zero] at e0 e1 e2 e3 e4;have iC:jzt (fun b=>b<N) w (some ⟨b,off+1,none⟩) (l.map fun p=>jyh p.1):=jzt.tail (u:=[jyh x.1]) lL;have u5:jzt (fun b=>b<N) w (some ⟨b',off'+5,none⟩) (jzj (l.map (·.2))):=jzt.tail (u:=V4.jwt x.2) (by rw[show V4.jwt x.2++jzj (l.map (·.2))=jzj ((x :: l).map (·.2)) by simp[jzj,V4.jwt]];exact nO);have HE:Hid (∀ (A' B':Option Addr) (w':World),(A'=some ⟨b,off+1,none⟩\/l=[])->(B'=some ⟨b',off'+5,none⟩\/l=[])->Below w.heap.size w w'->jt2 N c d x l w (.returned (.tuple #[jyh x.1,x.2.val,.agg #[.slice A' l.length (c - 1),.slice B' l.length (d - 1)]])) w'):=by (
 intro A' B' w' hA hB ar;refine⟨A',B',rfl,?_,ar⟩;have h1:(LnS.mk A' (c - 1) B' (d - 1) l).In N w:=by (
 refine⟨?_,?_,?_,?_,?_,?_,fun p hp=>hL.mo p (by simp[hp]),fun p hp=>hL.vk p (by simp[hp])⟩
 ·(
 rcases hA with rfl | rfl
 ·exact iC
 ·exact .inl rfl)
 ·(
 rcases hB with rfl | rfl
 ·exact u5
 ·exact .inl rfl)
 ·simp only[List.length_cons] at bD ⊢;omega
 ·unfold maxLen;show _ - 1<=_;omega
 ·simp only[List.length_cons] at iP ⊢;omega
 ·unfold maxLen;show _ - 1<=_;omega)
 exact h1.keep (ar.mono hN))
 clear hL lL nO hc iC u5;obtain⟨xm,xn,xM,xK,xL,xN,xO,xP,xQ,xR,xS,xU⟩:=x;simp only[jzh,List.length_cons] at HE e0 e1 e2 e3 e4 bD iP c0 ⊢;simp only[V4.Vl.n,V4.Vl.m,V4.Vl.s1,V4.Vl.c1,V4.Vl.v1] at e0 e1 e2 e3 e4;obtain⟨u,hu⟩:=exq (jyh xm);rw[hu] at HE c0;clear hu;have nG:Hid (l.length=0->l=[]):=List.eq_nil_of_length_eq_zero;obtain⟨n,hn⟩:=exq (l.length);simp only[hn] at HE nG bD iP ⊢;clear hn;have cD:b<w.heap.size:=ltl hb hN;have cH:b'<w.heap.size:=ltl ct hN;clear hb ct hN;obtain⟨V,hV⟩:=exq (((w.alloc (.cells #[.slice (some ⟨b,off,none⟩) (n+1) c,.slice (some ⟨b',off',none⟩) (n+1) d] 130)).alloc (.cells #[.int .u64 0,.int .u64 0,.slice none 0 0,.slice none 0 0,.slice none 0 0] 30)).alloc (.cells #[.slice none 0 0,.slice none 0 0] 130));have ai:Below w.heap.size w V:=by rw[<- hV];exact jzk (jzk (jzk (Below.refl _ _)))
 have c0:=(ai.cell (p:=⟨b,off,none⟩) cD).trans c0;have e0:=(ai.cell (p:=⟨b',off',none⟩) cH).trans e0;have e1:=(ai.cell (p:=⟨b',off'+1,none⟩) cH).trans e1;have e2:=(ai.cell (p:=⟨b',off'+2,none⟩) cH).trans e2;have e3:=(ai.cell (p:=⟨b',off'+3,none⟩) cH).trans e3;have e4:=(ai.cell (p:=⟨b',off'+4,none⟩) cH).trans e4;have k0:V.cell? ⟨w.heap.size,0,none⟩=some (.slice (some ⟨b,off,none⟩) (n+1) c):=by rw[<- hV];exact jb5 0 _ rfl
 have k1:V.cell? ⟨w.heap.size,1,none⟩=some (.slice (some ⟨b',off',none⟩) (n+1) d):=by rw[<- hV];exact jb5 1 _ rfl
 have dj:V.heap[w.heap.size+1]?=some (.cells #[.int .u64 0,.int .u64 0,.slice none 0 0,.slice none 0 0,.slice none 0 0] 30 (0,0)):=by rw[<- hV];have:=World.alloc_heap_new (w.alloc (.cells #[.slice (some ⟨b,off,none⟩) (n+1) c,.slice (some ⟨b',off',none⟩) (n+1) d] 130)) (.cells #[.int .u64 0,.int .u64 0,.slice none 0 0,.slice none 0 0,.slice none 0 0] 30);rw[World.size_alloc] at this;exact (Below.heap_alloc _ _ _ (by simp)).trans this
 have eU:V.heap[w.heap.size+1+1]?=some (.cells #[.slice none 0 0,.slice none 0 0] 130 (0,0)):=by rw[<- hV];have:=World.alloc_heap_new ((w.alloc (.cells #[.slice (some ⟨b,off,none⟩) (n+1) c,.slice (some ⟨b',off',none⟩) (n+1) d] 130)).alloc (.cells #[.int .u64 0,.int .u64 0,.slice none 0 0,.slice none 0 0,.slice none 0 0] 30)) (.cells #[.slice none 0 0,.slice none 0 0] 130);rw[World.size_alloc,World.size_alloc] at this;exact this
 obtain⟨b0,b1,b2,b3,b4⟩:=blk5 dj;obtain⟨f0,f1,f2,f3,f4⟩:=fro5 dj;obtain⟨l0,l1⟩:=blk2c eU;have m0:=jzb eU 0;have m1:=jzb eU 1;have HB:=Lh ai;have n1:b≠w.heap.size+1:=by omega
 have n2:b≠w.heap.size+1+1:=by omega
 have n3:b'≠w.heap.size+1:=by omega
 have n4:b'≠w.heap.size+1+1:=by omega
 clear dj eU ai;have HS:Hid (∀ v0 v1 v2 v3 v4 u0 u1,Below w.heap.size w ((((((((V.setCell ⟨w.heap.size+1,0,none⟩ v0).setCell ⟨w.heap.size+1,1,none⟩ v1).setCell ⟨w.heap.size+1,2,none⟩ v2).setCell ⟨w.heap.size+1,3,none⟩ v3).setCell ⟨w.heap.size+1,4,none⟩ v4).setCell ⟨w.heap.size+1+1,0,none⟩ u0).setCell ⟨w.heap.size+1+1,1,none⟩ u1).drew)):=fun v0 v1 v2 v3 v4 u0 u1 =>
   (((((((HB.out.setCell (by simp) _).setCell (by simp) _).setCell (by simp) _).setCell (by simp) _).setCell (by simp) _).setCell (by simp;omega) _).setCell (by simp;omega) _).drew
 have q1:1<=c:=by omega
 have q2:1<=d:=by omega
 go_enter Tryz.func120,Tryz.ntmps120;go_wp2_with fail;go_region
 obtain⟨A2,kC⟩:∃ A2:Option Addr,(if c=1 then some ⟨b,off,none⟩ else some ⟨b,off+1,none⟩)=A2:=⟨_,rfl⟩
 obtain⟨B2,iw⟩:∃ B2:Option Addr,(if d=1 then some ⟨b',off',none⟩ else some ⟨b',off'+5,none⟩)=B2:=⟨_,rfl⟩
 simp only[kC,iw];have yh:Hid (A2=some ⟨b,off+1,none⟩\/l=[]):=by (
 show _\/_
 rw[<- kC];split
 ·exact .inr (nG.out (by omega))
 ·exact .inl rfl)
 have eT:Hid (B2=some ⟨b',off'+5,none⟩\/l=[]):=by (
 show _\/_
 rw[<- iw];split
 ·exact .inr (nG.out (by omega))
 ·exact .inl rfl)
 clear kC iw;go_wp2_with fail;refine bodyPost_ret (jpu rfl _ _ (w.heap.size+1) (w.heap.size+1+1) (.int .u64 xn) (.int .u64 xM) (.slice xK xN.length xL) (.slice xO xQ.length xP) (.slice xR xU.length xS) (.slice A2 n (c - 1)) (.slice B2 n (d - 1)) rfl rfl (by go_simp) (by go_simp) (by go_simp) (by go_simp) (by go_simp) (by go_simp) (by go_simp)) rfl ?_;exact HE.out _ _ _ yh.out eT.out (HS.out _ _ _ _ _ _ _)
def jjk(x:Ck):Value:=x.v
def jja(x y:Ck):Int:=jkv x.l y.l
def OkT(N:Nat)(w:World)(x:Ck):Prop:=x.Inp (fun b=>b<N) w
structure LnT where
  A:Option Addr
  c:Nat
  B:Option Addr
  d:Nat
  l:List (Ck×Vl)
def LnT.val(L:LnT):Value := .agg #[.slice L.A L.l.length L.c,.slice L.B L.l.length L.d]
structure LnT.In (N:Nat) (w:World) (L:LnT):Prop where
  ml:jzt (fun b=>b<N) w L.A (L.l.map fun p=>jjk p.1)
  vl:jzt (fun b=>b<N) w L.B (jzj (L.l.map (·.2)))
  cap:L.l.length<=L.c
  top:L.c<=maxLen
  dap:L.l.length<=L.d
  dop:L.d<=maxLen
  mo:∀ p∈L.l,OkT N w p.1
  vk:∀ p∈L.l,p.2.Inp (fun b=>b<N) w
theorem OkT.keep{N:Nat}{w w':World}{x:Ck}(h:OkT N w x)(hb:Below N w w'):OkT N w' x:=V4.Ck.Inp.keep h fun b hlt=>hb.block b hlt
theorem LnT.In.keep{N:Nat}{w w':World}{L:LnT}(h:L.In N w)(hb:Below N w w'):L.In N w' :=
  ⟨h.ml.keep fun b hlt=>hb.block b hlt,h.vl.keep fun b hlt=>hb.block b hlt,h.cap,h.top,h.dap,h.dop,fun p hp=>(h.mo p hp).keep hb,fun p hp=>(h.vk p hp).keep fun b hlt=>hb.block b hlt⟩
theorem jo3(L K:LnT)(N:Nat)(w:World)(hL:L.In N w)(hK:K.In N w)(hN:N<=w.heap.size):Calls Tryz.prog 130 #[.slice L.A L.l.length L.c,.slice K.A K.l.length K.c,.func (.func 85) #[] #[]] w (jz6 w (.int .i64 (jfu jja L.l K.l))):=by
 obtain⟨A,c,B,d,l⟩:=L;obtain⟨A',c',B',d',l'⟩:=K;have bC:=hL.top;have da:=hK.top;have bD:=hL.cap;have ec:=hK.cap;unfold maxLen at bC da;dsimp only at bC da bD ec ⊢
 cases l' with
 | nil=>(clear hL hK;rw[show jfu jja l [] = -1 by cases l <;> rfl];go_enter Tryz.func130,Tryz.ntmps130;go_wp2_with fail;go_ret;exact⟨rfl,Below.refl _ _⟩)
 | cons y l'=>(
 cases l with
 | nil=>(clear hL hK;rw[show jfu jja [] (y :: l')=1 from rfl];go_enter Tryz.func130,Tryz.ntmps130;go_wp2_with fail;go_ret;exact⟨rfl,Below.refl _ _⟩)
 | cons x l=>(
 obtain⟨b,off,rfl,hb,hc⟩:=hL.ml.get (k:=0) (by simp);obtain⟨b',off',rfl,ct,cP⟩:=hK.ml.get (k:=0) (by simp);have c0:w.cell? ⟨b,off,none⟩=some (jjk x.1):=hc 0 _ rfl;have d0:w.cell? ⟨b',off',none⟩=some (jjk y.1):=cP 0 _ rfl;have HX:=Lh (show OkT w.heap.size w x.1 from (hL.mo x (by simp)).mono fun _ h=>ltl h hN);have HY:=Lh (show OkT w.heap.size w y.1 from (hK.mo y (by simp)).mono fun _ h=>ltl h hN);have HC:Hid (∀ w2,Below w.heap.size w w2->Calls Tryz.prog 85 #[jjk x.1,jjk y.1] w2 (jz6 w2 (.int .i64 (jja x.1 y.1)))):=fun w2 ab=>jli x.1.A y.1.A x.1.c y.1.c x.1.l y.1.l w2 ((V4.Ck.Inp.keep HX.out fun b h=>ab.block b h).mono fun _ h=>ltl h ab.size).inn ((V4.Ck.Inp.keep HY.out fun b h=>ab.block b h).mono fun _ h=>ltl h ab.size).inn
 rw[show jfu jja (x :: l) (y :: l')=jja x.1 y.1 from rfl];obtain⟨q,hq⟩:=exq (jja x.1 y.1);rw[hq] at HC ⊢;obtain⟨u,hu⟩:=exq (jjk x.1);obtain⟨v,hv⟩:=exq (jjk y.1);rw[hu] at HC c0;rw[hv] at HC d0;have k0:(((y :: l').length:Int) == 0)=false:=beq_eq_false_iff_ne.2 (by simp only[List.length_cons];omega);have k1:(((x :: l).length:Int) == 0)=false:=beq_eq_false_iff_ne.2 (by simp only[List.length_cons];omega);have k2:0<(x :: l).length:=by simp
 have k3:0<(y :: l').length:=by simp
 have cD:b<w.heap.size:=ltl hb hN;have cH:b'<w.heap.size:=ltl ct hN;generalize (x :: l).length=n1 at *;generalize (y :: l').length=n2 at *;clear hL hK hc cP hq hu hv HX HY;go_enter Tryz.func130,Tryz.ntmps130;go_wp2_with fail;go_region_held3 (fun w'=>w'.cell? ⟨b,off,none⟩=some u/\w'.cell? ⟨b',off',none⟩=some v)
   (first
     | with_reducible exact⟨c0,d0⟩
     | (refine⟨?_,?_⟩ <;> go_simp))
   (first
     | (go_at_call 85;refine (HC.out _ (C3.jqz w)).mono ?_;rintro e w4 ⟨rfl,ca⟩;(have c0:=(ca.cell (p:=⟨b,off,none⟩) cD).trans c0;have d0:=(ca.cell (p:=⟨b',off',none⟩) cH).trans d0)))
 all_goals (
   go_wp2_with fail
   go_ret
   exact⟨rfl,(C3.jqz w).trans ca⟩)))
theorem jpt{fn:Func}{u p q:Tmp}(h:fn.results=#[.tmp u,.cell p 30,.cell q 143])(tmps:Array Value)(w:World)(g k:Nat)(v0 v1 v2 v3 v4 u0 u1:Value)(hp:tmps.getD p undef = .pointer (some ⟨g,0,none⟩))(hq:tmps.getD q undef = .pointer (some ⟨k,0,none⟩))(h0:w.cell? ⟨g,0,none⟩=some v0)(h1:w.cell? ⟨g,1,none⟩=some v1)(h2:w.cell? ⟨g,2,none⟩=some v2)(h3:w.cell? ⟨g,3,none⟩=some v3)(h4:w.cell? ⟨g,4,none⟩=some v4)(g0:w.cell? ⟨k,0,none⟩=some u0)(g1:w.cell? ⟨k,1,none⟩=some u1):(results fn tmps).run Tryz.prog w = .ok (.tuple #[tmps.getD u undef,.agg #[v0,v1,v2,v3,v4],.agg #[u0,u1]]) w:=by
 have iD:tmps[p]?.getD undef = .pointer (some ⟨g,0,none⟩):=by simpa using hp
 have mg:tmps[q]?.getD undef = .pointer (some ⟨k,0,none⟩):=by simpa using hq
 simp[results,h,iD,mg,asAddr]
 go_simp
def jt1(N c d:Nat)(x:Ck×Vl)(l:List (Ck×Vl))(w:World)(e:Ending)(w':World):Prop :=
  ∃ A' B',e = .returned (.tuple #[jjk x.1,x.2.val,.agg #[.slice A' l.length (c - 1),.slice B' l.length (d - 1)]])/\(LnT.mk A' (c - 1) B' (d - 1) l).In N w'/\Below w.heap.size w w'
theorem jfh(A B:Option Addr)(c d:Nat)(x:Ck×Vl)(l:List (Ck×Vl))(N:Nat)(w:World)(hL:(LnT.mk A c B d (x :: l)).In N w)(hN:N<=w.heap.size):Calls Tryz.prog 131 #[.agg #[.slice A (x :: l).length c,.slice B (x :: l).length d]] w (jt1 N c d x l w):=by
 have bC:=hL.top;have bD:=hL.cap;have mU:=hL.dop;have iP:=hL.dap;unfold maxLen at bC mU;dsimp only at bC bD mU iP
 have lL:=hL.ml;have nO:=hL.vl;dsimp only at lL nO
 obtain⟨b,off,rfl,hb,hc⟩:=lL.get (k:=0) (by simp);have c0:w.cell? ⟨b,off,none⟩=some (jjk x.1):=hc 0 _ rfl;obtain⟨b',off',rfl,ct,e0,e1,e2,e3,e4⟩:=V4.jqo nO (k:=0) (x:=x.2) rfl;rw[Nat.zero_mul,Nat.add_zero] at e0 e1 e2 e3 e4;have iC:jzt (fun b=>b<N) w (some ⟨b,off+1,none⟩) (l.map fun p=>jjk p.1):=jzt.tail (u:=[jjk x.1]) lL;have u5:jzt (fun b=>b<N) w (some ⟨b',off'+5,none⟩) (jzj (l.map (·.2))):=jzt.tail (u:=V4.jwt x.2) (by rw[show V4.jwt x.2++jzj (l.map (·.2))=jzj ((x :: l).map (·.2)) by simp[jzj,V4.jwt]];exact nO);have HE:Hid (∀ (A' B':Option Addr) (w':World),(A'=some ⟨b,off+1,none⟩\/l=[])->(B'=some ⟨b',off'+5,none⟩\/l=[])->Below w.heap.size w w'->jt1 N c d x l w (.returned (.tuple #[jjk x.1,x.2.val,.agg #[.slice A' l.length (c - 1),.slice B' l.length (d - 1)]])) w'):=by (
 intro A' B' w' hA hB ar;refine⟨A',B',rfl,?_,ar⟩;have h1:(LnT.mk A' (c - 1) B' (d - 1) l).In N w:=by (
 refine⟨?_,?_,?_,?_,?_,?_,fun p hp=>hL.mo p (by simp[hp]),fun p hp=>hL.vk p (by simp[hp])⟩
 ·(
 rcases hA with rfl | rfl
 ·exact iC
 ·exact .inl rfl)
 ·(
 rcases hB with rfl | rfl
 ·exact u5
 ·exact .inl rfl)
 ·simp only[List.length_cons] at bD ⊢;omega
 ·unfold maxLen;show _ - 1<=_;omega
 ·simp only[List.length_cons] at iP ⊢;omega
 ·unfold maxLen;show _ - 1<=_;omega)
 exact h1.keep (ar.mono hN))
 clear hL lL nO hc iC u5;obtain⟨xm,xn,xM,xK,xL,xN,xO,xP,xQ,xR,xS,xU⟩:=x;simp only[jzh,List.length_cons] at HE e0 e1 e2 e3 e4 bD iP c0 ⊢;simp only[V4.Vl.n,V4.Vl.m,V4.Vl.s1,V4.Vl.c1,V4.Vl.v1] at e0 e1 e2 e3 e4;obtain⟨u,hu⟩:=exq (jjk xm);rw[hu] at HE c0;clear hu;have nG:Hid (l.length=0->l=[]):=List.eq_nil_of_length_eq_zero;obtain⟨n,hn⟩:=exq (l.length);simp only[hn] at HE nG bD iP ⊢;clear hn;have cD:b<w.heap.size:=ltl hb hN;have cH:b'<w.heap.size:=ltl ct hN;clear hb ct hN;obtain⟨V,hV⟩:=exq (((w.alloc (.cells #[.slice (some ⟨b,off,none⟩) (n+1) c,.slice (some ⟨b',off',none⟩) (n+1) d] 143)).alloc (.cells #[.int .u64 0,.int .u64 0,.slice none 0 0,.slice none 0 0,.slice none 0 0] 30)).alloc (.cells #[.slice none 0 0,.slice none 0 0] 143));have ai:Below w.heap.size w V:=by rw[<- hV];exact jzk (jzk (jzk (Below.refl _ _)))
 have c0:=(ai.cell (p:=⟨b,off,none⟩) cD).trans c0;have e0:=(ai.cell (p:=⟨b',off',none⟩) cH).trans e0;have e1:=(ai.cell (p:=⟨b',off'+1,none⟩) cH).trans e1;have e2:=(ai.cell (p:=⟨b',off'+2,none⟩) cH).trans e2;have e3:=(ai.cell (p:=⟨b',off'+3,none⟩) cH).trans e3;have e4:=(ai.cell (p:=⟨b',off'+4,none⟩) cH).trans e4;have k0:V.cell? ⟨w.heap.size,0,none⟩=some (.slice (some ⟨b,off,none⟩) (n+1) c):=by rw[<- hV];exact jb5 0 _ rfl
 have k1:V.cell? ⟨w.heap.size,1,none⟩=some (.slice (some ⟨b',off',none⟩) (n+1) d):=by rw[<- hV];exact jb5 1 _ rfl
 have dj:V.heap[w.heap.size+1]?=some (.cells #[.int .u64 0,.int .u64 0,.slice none 0 0,.slice none 0 0,.slice none 0 0] 30 (0,0)):=by rw[<- hV];have:=World.alloc_heap_new (w.alloc (.cells #[.slice (some ⟨b,off,none⟩) (n+1) c,.slice (some ⟨b',off',none⟩) (n+1) d] 143)) (.cells #[.int .u64 0,.int .u64 0,.slice none 0 0,.slice none 0 0,.slice none 0 0] 30);rw[World.size_alloc] at this;exact (Below.heap_alloc _ _ _ (by simp)).trans this
 have eU:V.heap[w.heap.size+1+1]?=some (.cells #[.slice none 0 0,.slice none 0 0] 143 (0,0)):=by rw[<- hV];have:=World.alloc_heap_new ((w.alloc (.cells #[.slice (some ⟨b,off,none⟩) (n+1) c,.slice (some ⟨b',off',none⟩) (n+1) d] 143)).alloc (.cells #[.int .u64 0,.int .u64 0,.slice none 0 0,.slice none 0 0,.slice none 0 0] 30)) (.cells #[.slice none 0 0,.slice none 0 0] 143);rw[World.size_alloc,World.size_alloc] at this;exact this
 obtain⟨b0,b1,b2,b3,b4⟩:=blk5 dj;obtain⟨f0,f1,f2,f3,f4⟩:=fro5 dj;obtain⟨l0,l1⟩:=blk2c eU;have m0:=jzb eU 0;have m1:=jzb eU 1;have HB:=Lh ai;have n1:b≠w.heap.size+1:=by omega
 have n2:b≠w.heap.size+1+1:=by omega
 have n3:b'≠w.heap.size+1:=by omega
 have n4:b'≠w.heap.size+1+1:=by omega
 clear dj eU ai;have HS:Hid (∀ v0 v1 v2 v3 v4 u0 u1,Below w.heap.size w ((((((((V.setCell ⟨w.heap.size+1,0,none⟩ v0).setCell ⟨w.heap.size+1,1,none⟩ v1).setCell ⟨w.heap.size+1,2,none⟩ v2).setCell ⟨w.heap.size+1,3,none⟩ v3).setCell ⟨w.heap.size+1,4,none⟩ v4).setCell ⟨w.heap.size+1+1,0,none⟩ u0).setCell ⟨w.heap.size+1+1,1,none⟩ u1).drew)):=fun v0 v1 v2 v3 v4 u0 u1 =>
   (((((((HB.out.setCell (by simp) _).setCell (by simp) _).setCell (by simp) _).setCell (by simp) _).setCell (by simp) _).setCell (by simp;omega) _).setCell (by simp;omega) _).drew
 have q1:1<=c:=by omega
 have q2:1<=d:=by omega
 go_enter Tryz.func131,Tryz.ntmps131;go_wp2_with fail;go_region
 obtain⟨A2,kC⟩:∃ A2:Option Addr,(if c=1 then some ⟨b,off,none⟩ else some ⟨b,off+1,none⟩)=A2:=⟨_,rfl⟩
 obtain⟨B2,iw⟩:∃ B2:Option Addr,(if d=1 then some ⟨b',off',none⟩ else some ⟨b',off'+5,none⟩)=B2:=⟨_,rfl⟩
 simp only[kC,iw];have yh:Hid (A2=some ⟨b,off+1,none⟩\/l=[]):=by (
 show _\/_
 rw[<- kC];split
 ·exact .inr (nG.out (by omega))
 ·exact .inl rfl)
 have eT:Hid (B2=some ⟨b',off'+5,none⟩\/l=[]):=by (
 show _\/_
 rw[<- iw];split
 ·exact .inr (nG.out (by omega))
 ·exact .inl rfl)
 clear kC iw;go_wp2_with fail;refine bodyPost_ret (jpt rfl _ _ (w.heap.size+1) (w.heap.size+1+1) (.int .u64 xn) (.int .u64 xM) (.slice xK xN.length xL) (.slice xO xQ.length xP) (.slice xR xU.length xS) (.slice A2 n (c - 1)) (.slice B2 n (d - 1)) rfl rfl (by go_simp) (by go_simp) (by go_simp) (by go_simp) (by go_simp) (by go_simp) (by go_simp)) rfl ?_;exact HE.out _ _ _ yh.out eT.out (HS.out _ _ _ _ _ _ _)
end J5
end Go.Proofs.YtobggoephhjofaaGreatDoor
