/- A part. No condition. -/
import Derived.Test.YtobggoephhjofaaGreatDoorMk07
import Derived.RangeFuncNested
import Derived.RangeFuncBound
import Derived.RangeFuncCalls
import Derived.RangeFuncLeaves
import Derived.Shelf.Abstract
import Derived.Shelf.RegionOpen
import Derived.OwnWalkIn
import Derived.TacticsInMore
import Derived.LoopNIn
import Derived.LoopIn
import Derived.Sort.QuietIn
set_option maxRecDepth 100000
set_option maxHeartbeats 16000000
namespace Go.Proofs.YtobggoephhjofaaGreatDoor
namespace C3
open Go.RowKit
theorem jrc{a b ys:List Tk}{k:Nat}{y:Tk}(h:ys=jjo a (b.take k))(hy:b[k]?=some y):jxa ys y.k y.n=jjo a (b.take (k+1)):=by
 obtain⟨hi,he⟩:=List.getElem?_eq_some_iff.1 hy;rw[List.take_succ_eq_append_getElem hi,he,h];unfold jjo;rw[List.foldl_append];rfl
theorem jnc{a b ys:List Tk}{k:Nat}(h:ys=jjo a (b.take k))(hk:b.length<=k):ys=jjo a b:=by rwa [List.take_of_length_le hk] at h
theorem jg4(x:Int)(w:World):Calls Tryz.prog 168 #[.int .i64 x] w fun e w'=>e = .returned (.bool false)/\w=w':=by
 go_enter Tryz.func168,Tryz.ntmps168;go_wp2
 go_ret;exact⟨rfl,rfl⟩
def jjd(x y:Int):Int:=if x<y then -1 else if y<x then 1 else 0
theorem jxz{x y:Int}(h:x<y):jjd x y = -1:=if_pos h
theorem jjb{x y:Int}(h:y<x):jjd x y=1:=by unfold jjd;rw[if_neg (by omega),if_pos h]
theorem jjc(x:Int):jjd x x=0:=by unfold jjd;rw[if_neg (by omega),if_neg (by omega)]
theorem jj1(x y:Int)(w:World):Calls Tryz.prog 156 #[.int .i64 x,.int .i64 y] w fun e w'=>e = .returned (.int .i64 (jjd x y))/\w=w':=by
 rcases Int.lt_trichotomy x y with h | h | h
 ·(
 rw[jxz h];go_enter Tryz.func156,Tryz.ntmps156;go_wp2_with (go_at_call 168;refine (jg4 _ _).mono ?_;rintro e w' ⟨rfl,rfl⟩)
 go_ret;exact⟨rfl,rfl⟩)
 ·(
 subst h;rw[jjc];go_enter Tryz.func156,Tryz.ntmps156;go_wp2_with (go_at_call 168;refine (jg4 _ _).mono ?_;rintro e w' ⟨rfl,rfl⟩)
 go_ret;exact⟨rfl,rfl⟩)
 ·(
 rw[jjb h];have h1:¬ x<y:=by omega
 go_enter Tryz.func156,Tryz.ntmps156;go_wp2_with (go_at_call 168;refine (jg4 _ _).mono ?_;rintro e w' ⟨rfl,rfl⟩)
 go_ret;exact⟨rfl,rfl⟩)
theorem jkw(xk xn yk yn:Int)(w:World):Calls Tryz.prog 127 #[.agg #[.int .i64 xk,.int .u64 xn],.agg #[.int .i64 yk,.int .u64 yn]] w (jz6 w (.int .i64 (jjd xk yk))):=by
 go_enter Tryz.func127,Tryz.ntmps127;go_wp2_with (go_at_call 156;refine (jj1 _ _ _).mono ?_;rintro e w' ⟨rfl,rfl⟩)
 go_ret;exact⟨rfl,jzk (jzk (Below.refl _ _))⟩
theorem jr3(xk xn:Int)(w:World):Calls Tryz.prog 164 #[.agg #[.int .i64 xk,.int .u64 xn]] w (jz6 w (.bool (bad ⟨xk,xn⟩))):=by
 obtain⟨p,hp⟩:=exq (bad ⟨xk,xn⟩);rw[hp];unfold bad at hp;dsimp only at hp
 by_cases c1:xk<0
 ·(
 simp[c1] at hp
 subst hp;go_enter Tryz.func164,Tryz.ntmps164;go_wp2_with fail;go_ret;exact⟨rfl,jzf _ _⟩)
 ·(
 have d1:decide (xk<0)=false:=decide_eq_false c1;by_cases c2:1000000<xk
 ·(
 simp[c2] at hp
 subst hp;go_enter Tryz.func164,Tryz.ntmps164;go_wp2_with fail;go_ret;exact⟨rfl,jzf _ _⟩)
 ·(
 have d2:decide (1000000<xk)=false:=decide_eq_false c2;by_cases c3:xn=0
 ·(
 simp[c3] at hp
 subst hp;subst c3;go_enter Tryz.func164,Tryz.ntmps164;go_wp2_with fail;go_ret;exact⟨rfl,jzf _ _⟩)
 ·(
 simp[c1,c2,c3] at hp
 subst hp;have d3:(xn == 0)=false:=by simp[c3]
 go_enter Tryz.func164,Tryz.ntmps164;go_wp2_with fail;go_ret;exact⟨rfl,jzf _ _⟩)))
def RetK(w:World)(t:Tk)(e:Ending)(w':World):Prop:=e = .returned (.agg #[.int .i64 t.k,.int .u64 t.n])/\Below w.heap.size w w'
theorem jg0(xk xn yk yn:Int)(w:World):Calls Tryz.prog 128 #[.agg #[.int .i64 xk,.int .u64 xn],.agg #[.int .i64 yk,.int .u64 yn]] w (RetK w (jjy ⟨xk,xn⟩ ⟨yk,yn⟩)):=by
 by_cases h:xn<yn
 ·(
 have e:jjy ⟨xk,xn⟩ ⟨yk,yn⟩=⟨yk,yn⟩:=by unfold jjy;rw[if_pos h]
 rw[e];go_enter Tryz.func128,Tryz.ntmps128;go_wp2_with fail;refine bodyPost_ret (jjm rfl _ _ (w.heap.size+1+1) (.int .i64 yk) (.int .u64 yn) rfl (by go_simp) (by go_simp)) rfl ?_;exact⟨rfl,jzk (jzk (jzk (Below.refl _ _)))⟩)
 ·(
 have e:jjy ⟨xk,xn⟩ ⟨yk,yn⟩=⟨xk,xn⟩:=by unfold jjy;rw[if_neg h]
 rw[e];go_enter Tryz.func128,Tryz.ntmps128;go_wp2_with fail;refine bodyPost_ret (jjm rfl _ _ (w.heap.size+1+1) (.int .i64 xk) (.int .u64 xn) rfl (by go_simp) (by go_simp)) rfl ?_;exact⟨rfl,jzk (jzk (jzk (Below.refl _ _)))⟩)
theorem asc_fall{l:List Tk}{i:Nat}{x y:Tk}(hy:l[i]?=some y)(hx:l[i+1]?=some x)(hb:x.k<=y.k):decide (Asc l)=false:=by
 refine decide_eq_false fun h=>?_
 obtain⟨h1,e1⟩:=List.getElem?_eq_some_iff.1 hy;obtain⟨h2,e2⟩:=List.getElem?_eq_some_iff.1 hx;have:=List.pairwise_iff_getElem.1 h i (i+1) h1 h2 (by omega);rw[e1,e2] at this;omega
theorem asc_end{l:List Tk}{i:Nat}(h1:Asc (l.take i))(hi:l.length<=i):decide (Asc l)=true:=by
 rw[List.take_of_length_le hi] at h1;exact decide_eq_true h1
theorem jia(l:List Tk):Asc (l.take 1):=by
 cases l with
 | nil=>exact List.Pairwise.nil
 | cons x l=>exact List.pairwise_singleton _ _
theorem jgk(A:Option Addr)(c:Nat)(l:List Tk)(w:World)(h:In w A c l):Calls Tryz.prog 162 #[.slice A l.length c,.func (.func 127) #[] #[]] w (jz6 w (.bool (decide (Asc l)))):=by
 obtain⟨hl,bD,bC,-⟩:=h;have eI:l.length<=9223372036854775807:=by unfold maxLen at bC;omega
 clear bD bC;go_enter Tryz.func162,Tryz.ntmps162;go_wp2_with fail;go_loopw [5] (fun iv wr=>∃ k:Nat,iv = .int .i64 ((k:Int)+1)/\(k<=l.length)/\Hid (Asc (l.take (k+1)))/\Below w.heap.size w wr) (fun iv _=>l.length+1 - (intOf iv).toNat)
 case atStart=>exact⟨0,rfl,Nat.zero_le _,jia l,Below.refl _ _⟩
 case round=>(
 obtain⟨k,rfl,hk,h1,ar⟩:=hrel;by_cases hlt:k+1<l.length
 ·(
 obtain⟨b,off,rfl,hb,hc⟩:=(hl.below ar).get hlt;obtain⟨x,hx⟩:∃ x,l[k+1]?=some x:=⟨_,List.getElem?_eq_getElem hlt⟩
 obtain⟨y,hy⟩:∃ y,l[k]?=some y:=⟨_,List.getElem?_eq_getElem (by omega)⟩
 obtain⟨cq,cB⟩:=hc (k+1) x hx;obtain⟨fI,fM⟩:=hc k y hy;have HX:=Lh hx;have HY:=Lh hy;clear hx hy hc hl;obtain⟨xk,xn⟩:=x;obtain⟨yk,yn⟩:=y;dsimp only at cq cB fI fM
 have lj:(k:Int)+1<(l.length:Int):=by omega
 have hki0:(k:Int)<(l.length:Int):=by omega
 have eM:=Lh ar;have s1:IntKind.i64.wrap (k:Int)=(k:Int):=IntWalk.i64_in _ (by omega);have s2:0<=(k:Int)+1:=by omega
 have s3:((k:Int)+1).toNat=k+1:=by omega
 clear ar;go_wp2_with fail;go_still_tail 10,(by kernel_rfl)
 change wpList _ _ _ _ _ wr.drew;clear s1 s2 s3;go_wp2_with fail;refine (jkw yk yn xk xn _).mono ?_;rintro e w4 ⟨rfl,ca⟩;have kb:Below w.heap.size w w4:=(eM.out.drew).trans (ca.mono eM.out.size);by_cases c4:yk<xk
 ·(
 have HC:=Lh c4;rw[jxz c4];clear c4;go_wp2_with fail;go_roundw
 case rel=>exact⟨k+1,by go_num,by omega,jtx h1.out HY.out HX.out HC.out,kb⟩
 case measure=>simp[intOf];omega)
 ·(
 have HC:Hid (xk<=yk):=by show xk<=yk;omega
 have c5:0<=jjd yk xk:=by unfold jjd;rw[if_neg c4];split <;> omega
 generalize jjd yk xk=q at *;clear c4;go_wp2_with fail;go_ret;exact⟨jzi (asc_fall HY.out HX.out HC.out).symm,kb⟩))
 ·(go_wp2_with fail;go_ret;exact⟨jzi (asc_end h1.out (by omega)).symm,ar⟩))
end C3
namespace J5
open C3 (Tk jz0 jxt jjd)
open S2 (Tr)
open V4 (Va jz2)
open R1 (jqm)
def jx1(a b:Str):Int:=if a<b then -1 else if b<a then 1 else 0
def jkv(a b:List Tk):Int:=if jz2 a b=true then -1 else if jz2 b a=true then 1 else 0
def mix{M V:Type}(c:M->M->Int)(z:V):List (M×V)->List (M×V)->List (M×V×V)
  | [],b=>b.map fun p=>(p.1,z,p.2)
  | x :: a,[]=>(x :: a).map fun p=>(p.1,p.2,z)
  | x :: a,y :: b=>if c x.1 y.1<0 then (x.1,x.2,z) :: mix c z a (y :: b) else if 0<c x.1 y.1 then (y.1,z,y.2) :: mix c z (x :: a) b else (y.1,x.2,y.2) :: mix c z a b
termination_by a b=>a.length+b.length
section
variable {M V:Type} (c:M->M->Int) (z:V)
theorem jdw:mix c z [] []=[]:=by rw[mix];rfl
theorem jcj(y:M×V)(b:List (M×V)):mix c z [] (y :: b)=(y.1,z,y.2) :: mix c z [] b:=by rw[mix,mix];rfl
theorem jtc(x:M×V)(a:List (M×V)):mix c z (x :: a) []=(x.1,x.2,z) :: mix c z a []:=by
 rw[mix];cases a with
 | nil=>rw[mix];rfl
 | cons y a=>rw[mix];rfl
theorem jk8{x y:M×V}(a b:List (M×V))(h:c x.1 y.1<0):mix c z (x :: a) (y :: b)=(x.1,x.2,z) :: mix c z a (y :: b):=by rw[mix,if_pos h]
theorem jk9{x y:M×V}(a b:List (M×V))(h:0<c x.1 y.1):mix c z (x :: a) (y :: b)=(y.1,z,y.2) :: mix c z (x :: a) b:=by rw[mix,if_neg (by omega),if_pos h]
theorem jva{x y:M×V}(a b:List (M×V))(h:c x.1 y.1=0):mix c z (x :: a) (y :: b)=(y.1,x.2,y.2) :: mix c z a b:=by rw[mix,if_neg (by omega),if_neg (by omega)]
theorem mix_len(a b:List (M×V)):(mix c z a b).length<=a.length+b.length:=by
 induction a,b using mix.induct (c:=c) with
 | case1 b=>rw[mix];simp
 | case2 x a=>rw[mix];simp
 | case3 x a y b h ih=>rw[jk8 c z a b h];simp only[List.length_cons] at ih ⊢;omega
 | case4 x a y b h h2 ih=>rw[jk9 c z a b h2];simp only[List.length_cons] at ih ⊢;omega
 | case5 x a y b h h2 ih=>rw[jva c z a b (by omega)];simp only[List.length_cons] at ih ⊢;omega
theorem jyv{p:M×V×V}(a b:List (M×V))(h:p∈mix c z a b):((∃ x∈a,x.2=p.2.1)\/p.2.1=z)/\((∃ y∈b,y.2=p.2.2)\/p.2.2=z)/\((∃ x∈a,x.1=p.1)\/∃ y∈b,y.1=p.1):=by
 induction a,b using mix.induct (c:=c) with
 | case1 b=>(rw[mix] at h;obtain⟨y,hy,rfl⟩:=List.mem_map.1 h;exact⟨.inr rfl,.inl ⟨y,hy,rfl⟩,.inr ⟨y,hy,rfl⟩⟩)
 | case2 x a=>(rw[mix] at h;obtain⟨y,hy,rfl⟩:=List.mem_map.1 h;exact⟨.inl ⟨y,hy,rfl⟩,.inr rfl,.inl ⟨y,hy,rfl⟩⟩)
 | case3 x a y b h1 ih=>(
 rw[jk8 c z a b h1] at h;rcases List.mem_cons.1 h with rfl | h
 ·exact⟨.inl ⟨x,by simp,rfl⟩,.inr rfl,.inl ⟨x,by simp,rfl⟩⟩
 ·(obtain⟨i1,i2,i3⟩:=ih h;exact⟨i1.imp (fun ⟨q,hq,e⟩=>⟨q,by simp[hq],e⟩) id,i2,i3.imp (fun ⟨q,hq,e⟩=>⟨q,by simp[hq],e⟩) id⟩))
 | case4 x a y b h1 h2 ih=>(
 rw[jk9 c z a b h2] at h;rcases List.mem_cons.1 h with rfl | h
 ·exact⟨.inr rfl,.inl ⟨y,by simp,rfl⟩,.inr ⟨y,by simp,rfl⟩⟩
 ·(obtain⟨i1,i2,i3⟩:=ih h;exact⟨i1,i2.imp (fun ⟨q,hq,e⟩=>⟨q,by simp[hq],e⟩) id,i3.imp id (fun ⟨q,hq,e⟩=>⟨q,by simp[hq],e⟩)⟩))
 | case5 x a y b h1 h2 ih=>(
 rw[jva c z a b (by omega)] at h;rcases List.mem_cons.1 h with rfl | h
 ·exact⟨.inl ⟨x,by simp,rfl⟩,.inl ⟨y,by simp,rfl⟩,.inr ⟨y,by simp,rfl⟩⟩
 ·(obtain⟨i1,i2,i3⟩:=ih h;exact⟨i1.imp (fun ⟨q,hq,e⟩=>⟨q,by simp[hq],e⟩) id,i2.imp (fun ⟨q,hq,e⟩=>⟨q,by simp[hq],e⟩) id,i3.imp (fun ⟨q,hq,e⟩=>⟨q,by simp[hq],e⟩) (fun ⟨q,hq,e⟩=>⟨q,by simp[hq],e⟩)⟩))
end
theorem jht{M V M' V':Type}{c:M->M->Int}{c':M'->M'->Int}{z:V}{z':V'}(f:M->M')(g:V->V')(hc:∀ x y,c x y=c' (f x) (f y))(hz:g z=z')(a b:List (M×V)):(mix c z a b).map (fun p=>(f p.1,g p.2.1,g p.2.2))=mix c' z' (a.map fun p=>(f p.1,g p.2)) (b.map fun p=>(f p.1,g p.2)):=by
 induction a,b using mix.induct (c:=c) with
 | case1 b=>rw[mix,List.map_nil,mix];simp[hz]
 | case2 x a=>rw[mix];simp only[List.map_cons,List.map_nil];rw[mix];simp[hz]
 | case3 x a y b h ih=>rw[jk8 c z a b h,List.map_cons,List.map_cons,List.map_cons,jk8 c' z' _ _ (by rw[<- hc];exact h),ih,hz,List.map_cons]
 | case4 x a y b h h2 ih=>rw[jk9 c z a b h2,List.map_cons,List.map_cons,List.map_cons,jk9 c' z' _ _ (by rw[<- hc];exact h2),ih,hz,List.map_cons]
 | case5 x a y b h h2 ih=>(
 have h0:c x.1 y.1=0:=by omega
 rw[jva c z a b h0,List.map_cons,List.map_cons,List.map_cons,jva c' z' _ _ (by rw[<- hc];exact h0),ih])
def jxf{M V W:Type}(f:V->V->Option W):List (M×V×V)->Option (List (M×W))
  | []=>some []
  | p :: l=>(f p.2.1 p.2.2).bind fun v=>(jxf f l).map fun r=>(p.1,v) :: r
def jwy{M V W:Type}(f:V->V->Option W)(l:List (M×V×V)):Option (List (M×W)):=if 40<l.length then none else jxf f l
theorem jky{M V W:Type}(f:V->V->Option W)(p:M×V×V):∀ l:List (M×V×V),jxf f (l++[p])=(jxf f l).bind fun r=>(f p.2.1 p.2.2).map fun v=>r++[(p.1,v)]
  | []=>by simp only[List.nil_append,jxf,Option.bind_some,Option.map_some];cases f p.2.1 p.2.2 <;> rfl
  | q :: l=>by
    rw[List.cons_append,jxf,jxf,jky f p l]
    cases f q.2.1 q.2.2 with
    | none=>rfl
    | some v =>
      cases jxf f l with
      | none=>rfl
      | some r =>
        cases f p.2.1 p.2.2 <;> rfl
theorem jkf{M V W:Type}(f:V->V->Option W):∀ (l r:List (M×V×V)),jxf f l=none->jxf f (l++r)=none
  | [],_,h=>by simp[jxf] at h
  | q :: l,r,h=>by
    rw[List.cons_append,jxf]
    rw[jxf] at h
    cases hf:f q.2.1 q.2.2 with
    | none=>rfl
    | some v =>
      rw[hf] at h
      cases ha:jxf f l with
      | none=>rw[jkf f l r ha];rfl
      | some x=>rw[ha] at h;simp at h
theorem jph{M V W:Type}{f:V->V->Option W}{l:List (M×V×V)}{k:Nat}{p:M×V×V}{r:List (M×W)}(hp:l[k]?=some p)(h:jxf f (l.take k)=some r):jxf f (l.take (k+1))=(f p.2.1 p.2.2).map fun v=>r++[(p.1,v)]:=by
 obtain⟨hk,he⟩:=List.getElem?_eq_some_iff.1 hp;rw[List.take_succ_eq_append_getElem hk,he,jky,h];rfl
theorem jc7{M V W:Type}{f:V->V->Option W}{l:List (M×V×V)}{k:Nat}{p:M×V×V}{r:List (M×W)}(hp:l[k]?=some p)(h:jxf f (l.take k)=some r)(hn:f p.2.1 p.2.2=none):jwy f l=none:=by
 have h1:jxf f (l.take (k+1))=none:=by rw[jph hp h,hn];rfl
 have:=jkf f _ (l.drop (k+1)) h1;rw[List.take_append_drop] at this;unfold jwy;split
 ·rfl
 ·exact this
def jjl:List Str->List Str->Int
  | [],[]=>0
  | [],_ :: _=>-1
  | _ :: _,[]=>1
  | x :: a,y :: b=>if jx1 x y=0 then jjl a b else jx1 x y
def jxc(x y:Va):Int:=if jjd x.n y.n=0 then (if jjd x.m y.m=0 then jjl x.s y.s else jjd x.m y.m) else jjd x.n y.n
def jj4(x y:Va):Va:=if jxc x y<0 then .mk y.n y.m y.s [] [] else .mk x.n x.m x.s [] []
def jke(x y:Va):Option Va:=if (x.c++y.c).foldl jz0 []=[] then some .zero else if 40<((x.c++y.c).foldl jz0 []).length then none else some (.mk 0 0 [] [(x.c++y.c).foldl jz0 []] [])
def jq7(x:Va)(i:Nat):Va:=x.v[i]?.getD .zero
def setE(x y:Va):Option Va:=if 40<(jqm x.s y.s).length then none else some (.mk 0 0 (jqm x.s y.s) [] [])
def jw1(l:List Tk)(cs:List (List Tk)):Bool:=cs.any fun o=>decide (jxt l o = -1)
def jo2(f:Va->Va->Option Va)(x y:Va):Option Va:=(jwy f (mix jx1 .zero (x.s.zip x.v) (y.s.zip y.v))).map fun l => .mk 0 0 (l.map (·.1)) [] (l.map (·.2))
def jwu(f:Va->Va->Option Va)(x y:Va):Option Va:=(jwy f ((mix jkv .zero (x.c.zip x.v) (y.c.zip y.v)).filter fun p=>!jw1 p.1 (x.c++y.c))).map fun l => .mk 0 0 [] (l.map (·.1)) (l.map (·.2))
def jmq(f g:Va->Va->Option Va)(x y:Va):Option Va:=(f (jq7 x 0) (jq7 y 0)).bind fun u=>(g (jq7 x 1) (jq7 y 1)).map fun v => .mk 0 0 [] [] [u,v]
def jzp:Tr->Va->Va->Option Va
  | .mk k [],x,y=>if k=3 then setE x y else if k=6 then some (jj4 x y) else if k=7 then jke x y else some (.mk (max x.n y.n) 0 [] [] [])
  | .mk k [a],x,y=>if k=4 then jo2 (jzp a) x y else jwu (jzp a) x y
  | .mk _ [a,b],x,y=>jmq (jzp a) (jzp b) x y
  | .mk _ (_ :: _ :: _ :: _),_,_=>none
end J5
namespace V4
open Go.RowKit Go.Shelf
structure KN (D B:Nat) (W W':World):Prop where
  size:W.heap.size<=W'.heap.size
  same:∀ (b:Nat) (o:Obj),W.heap[b]?=some o->(o.isCells=true/\b≠D\/B<=b)->W'.heap[b]?=some o
theorem KN.refl(D B:Nat)(W:World):KN D B W W:=⟨Nat.le_refl _,fun _ _ h _=>h⟩
theorem KN.trans{D B:Nat}{X Y Z:World}(h:KN D B X Y)(k:KN D B Y Z):KN D B X Z:=⟨leT h.size k.size,fun b o h1 h2=>k.same b o (h.same b o h1 h2) h2⟩
theorem KN.mono{D B B':Nat}{W W':World}(h:KN D B W W')(hB:B<=B'):KN D B' W W':=⟨h.size,fun b o h1 h2=>h.same b o h1 (h2.imp id fun h=>leT hB h)⟩
theorem KN.of_below{D B:Nat}{W W':World}(h:Below W.heap.size W W'):KN D B W W':=⟨h.size,fun b _ h1 _=>(h.block b (Array.getElem?_eq_some_iff.1 h1).1).trans h1⟩
theorem KN.later{D B:Nat}{W X Y:World}(h:KN D B W X)(hb:Below W.heap.size X Y):KN D B W Y :=
  ⟨leT h.size hb.size,fun b o h1 h2=>(hb.block b (Array.getElem?_eq_some_iff.1 h1).1).trans (h.same b o h1 h2)⟩
theorem KN.put{D B l:Nat}{W:World}{o:Obj}(h:W.heap[l]?=some o)(ho:o.isCells=false)(hl:l<B)(o':Obj):KN D B W (W.putObj l o') :=
  ⟨by simp,fun b o2 h1 h2=>by
    have hne:b≠l:=fun e=>by
      subst e;rw[h] at h1;cases h1
      rcases h2 with ⟨h2,_⟩ | h2
      · rw[ho] at h2;cases h2
      · omega
    rw[World.putObj_heap_other hne];exact h1⟩
theorem KN.cell{D B:Nat}{W W':World}(h:KN D B W W'){b o:Nat}{v:Value}(hb:b≠D)(hc:W.cell? ⟨b,o,none⟩=some v):W'.cell? ⟨b,o,none⟩=some v:=by
 obtain⟨ob,h1,h2⟩:=cells_of_cell hc;exact (World.cell?_of_block (a:=⟨b,o,none⟩) ((h.same b ob h1 (.inl ⟨h2,hb⟩)).trans h1.symm)).trans hc
theorem KN.boxed{D B:Nat}{W W':World}(h:KN D B W W'){b:Nat}{t:TypeId}{v:Value}(hb:b≠D)(hc:Boxed W b t v):Boxed W' b t v:=h.same b _ hc (.inl ⟨rfl,hb⟩)
structure KF (B:Nat) (W W':World):Prop where
  size:W.heap.size<=W'.heap.size
  same:∀ (b:Nat) (o:Obj),B<=b->W.heap[b]?=some o->W'.heap[b]?=some o
theorem KN.kf{D B:Nat}{W W':World}(h:KN D B W W'):KF B W W':=⟨h.size,fun b o h1 h2=>h.same b o h2 (.inr h1)⟩
theorem KF.trans{B:Nat}{X Y Z:World}(h:KF B X Y)(k:KF B Y Z):KF B X Z:=⟨leT h.size k.size,fun b o h1 h2=>k.same b o h1 (h.same b o h1 h2)⟩
theorem KF.mono{B B':Nat}{W W':World}(h:KF B W W')(hB:B<=B'):KF B' W W':=⟨h.size,fun b o h1 h2=>h.same b o (leT hB h1) h2⟩
theorem KF.later{B:Nat}{W X Y:World}(h:KF B W X)(hb:Below W.heap.size X Y):KF B W Y :=
  ⟨leT h.size hb.size,fun b o h1 h2=>(hb.block b (Array.getElem?_eq_some_iff.1 h2).1).trans (h.same b o h1 h2)⟩
theorem KF.of_below{B:Nat}{W W':World}(h:Below W.heap.size W W'):KF B W W':=(KN.of_below (D:=0) h).kf
theorem KF.put{B l:Nat}{W:World}(hl:l<B)(o':Obj):KF B W (W.putObj l o'):=⟨by simp,fun b o2 h1 h2=>by rw[World.putObj_heap_other (by omega)];exact h2⟩
theorem KF.set{B b:Nat}{W:World}(hb:b<B)(v:Value):KF B W (W.setCell ⟨b,0,none⟩ v):=⟨by simp,fun k o h1 h2=>(Below.heap_setCell _ _ _ _ (by simp only;omega)).trans h2⟩
theorem KF.boxed{B:Nat}{W W':World}(h:KF B W W'){b:Nat}{t:TypeId}{v:Value}(hb:B<=b)(hc:Boxed W b t v):Boxed W' b t v:=h.same b _ hb hc
theorem KN.from{D B:Nat}{W W':World}(h:KN D B W W'):KeepsFrom B W W':=⟨h.size,fun b o h1 h2 _=>h.same b o h2 (.inr h1)⟩
def Ab{β:Type}(B:Nat)(J:β->World->Prop):Prop:=∀ s W W',J s W->Below B W W'->J s W'
def jf8{α:Type}(P:Program)(g:Nat)(lb:Array Value)(encs:α->Array Value)(D:Nat)(ok:α->Prop)(zs:List α)(w:World):Prop :=
  ∀ (l:Nat) (J Jx:Nat->World->Prop) (W:World),Below w.heap.size w W->Ab W.heap.size J->Ab W.heap.size Jx ->
    (∀ k x W1,zs[k]?=some x->J k W1->W.heap.size<=W1.heap.size->YieldAt Fence.wide 0 P l (encs x) W1 fun e W' =>
      (e = .returned (.bool true)/\J (k+1) W'/\KN D W.heap.size W1 W'/\ok x)\/(e = .returned (.bool false)/\Jx k W'/\KF W.heap.size W1 W')) ->
    J 0 W ->
    Calls P g (#[.func (.yield l) #[] #[]]++lb) W fun e W'=>(∃ v,e = .returned v)/\(J zs.length W'\/∃ k,k<zs.length/\Jx k W')
theorem jqh{m m':Nat}{P:Program}{l:Nat}{args:Array Value}{W:World}{R:Ending->World->Prop}(h:YieldAt Fence.wide m P l args W R):YieldAt Fence.wide m' P l args W R:=by
 obtain⟨fn,tmps,assign,body,h1,h2⟩:=h;exact⟨fn,tmps,assign,body,h1,h2.1,fun c cs _=>h2.2 c cs (room_wide _)⟩
def postO{α:Type}(B D:Nat)(ok:α->Prop)(I:Nat->World->Prop)(Ix:Code->Nat->World->Prop)(k:Nat)(x:α)(W:World):Exit->Act->World->Prop
  | .normal,_,W'=>KN D B W W'/\I (k+1) W'/\ok x
  | .ret,_,W'=>KF B W W'/\Ix .ret k W'
  | .exit id,_,W'=>KF B W W'/\Ix (.exit id) k W'
  | .goto t,_,W'=>KF B W W'/\Ix (.goto t) k W'
  | .panic _,_,_=>False
  | .outgrown,_,_=>False
theorem jjf{α:Type}{n:Nat}{P:Program}{g:Operand}{ps:Array Tmp}{assign body:Code}{Q:Exit->Act->World->Prop}{a:Act}{w:World}{gf:Nat}{lb:Array Value}(hg:a.eval g = .func (.func gf) #[] lb)(eg:Enters P gf){encs:α->Array Value}{D:Nat}{ok:α->Prop}{zs:List α}(bw:jf8 P gf lb encs D ok zs w)(hps:∀ x,(encs x).size=ps.size)(I:Nat->World->Prop)(Ix:Code->Nat->World->Prop)(hI:Ab w.heap.size I)(sP:∀ c,Ab w.heap.size (Ix c))(h0:I 0 w)(Ax:α->Act->World->Prop)(hAx:∀ x a',OwnFrom w.heap.size (fun (_:Unit) W=>Ax x a' W))(iS:∀ (l k:Nat) (x:α) (W:World) (K:Act->World->Prop),zs[k]?=some x->I k W->(∀ a' W',Below W.heap.size W W'->Ax x a' W'->K a' W')->assign.wpIn (Fence.wide.inRound l) 0 P (Exit.then K (fun _ _ _=>False)) { tmps:=(ps.zip (encs x)).foldl (fun t (p,v)=>t.setIfInBounds p v) a.tmps,defers:=[] } W)(nf:∀ (l k:Nat) (x:α) (a':Act) (W:World),w.heap.size<=W.heap.size->zs[k]?=some x->I k W->Ax x a' W->body.wpIn (Fence.wide.inRound l) 0 P (postO w.heap.size D ok I Ix k x W) a' W)(mV:∀ (E:Nat) (W:World),w.heap.size<=E->I zs.length W->W.heap[E]?=some (.deferred (some []))->Q .normal { a with defers:={ target := .collected E,args:=#[] } :: a.defers } W)(mB:∀ (E:Nat) (c:Code) (k:Nat) (W:World),w.heap.size<=E->k<zs.length->Ix c k W->W.heap[E]?=some (.deferred (some []))->c.wpIn Fence.wide n P Q { a with defers:={ target := .collected E,args:=#[] } :: a.defers } W):(Code.rangeFunc g ps assign body).wpIn Fence.wide n P Q a w:=by
 refine wpIn_rangeFunc fun fn hfn=>?_
 show ∃ _ _ _ _ _ _ _ _,_
 obtain⟨R,hR⟩:∃ R:LoopState->Option Code->Obj,R=fun st pe => .loop { state:=st,pending:=pe,fn,tmps:=a.tmps,params:=ps,assign,body,defers:=w.heap.size }:=⟨_,rfl⟩
 have t7:∀ st pe,(R st pe).isCells=false:=fun st pe=>by rw[hR];rfl
 obtain⟨V,hV⟩:=exq ((w.alloc (.deferred (some []))).alloc (R .ready none));have ae:V.heap.size=w.heap.size+2:=by rw[<- hV];simp
 have ai:Below w.heap.size w V:=by rw[<- hV];exact ((Below.refl _ w).alloc (Nat.le_refl _) _).alloc (by simp) _
 have rr:V.heap[w.heap.size+1]?=some (R .ready none):=by rw[<- hV];have:=World.alloc_heap_new (w.alloc (.deferred (some []))) (R .ready none);rwa [World.size_alloc] at this
 have sj:V.heap[w.heap.size]?=some (.deferred (some [])):=by rw[<- hV];exact (Below.heap_alloc _ _ _ (by simp)).trans (World.alloc_heap_new w _)
 -- a turn of the record leaves what is below
 have turn:∀ (X:World) (o:Obj),Below w.heap.size X (X.putObj (w.heap.size+1) o):=fun X o =>
   ⟨rfl,rfl,rfl,by simp,fun k hk=>World.putObj_heap_other (by omega)⟩
 refine⟨w.heap.size+1,[{ target := .collected w.heap.size,args:=#[] }],V,{ target := .fn (.func gf) lb,args:=#[.func (.yield (w.heap.size+1)) #[] #[]] },V,gf,
   #[.func (.yield (w.heap.size+1)) #[] #[]]++lb,V,?_,?_,?_,?_,fun h=>absurd h (by simp[Fence.wide]),callsIn_wide.2 ?_⟩
 ·rw[<- hV,hR];exact run_enterLoop_outer _ _ _ _ _
 ·(simp only[resolve,hg];simp[go_sem])
 ·intro f' _;trivial
 ·(
 simp[invoke,go_sem]
 exact eg _ _)
 ·(
 refine (bw (w.heap.size+1)
   (fun k W=>I k W/\W.heap[w.heap.size+1]?=some (R .ready none)/\W.heap[w.heap.size]?=some (.deferred (some [])))
   (fun k W=>∃ c,Ix c k W/\W.heap[w.heap.size+1]?=some (R .done (some c))/\W.heap[w.heap.size]?=some (.deferred (some [])))
   V ai ?_ ?_ ?_ ⟨hI _ _ _ h0 ai,rr,sj⟩).mono ?_
 ·(rintro k X Y ⟨h1,h2,h3⟩ hb;exact⟨hI _ _ _ h1 (hb.mono (by omega)),(hb.block _ (by omega)).trans h2,(hb.block _ (by omega)).trans h3⟩)
 ·(rintro k X Y ⟨c,h1,h2,h3⟩ hb;exact⟨c,sP c _ _ _ h1 (hb.mono (by omega)),(hb.block _ (by omega)).trans h2,(hb.block _ (by omega)).trans h3⟩)
 ·(
 rintro k x X hx ⟨hi,hl,hd⟩ nr;have hy:=run_yield (P:=P) (args:=encs x) (l:=w.heap.size+1) (by rw[hR] at hl;exact hl) (hps x);refine⟨fn,_,assign,body,hy,roundIn_of_wpIn trivial (iS _ k x X _ hx hi ?_)⟩;intro a' Y du hax;have nS:Y.heap[w.heap.size+1]?=some (R .ready none):=(du.block _ (by omega)).trans hl;have hdY:Y.heap[w.heap.size]?=some (.deferred (some [])):=(du.block _ (by omega)).trans hd;have rA:w.heap.size+1<Y.heap.size:=(Array.getElem?_eq_some_iff.1 nS).1;have sv:(Instr.beginRound (w.heap.size+1)).run P Y = .ok () (Y.putObj (w.heap.size+1) (R .busy none)):=by (rw[hR] at nS ⊢;exact run_beginRound nS rfl)
 refine⟨_,sv,?_⟩;have hiZ:I k (Y.putObj (w.heap.size+1) (R .busy none)):=hI _ _ _ hi ((du.mono (by omega)).trans (turn _ _));have v5:(Y.putObj (w.heap.size+1) (R .busy none)).heap[w.heap.size+1]?=some (R .busy none):=World.putObj_heap_same rA;have wt:(Y.putObj (w.heap.size+1) (R .busy none)).heap[w.heap.size]?=some (.deferred (some [])):=(World.putObj_heap_other (by omega)).trans hdY;have hkZ:KN D V.heap.size X (Y.putObj (w.heap.size+1) (R .busy none)):=(KN.of_below du).trans (KN.put nS (t7 _ _) (by omega) _);have iN:∀ (jump:Option Code) (Z:World),Z.heap[w.heap.size+1]?=some (R .busy none) ->
     (Instr.endRound (w.heap.size+1) jump).run P Z = .ok (.bool jump.isNone) (Z.putObj (w.heap.size+1) (R (if jump.isNone then .ready else .done) jump)):=fun jump Z hz=>by
   rw[hR] at hz ⊢
   exact run_endRound jump hz
 refine wpIn_mono (nf _ k x a' _ (by simp;omega) hx hiZ ((hAx x a').putObj (s:=()) _ hax (by omega) nS (t7 _ _))) ?_;have leave:∀ (c:Code) (Z:World),KF w.heap.size (Y.putObj (w.heap.size+1) (R .busy none)) Z->Ix c k Z->∃ v w',(Instr.endRound (w.heap.size+1) (some c)).run P Z = .ok v w' /\
     ((Ending.returned v = .returned (.bool true)/\(I (k+1) w'/\w'.heap[w.heap.size+1]?=some (R .ready none)/\w'.heap[w.heap.size]?=some (.deferred (some [])))/\KN D V.heap.size X w'/\ok x) \/
       (Ending.returned v = .returned (.bool false)/\(∃ c,Ix c k w'/\w'.heap[w.heap.size+1]?=some (R .done (some c))/\w'.heap[w.heap.size]?=some (.deferred (some [])))/\KF V.heap.size X w')):=fun c Z hk hi=>by
   have h1:=hk.same _ _ (by omega) v5
   have h2:=hk.same _ _ (Nat.le_refl _) wt
   exact⟨_,_,iN (some c) Z h1,.inr ⟨rfl,⟨c,sP c _ _ _ hi (turn _ _),World.putObj_heap_same (Array.getElem?_eq_some_iff.1 h1).1,(World.putObj_heap_other (by omega)).trans h2⟩,
     hkZ.kf.trans ((hk.mono (by omega)).trans (KF.put (by omega) _))⟩⟩
 rintro e a3 Z hp;cases e with
 | normal=>(
 obtain⟨hk,hi3,eH⟩:=hp;have h1:=hk.from.same _ _ (by omega) v5 (t7 _ _)
 have h2:=hk.from.same _ _ (Nat.le_refl _) wt rfl
 exact⟨_,_,iN none Z h1,.inl ⟨rfl,⟨hI _ _ _ hi3 (turn _ _),World.putObj_heap_same (Array.getElem?_eq_some_iff.1 h1).1,(World.putObj_heap_other (by omega)).trans h2⟩,
   hkZ.trans ((hk.mono (by omega)).trans (KN.put h1 (t7 _ _) (by omega) _)),eH⟩⟩)
 | ret=>exact leave .ret Z hp.1 hp.2
 | exit id=>exact leave (.exit id) Z hp.1 hp.2
 | goto t=>exact leave (.goto t) Z hp.1 hp.2
 | panic ch=>exact hp.elim
 | outgrown=>exact hp.elim)
 ·(
 rintro e X ⟨⟨v,rfl⟩,⟨hi,hl,hd⟩ | ⟨k,hk,c,hi,hl,hd⟩⟩
 ·(refine⟨none,_,by rw[hR] at hl;exact run_endLoop hl (by simp),?_⟩;exact mV _ _ (Nat.le_refl _) (hI _ _ _ hi (turn _ _)) ((World.putObj_heap_other (by omega)).trans hd))
 ·(refine⟨some c,_,by rw[hR] at hl;exact run_endLoop hl (by simp),?_⟩;exact mB _ c k _ (Nat.le_refl _) hk (sP c _ _ _ hi (turn _ _)) ((World.putObj_heap_other (by omega)).trans hd))))
inductive Nd (β:Type) where
  | mk (x:β) (l:List (Nd β))
def Nd.lab{β:Type}:Nd β->β | .mk x _=>x
theorem Nd.ind{β:Type}{P:Nd β->Prop}(h:∀ x l,(∀ t∈l,P t)->P (.mk x l)):∀ t,P t:=fun t =>
  Nd.rec (motive_1:=P) (motive_2:=fun l=>∀ t∈l,P t) (fun x l ih=>h x l ih) (by simp) (fun x l hx hl y hy=>by
    rcases List.mem_cons.1 hy with rfl | h'
    · exact hx
    · exact hl y h') t
mutual
def Nd.pre{β:Type}:Nd β->List β
  | .mk x l=>x :: Nd.preL l
def Nd.preL{β:Type}:List (Nd β)->List β
  | []=>[]
  | t :: l=>t.pre++Nd.preL l
end
theorem jjx{β:Type}(a b:List (Nd β)):Nd.preL (a++b)=Nd.preL a++Nd.preL b:=by
 induction a with
 | nil=>rfl
 | cons x a ih=>rw[List.cons_append,Nd.preL,ih,Nd.preL,List.append_assoc]
theorem jv2{β:Type}{l:List (Nd β)}{k:Nat}{t:Nd β}(hx:l[k]?=some t):Nd.preL (l.take (k+1))=Nd.preL (l.take k)++t.pre:=by
 obtain⟨hk,he⟩:=List.getElem?_eq_some_iff.1 hx;rw[List.take_succ_eq_append_getElem hk,he,jjx,Nd.preL,Nd.preL,List.append_nil]
theorem jx9{β:Type}{l:List (Nd β)}{k:Nat}{t:Nd β}(hx:l[k]?=some t):Nd.preL l=Nd.preL (l.take k)++(t.pre++Nd.preL (l.drop (k+1))):=by
 obtain⟨hk,he⟩:=List.getElem?_eq_some_iff.1 hx;conv=>lhs;rw[<- List.take_append_drop k l]
 rw[jjx,List.drop_eq_getElem_cons hk,he,Nd.preL]
def At{β:Type}(zs:List β)(k:Nat)(ys:List β):Prop:=∀ i y,ys[i]?=some y->zs[k+i]?=some y
theorem At.left{β:Type}{zs:List β}{k:Nat}{a b:List β}(h:At zs k (a++b)):At zs k a:=fun i y hy=>h i y (by rw[List.getElem?_append_left (List.getElem?_eq_some_iff.1 hy).1];exact hy)
theorem At.right{β:Type}{zs:List β}{k:Nat}{a b:List β}(h:At zs k (a++b)):At zs (k+a.length) b:=fun i y hy=>by
  have:=h (a.length+i) y (by rw[List.getElem?_append_right (by omega)];simpa using hy)
  rw[Nat.add_assoc];exact this
theorem At.all{β:Type}(zs:List β):At zs 0 zs:=fun i y hy=>by rw[Nat.zero_add];exact hy
open S2 (Sc jx0)
def Bar(D b:Nat):Prop:=b≠D
theorem jzt.kn{D B:Nat}{W W':World}{A:Option Addr}{cs:List Value}(h:jzt (Bar D) W A cs)(hk:KN D B W W'):jzt (Bar D) W' A cs:=by
 rcases h with h | ⟨b,off,hA,hP,h⟩
 ·exact .inl h
 ·exact .inr ⟨b,off,hA,hP,fun i x hx=>hk.cell hP (h i x hx)⟩
theorem Ck.Inp.kn{D B:Nat}{W W':World}{k:Ck}(h:k.Inp (Bar D) W)(hk:KN D B W W'):k.Inp (Bar D) W':=⟨h.lies.kn hk,h.cap,h.top,h.nok,h.few⟩
theorem Vl.Inp.kn{D B:Nat}{W W':World}{x:Vl}(h:x.Inp (Bar D) W)(hk:KN D B W W'):x.Inp (Bar D) W':=by
 induction h with
 | mk n m sA sc ss cA cc cs vA vc vs h1 h2 h3 h4 h5 h6 h7 h8 h9 h10 _ ih=>exact .mk _ _ _ _ _ _ _ _ _ _ _ h1 h2 (h3.kn hk) h4 h5 (h6.kn hk) h7 (fun k eN=>(h8 k eN).kn hk) (h9.kn hk) h10 ih
theorem LiesP_kn{D B:Nat}{W W':World}{A:Option Addr}{l:List Sc}(h:jx0 (Bar D) W A l)(hk:KN D B W W'):jx0 (Bar D) W' A l:=by
 rcases h with h | ⟨b,off,hA,hP,h⟩
 ·exact .inl h
 ·exact .inr ⟨b,off,hA,hP,fun i x hx=>⟨hk.cell hP (h i x hx).1,hk.cell hP (h i x hx).2⟩⟩
theorem sc_kn{D B:Nat}{W W':World}{s:Sc}(h:s.Inp (Bar D) W)(hk:KN D B W W'):s.Inp (Bar D) W':=by
 induction h with
 | mk k A c l hl h1 h2 h3 _ ih=>exact .mk k A c l (LiesP_kn hl hk) h1 h2 h3 ih
theorem jzt.lt{P:Nat->Prop}{W:World}{A:Option Addr}{cs:List Value}(h:jzt P W A cs):jzt (fun b=>b<W.heap.size) W A cs:=by
 cases cs with
 | nil=>exact .inl rfl
 | cons u cs=>(
 rcases h with h | ⟨b,off,hA,_,h⟩
 ·cases h
 ·exact .inr ⟨b,off,hA,World.block_lt_of_cell? W _ (h 0 u rfl),h⟩)
theorem Vl.Inp.inn{P:Nat->Prop}{W:World}{x:Vl}(h:x.Inp P W):x.In W:=by
 unfold Vl.In;induction h with
 | mk n m sA sc ss cA cc cs vA vc vs h1 h2 h3 h4 h5 h6 h7 h8 h9 h10 _ ih=>exact .mk _ _ _ _ _ _ _ _ _ _ _ h1 h2 h3.lt h4 h5 h6.lt h7 (fun k hk=>⟨(h8 k hk).lies.lt,(h8 k hk).cap,(h8 k hk).top,(h8 k hk).nok,(h8 k hk).few⟩) h9.lt h10 ih
theorem sc_inn{P:Nat->Prop}{W:World}{s:Sc}(h:s.Inp P W):s.In W.heap.size W:=by
 unfold S2.Sc.In;induction h with
 | mk k A c l hl h1 h2 h3 _ ih=>(
 refine .mk k A c l ?_ h1 h2 h3 ih;cases l with
 | nil=>exact .inl rfl
 | cons u l=>(
 rcases hl with h | ⟨b,off,hA,_,h⟩
 ·cases h
 ·exact .inr ⟨b,off,hA,World.block_lt_of_cell? W _ (h 0 u rfl).1,h⟩))
theorem Vl.In.bar{W:World}{x:Vl}{D:Nat}(h:x.In W)(hD:W.heap.size<=D):x.Inp (Bar D) W:=Vl.Inp.mono h fun b hb=>by unfold Bar;omega
theorem jl0{n D:Nat}{W:World}{s:Sc}(h:s.In n W)(hD:n<=D):s.Inp (Bar D) W:=S2.Sc.Inp.mono h fun b hb=>by unfold Bar;omega
def Vl.vs:Vl->List Vl | .mk _ _ _ _ _ _ _ _ _ _ vs=>vs
def Vl.cs:Vl->List Ck | .mk _ _ _ _ _ _ _ cs _ _ _=>cs
def Vl.ss:Vl->List Str | .mk _ _ _ _ ss _ _ _ _ _ _=>ss
def scAt(l:List Sc)(i:Nat):Sc:=(l[min i (l.length - 1)]?).getD (.mk 0 none 0 [])
mutual
def jjv:Vl->Sc->Nd (Sc×Vl)
  | .mk n m sA sc ss cA cc cs vA vc vs,s => .mk (s,.mk n m sA sc ss cA cc cs vA vc vs) (jvy vs s.ins 0)
def jvy:List Vl->List Sc->Nat->List (Nd (Sc×Vl))
  | [],_,_=>[]
  | x :: l,ins,i=>jjv x (scAt ins i) :: jvy l ins (i+1)
end
mutual
def jwe:Vl->Vl->Nd (Vl×Vl)
  | .mk n m sA sc ss cA cc cs vA vc vs,b => .mk (.mk n m sA sc ss cA cc cs vA vc vs,b) (jfc vs b.vs)
def jfc:List Vl->List Vl->List (Nd (Vl×Vl))
  | [],_=>[]
  | x :: l,y :: l'=>jwe x y :: jfc l l'
  | _ :: _,[]=>[]
end
theorem jkm:∀ (l:List Vl) (ins:List Sc) (j i:Nat),(jvy l ins j)[i]?=(l[i]?).map fun x=>jjv x (scAt ins (j+i))
  | [],_,_,_=>by simp[jvy]
  | x :: l,ins,j,0=>by simp[jvy]
  | x :: l,ins,j,i+1=>by
    simp only[jvy,List.getElem?_cons_succ]
    rw[jkm l ins (j+1) i,show j+1+i=j+(i+1) by omega]
theorem jbw(v:Vl)(s:Sc):jjv v s = .mk (s,v) (jvy v.vs s.ins 0):=by cases v;rw[jjv];rfl
theorem jvx(v:Vl)(s:Sc):(jjv v s).lab=(s,v):=by rw[jbw];rfl
theorem jfb:∀ (l l':List Vl),jfc l l'=List.zipWith jwe l l'
  | [],_=>by simp[jfc]
  | _ :: _,[]=>by simp[jfc]
  | x :: l,y :: l'=>by rw[jfc,jfb l l'];rfl
theorem jme(a b:Vl):jwe a b = .mk (a,b) (List.zipWith jwe a.vs b.vs):=by cases a;rw[jwe,jfb];rfl
theorem jur(a b:Vl):(jwe a b).lab=(a,b):=by rw[jme];rfl
def jxl(x:Sc×Vl):List (Sc×Vl):=(List.range x.2.vs.length).zipWith (fun i v=>(scAt x.1.ins i,v)) x.2.vs
def jvk(x:Vl×Vl):List (Vl×Vl):=x.1.vs.zip x.2.vs
theorem jv8(x:Sc×Vl)(i:Nat):(jxl x)[i]?=(x.2.vs[i]?).map fun v=>(scAt x.1.ins i,v):=by
 unfold jxl;rw[List.getElem?_zipWith];rcases Nat.lt_or_ge i x.2.vs.length with h | h
 ·rw[List.getElem?_range h,List.getElem?_eq_getElem h];rfl
 ·rw[List.getElem?_eq_none h,List.getElem?_eq_none (by simpa using h)];rfl
theorem jg1(x:Sc×Vl):(jxl x).length=x.2.vs.length:=by simp[jxl]
theorem jcn(x:Sc×Vl):(jvy x.2.vs x.1.ins 0).map Nd.lab=jxl x:=by
 refine List.ext_getElem? fun i=>?_
 rw[List.getElem?_map,jkm,jv8];cases x.2.vs[i]? <;> simp[jvx]
theorem jh8(x:Vl×Vl):(List.zipWith jwe x.1.vs x.2.vs).map Nd.lab=jvk x:=by
 have h:∀ l l':List Vl,(List.zipWith jwe l l').map Nd.lab=l.zip l':=fun l=>by (
 induction l with
 | nil=>intro l';simp
 | cons y l ih=>intro l';cases l' with
   | nil=>simp
   | cons z l'=>simp[jur,ih l'])
 exact h _ _
end V4
namespace V4
open Go.RowKit Go.Shelf
open S2 (Sc jx0)
attribute [local go_sem] Oper.semAt_some
def encC(x:Ck):Array Value:=#[x.v]
theorem jle(A:Option Addr)(c:Nat)(l:List Ck)(w:World):Calls Tryz.prog 148 #[.slice A l.length c] w fun e w'=>e = .returned (.func (.func 165) #[] #[.pointer (some ⟨w.heap.size,0,none⟩)])/\w.alloc (.cells #[.slice A l.length c] 27)=w':=by
 go_enter Tryz.func148,Tryz.ntmps148;go_wp2_with fail;go_ret;exact⟨rfl,rfl⟩
theorem jld(Bt D:Nat)(A:Option Addr)(c:Nat)(vs:List Ck)(w:World)(hl:jzt (Bar D) w A (jzl vs))(hn:vs.length*24<=140737488351232)(fi:w.cell? ⟨Bt,0,none⟩=some (.slice A vs.length c)):jf8 Tryz.prog 165 #[.pointer (some ⟨Bt,0,none⟩)] encC D (fun _=>True) vs w:=by
 intro l J Jx W hW hJ eJ hY h0;have hB:W.cell? ⟨Bt,0,none⟩=some (.slice A vs.length c):=(hW.cell (p:=⟨Bt,0,none⟩) (World.block_lt_of_cell? w _ fi)).trans fi;have wa:jzt (Bar D) W A (jzl vs):=hl.kn (B:=0) (KN.of_below hW);have HY:=Lh hY;have HL:=Lh wa;clear hY hJ eJ fi hl wa hW;refine (callsIn_wide (n:=6)).1 (callsIn_of_wp Tryz.func165 rfl trivial ?_ rfl);simp only[Tryz.ntmps165,List.size_toArray,List.length_cons,List.length_nil,Nat.reduceAdd,Nat.reduceSub,Array.replicate_succ,Array.replicate_zero,List.push_toArray,List.append_toArray,List.nil_append,List.cons_append];gi_wp2_with fail
 gi_loopw [7] (fun iv wr=>∃ (k:Nat),k<=vs.length/\iv = .int .i64 k/\J k wr/\KN D W.heap.size W wr) (fun iv _=>vs.length - (intOf iv).toNat)
 case atStart=>exact⟨0,Nat.zero_le _,rfl,h0,KN.refl _ _ _⟩
 case round=>(
 obtain⟨k,hk,rfl,ep,cX⟩:=hrel;clear h0;by_cases hlt:k<vs.length
 ·(
 obtain⟨x,hx⟩:∃ x,vs[k]?=some x:=⟨_,List.getElem?_eq_getElem hlt⟩
 obtain⟨b,off,rfl,hb,c0⟩:=jqi HL.out hx;replace c0:=cX.cell hb c0;have cD:=World.block_lt_of_cell? wr _ c0;simp only at cD;have HX:=Lh hx;clear hx;obtain⟨fn,tmps,assign,body,hy,hR⟩:=jqh (m':=5) (HY.out k x _ HX.out ep cX.size);unfold encC at hy;obtain⟨xA,xc,xl⟩:=x;simp only[Ck.v] at hy c0;gi_wp2_with fail
 refine hR.mono ?_;clear hR hy c0;rintro e W5 (⟨rfl,fJ,dD,-⟩ | ⟨rfl,ff,-⟩)
 ·(
 have o8:KN D W.heap.size W W5:=cX.trans dD;clear dD cX ep;gi_wp2_with fail
 go_roundw
 case rel=>exact⟨k+1,by omega,by go_num,fJ,o8⟩
 case measure=>simp[intOf];omega)
 ·(
 gi_wp2_with fail
 refine bodyPost_ret (results_none rfl _ _ _) rfl ?_;exact⟨⟨_,rfl⟩,.inr ⟨k,hlt,ff⟩⟩))
 ·(
 gi_wp2_with fail
 go_end0
 have mP:k=vs.length:=by omega
 exact⟨⟨_,rfl⟩,.inl (mP▸ep)⟩))
end V4
namespace V4
open Go.RowKit Go.Shelf
open S2 (Sc jx0)
attribute [local go_sem] Oper.semAt_some
def jzx(x:Sc×Vl):Array Value:=#[.int .i64 x.1.k,x.1.v1,.int .u64 x.2.n,.int .u64 x.2.m,x.2.s1,x.2.c1,x.2.v1]
def jkb(x:Sc×Vl):Value := .agg (jzx x)
def jjk(x:Sc×Vl):Array Value:=#[jkb x]
def jwx(x:Sc×Vl):Prop:=x.2.vs=[]\/x.1.ins≠[]
theorem jwf{e:Ending}{p q:Prop}(h:(e = .returned (.bool true)/\p)\/(e = .returned (.bool false)/\q)):∃ r:Bool,e = .returned (.bool r)/\(if r then p else q):=by
 rcases h with ⟨h1,h2⟩ | ⟨h1,h2⟩
 ·exact⟨true,h1,h2⟩
 ·exact⟨false,h1,h2⟩
theorem jy1(x:Sc×Vl)(w:World):Calls Tryz.prog 38 #[jkb x] w fun e w'=>e = .returned (.func (.func 70) #[] #[.pointer (some ⟨w.heap.size,0,none⟩)])/\w.alloc (.cells (jzx x) 76)=w':=by
 obtain⟨⟨k,A,c,l⟩,xn,xm,xK,xL,xN,xO,xP,xQ,xR,xS,xU⟩:=x;unfold jkb jzx;simp only[Sc.k,Sc.v1,Vl.n,Vl.m,Vl.s1,Vl.c1,Vl.v1];go_enter Tryz.func38,Tryz.ntmps38;go_wp2_with fail;go_ret;exact⟨rfl,rfl⟩
theorem jrd(Bt D:Nat)(x:Sc×Vl)(w:World)(h1:x.1.Inp (Bar D) w)(h2:x.2.Inp (Bar D) w)(hs:jwx x)(fi:∀ i v,(jzx x)[i]?=some v->w.cell? ⟨Bt,i,none⟩=some v):jf8 Tryz.prog 70 #[.pointer (some ⟨Bt,0,none⟩)] jjk D (fun _=>True) (jxl x) w:=by
 intro l J Jx W hW hJ eJ hY h0;have af:W.cell? ⟨Bt,1,none⟩=some x.1.v1:=(hW.cell (p:=⟨Bt,1,none⟩) (World.block_lt_of_cell? w _ (fi 1 _ rfl))).trans (fi 1 _ rfl);have sH:W.cell? ⟨Bt,6,none⟩=some x.2.v1:=(hW.cell (p:=⟨Bt,6,none⟩) (World.block_lt_of_cell? w _ (fi 6 _ rfl))).trans (fi 6 _ rfl);have g1:x.1.Inp (Bar D) W:=sc_kn (B:=0) h1 (KN.of_below hW);have g2:x.2.Inp (Bar D) W:=h2.kn (B:=0) (KN.of_below hW);have HY:=Lh hY;have HJ:=Lh hJ;clear hY hJ eJ fi h1 h2 hW;obtain⟨⟨k0,A,c,ins⟩,n0,m0,sA,sc,ss,cA,cc,cs,vA,vc,vs⟩:=x;simp only[Sc.v1,Vl.v1] at af sH;obtain⟨hlS,hnS⟩:jx0 (Bar D) W A ins/\ins.length*32<=140737488351232:=by (
 cases g1 with
 | mk _ _ _ _ h1 _ _ h3 _=>exact⟨h1,h3⟩)
 obtain⟨wb,hnV⟩:jzt (Bar D) W vA (jzj vs)/\vs.length*88<=140737488351232:=by (
 cases g2 with
 | mk _ _ _ _ _ _ _ _ _ _ _ _ _ _ _ _ _ _ _ h9 h10 _=>exact⟨h9,h10.2.2⟩)
 have HS:=Lh hlS;have HV:=Lh wb;have HSA:=Lh hs;clear g1 g2 hlS wb hs;refine (callsIn_wide (n:=6)).1 (callsIn_of_wp Tryz.func70 rfl trivial ?_ rfl);simp only[Tryz.ntmps70,List.size_toArray,List.length_cons,List.length_nil,Nat.reduceAdd,Nat.reduceSub,Array.replicate_succ,Array.replicate_zero,List.push_toArray,List.append_toArray,List.nil_append,List.cons_append];gi_wp2_with fail
 gi_loopw [13] (fun iv wr=>∃ (k:Nat),k<=vs.length/\iv = .int .i64 k/\J k wr/\KN D W.heap.size W wr) (fun iv _=>vs.length - (intOf iv).toNat)
 case atStart=>exact⟨0,Nat.zero_le _,rfl,h0,KN.refl _ _ _⟩
 case round=>(
 obtain⟨k,hk,rfl,ep,cX⟩:=hrel;clear h0;by_cases hlt:k<vs.length
 ·(
 obtain⟨x,hx⟩:∃ x,vs[k]?=some x:=⟨_,List.getElem?_eq_getElem hlt⟩
 obtain⟨b,off,rfl,hb,c0,c1,c2,c3,c4⟩:=jqo HV.out hx;replace c0:=cX.cell hb c0;replace c1:=cX.cell hb c1;replace c2:=cX.cell hb c2;replace c3:=cX.cell hb c3;replace c4:=cX.cell hb c4;have cD:=World.block_lt_of_cell? wr _ c0;simp only at cD;have mS:0<ins.length:=by (
 rcases HSA.out with h | h
 ·simp only[Vl.vs] at h;subst h;simp at hlt
 ·exact List.length_pos_iff.2 h)
 obtain⟨q,hq⟩:=exq (min k (ins.length - 1));have hql:q<ins.length:=by omega
 obtain⟨y,cN⟩:∃ y,ins[q]?=some y:=⟨_,List.getElem?_eq_getElem hql⟩
 obtain⟨b',off',rfl,ct,cP⟩:∃ b off,A=some ⟨b,off,none⟩/\Bar D b/\∀ i x,ins[i]?=some x->W.cell? ⟨b,off+i*2,none⟩=some (.int .i64 x.k)/\W.cell? ⟨b,off+i*2+1,none⟩=some x.v1:=by (
 rcases HS.out with h | h
 ·subst h;simp at hql
 ·exact h)
 have d0:=cX.cell ct (cP q y cN).1;have d1:=cX.cell ct (cP q y cN).2;have cH:=World.block_lt_of_cell? wr _ d0;simp only at cH;have iL:(jxl (Sc.mk k0 (some ⟨b',off',none⟩) c ins,Vl.mk n0 m0 sA sc ss cA cc cs (some ⟨b,off,none⟩) vc vs))[k]?=some (y,x):=by (rw[jv8];simp only[Vl.vs,hx,Option.map_some,Sc.ins,scAt,hq,cN,Option.getD_some])
 have HX:=Lh iL;clear iL hx cP cN;have fD:Below wr.heap.size wr (wr.alloc (.cells #[.int .u64 x.n,.int .u64 x.m,x.s1,x.c1,x.v1] 30)):=(Below.refl _ wr).alloc (Nat.le_refl _) _;obtain⟨xn,xm,xK,xL,xN,xO,xP,xQ,xR,xS,xU⟩:=x;obtain⟨yk,yA,yc,yl⟩:=y;simp only[Vl.n,Vl.m,Vl.s1,Vl.c1,Vl.v1,Sc.k,Sc.v1] at c0 c1 c2 c3 c4 d0 d1;simp only[Vl.n,Vl.m,Vl.s1,Vl.c1,Vl.v1] at fD;have iR:Below wr.heap.size wr (wr.alloc (.cells #[.int .u64 xn,.int .u64 xm,.slice xK xN.length xL,.slice xO xQ.length xP,.slice xR xU.length xS] 30)).drew:=⟨fD.os,fD.tape,fD.output,fD.size,fD.block⟩;obtain⟨fn,tmps,assign,body,hy,hR⟩:=jqh (m':=5) (HY.out k _ _ HX.out (HJ.out _ _ _ ep (iR.mono cX.size)) (leT cX.size iR.size));unfold jjk jkb jzx at hy;simp only[Sc.k,Sc.v1,Vl.n,Vl.m,Vl.s1,Vl.c1,Vl.v1] at hy;have hmn:min (k:Int) (IntKind.i64.wrap ((ins.length:Int) - 1))=(q:Int):=by (have:IntKind.i64.wrap ((ins.length:Int) - 1)=(ins.length:Int) - 1:=IntWalk.i64_in _ (by omega);rw[this];omega)
 clear hq;have fj:Tryz.prog.follows .mixedOrders=true:=by kernel_rfl
 have fN:=hR.mono fun e W' h=>jwf h
 clear hR;gi_wp2_with fail
 gi_region_with_o (refine fN.mono ?_;rintro e W5 ⟨r,rfl,hr⟩)
 all_goals (
   clear fN hy c0 c1 c2 c3 c4 d0 d1
   cases r with
   | true =>
     obtain⟨fJ,dD,-⟩:=hr
     have o8:KN D W.heap.size W W5:=cX.trans ((KN.of_below iR).trans dD)
     clear dD iR fD cX ep
     gi_wp2_with fail
     go_roundw
     case rel=>exact⟨k+1,by omega,by go_num,fJ,o8⟩
     case measure=>simp[intOf];omega
   | false =>
     gi_wp2_with fail
     refine bodyPost_ret (results_none rfl _ _ _) rfl ?_
     exact⟨⟨_,rfl⟩,.inr ⟨k,by rw[jg1];exact hlt,hr.1⟩⟩))
 ·(
 gi_wp2_with fail
 go_end0
 have mP:k=vs.length:=by omega
 refine⟨⟨_,rfl⟩,.inl ?_⟩;rw[jg1];exact mP▸ep))
end V4
end Go.Proofs.YtobggoephhjofaaGreatDoor
