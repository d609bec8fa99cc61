/- A part. No condition. -/
import Derived.WalkKit
import Derived.WalkSpells
import Derived.WalkLawsBesides
import Derived.Deep.QuietTactic
import Derived.BigQuiet
import Derived.Deep.Draws
import Derived.Deep.AppendLies
import Derived.Maps.AppendAt
import Derived.Lib.Hide
import Derived.Lib.Strings
import Derived.Sort.Walk0
import Derived.IntWalk
import Derived.Test.YtobggoephhjofaaGreatDoorRows
import Derived.Deep.RegionLaw
set_option maxRecDepth 100000
set_option maxHeartbeats 16000000
namespace Go.Proofs.YtobggoephhjofaaGreatDoor
section
open Go.RowKit
theorem _root_.Go.Proofs.YtobggoephhjofaaGreatDoor.exq {α:Sort _} (a:α):∃ x,a=x:=⟨a,rfl⟩
theorem _root_.Go.Proofs.YtobggoephhjofaaGreatDoor.ltl {a b c:Nat} (h:a<b) (h':b<=c):a<c:=by omega
theorem _root_.Go.Proofs.YtobggoephhjofaaGreatDoor.leT {a b c:Nat} (h:a<=b) (h':b<=c):a<=c:=by omega
theorem Lh {p : Prop} (h : p) : Hid p := Lib.hid h
abbrev Str:=List UInt8
def S(x:Str):ByteArray:=⟨x.toArray⟩
@[go_sem] theorem S_toList(x:Str):(S x).toList=x:=by rw[Lib.toList_data];simp[S]
theorem S_of(s:ByteArray):∃ x,s=S x:=⟨s.data.toList,by cases s;simp[S]⟩
theorem jvr{x y:Str}(h:x≠y):(x == y)=false:=beq_eq_false_iff_ne.2 h
@[go_sem] theorem beq_refl_str(x:Str):(x == x)=true:=beq_self_eq_true x
def jqr(w:World)(A:Option Addr)(xs:List Str):Prop :=
  xs=[]\/∃ b off,A=some ⟨b,off,none⟩/\b<w.heap.size/\∀ i x,xs[i]?=some x->w.cell? ⟨b,off+i,none⟩=some (.string (S x))
theorem jqr.get{w:World}{A:Option Addr}{xs:List Str}(h:jqr w A xs){k:Nat}(hk:k<xs.length):∃ b off,A=some ⟨b,off,none⟩/\b<w.heap.size/\∀ i x,xs[i]?=some x->w.cell? ⟨b,off+i,none⟩=some (.string (S x)):=by
 rcases h with h | h
 ·subst h;simp at hk
 ·exact h
theorem jqr.keep{w w':World}{A:Option Addr}{xs:List Str}(h:jqr w A xs)(hs:w.heap.size<=w'.heap.size)(hc:∀ b o,b<w.heap.size->w'.cell? ⟨b,o,none⟩=w.cell? ⟨b,o,none⟩):jqr w' A xs:=by
 rcases h with h | ⟨b,off,hA,hb,h⟩
 ·exact .inl h
 ·exact .inr ⟨b,off,hA,ltl hb hs,fun i x hx=>(hc b _ hb).trans (h i x hx)⟩
theorem jqr.below{w w':World}{A:Option Addr}{xs:List Str}(h:jqr w A xs)(hb:Below w.heap.size w w'):jqr w' A xs :=
  h.keep hb.size fun b o hlt=>hb.cell (p:=⟨b,o,none⟩) hlt
theorem jqr.alloc{w:World}{A:Option Addr}{xs:List Str}(h:jqr w A xs)(o:Obj):jqr (w.alloc o) A xs :=
  h.below ((Below.refl _ _).alloc (Nat.le_refl _) o)
theorem jqr.drewN{w:World}{A:Option Addr}{xs:List Str}(h:jqr w A xs)(n:Nat):jqr (w.drewN n) A xs:=h
theorem jzq{B:Nat}{a w:World}(h:Below B a w)(n:Nat):Below B a (w.drewN n):=⟨h.os,h.tape,h.output,h.size,h.block⟩
def jz6(w:World)(v:Value)(e:Ending)(w':World):Prop:=e = .returned v/\Below w.heap.size w w'
theorem drew2(w:World)(a b:Nat):∃ m,(w.drewN a).drewN b=w.drewN m:=⟨a+b,by rw[World.drewN_drewN]⟩
theorem jxd{k:IntKind}{a b:Int}(h:a=b):Ending.returned (.int k a) = .returned (.int k b):=by rw[h]
theorem jzi{a b:Bool}(h:a=b):Ending.returned (.bool a) = .returned (.bool b):=by rw[h]
end
namespace C3
open Go.RowKit
structure Tk where
  k:Int
  n:Int
deriving DecidableEq
def Asc(l:List Tk):Prop:=l.Pairwise fun a b=>a.k<b.k
instance (l:List Tk):Decidable (Asc l):=by unfold Asc;infer_instance
def bad(t:Tk):Bool:=decide (t.k<0) || (decide (1000000<t.k) || decide (t.n=0))
def isC(l:List Tk):Bool:=decide (l.length<=40) && (decide (Asc l) && !l.any bad)
def ofC:List Tk->Int->Int
  | [],_=>0
  | x :: l,q=>if x.k=q then x.n else ofC l q
def jxa:List Tk->Int->Int->List Tk
  | [],q,n=>[⟨q,n⟩]
  | x :: l,q,n=>if x.k<q then x :: jxa l q n else if x.k=q then ⟨q,max n x.n⟩ :: l else ⟨q,n⟩ :: x :: l
def jjy(x y:Tk):Tk:=if x.n<y.n then y else x
def jz0:List Tk->List Tk->List Tk
  | [],b=>b
  | x :: a,[]=>x :: a
  | x :: a,y :: b=>if x.k<y.k then x :: jz0 a (y :: b) else if y.k<x.k then y :: jz0 (x :: a) b else jjy x y :: jz0 a b
termination_by a b=>a.length+b.length
def jjo(a b:List Tk):List Tk:=b.foldl (fun o t=>jxa o t.k t.n) a
def jqk(a b:List Tk):Bool:=a.all fun t=>decide (t.n<=ofC b t.k)
def cmpB(x y:Bool):Int:=match x,y with
  | true,true=>0
  | true,false=>-1
  | false,true=>1
  | false,false=>2
def jxt(a b:List Tk):Int:=cmpB (jqk a b) (jqk b a)
def Nok(l:List Tk):Prop:=∀ x∈l,0<=x.n/\x.n<=18446744073709551615
theorem jz1(b:List Tk):jz0 [] b=b:=by rw[jz0]
theorem jz3(a:List Tk):jz0 a []=a:=by cases a <;> rw[jz0]
theorem jxh{x y:Tk}(a b:List Tk)(h:x.k<y.k):jz0 (x :: a) (y :: b)=x :: jz0 a (y :: b):=by rw[jz0,if_pos h]
theorem jxi{x y:Tk}(a b:List Tk)(h:y.k<x.k):jz0 (x :: a) (y :: b)=y :: jz0 (x :: a) b:=by rw[jz0,if_neg (by omega),if_pos h]
theorem jxj{x y:Tk}(a b:List Tk)(h:x.k=y.k):jz0 (x :: a) (y :: b)=jjy x y :: jz0 a b:=by rw[jz0,if_neg (by omega),if_neg (by omega)]
theorem jwp{x y:Tk}(h:x.k=y.k):jjy x y=⟨y.k,max y.n x.n⟩:=by
 obtain⟨xk,xn⟩:=x;obtain⟨yk,yn⟩:=y;unfold jjy;dsimp only at h ⊢
 subst h;split
 ·rw[Int.max_eq_left (by omega)]
 ·rw[Int.max_eq_right (by omega)]
theorem jfr(t:Tk):∀ a,jz0 a [t]=jxa a t.k t.n
  | []=>by rw[jz1,jxa]
  | x :: a=>by
    rw[jxa]
    by_cases h:x.k<t.k
    · rw[jxh _ _ h,if_pos h,jfr t a]
    · rw[if_neg h]
      by_cases h2:x.k=t.k
      · rw[jxj _ _ h2,if_pos h2,jz3,jwp h2]
      · rw[jxi _ _ (by omega),if_neg h2,jz3]
theorem jun{q n:Int}:∀ {b:List Tk},(∀ y∈b,y.k<q)->jxa b q n=b++[⟨q,n⟩]
  | [],_=>by rw[jxa];rfl
  | y :: b,h=>by
    rw[jxa,if_pos (h y (by simp)),jun fun z hz=>h z (by simp[hz])]
    rfl
theorem jdx(t:Tk)(a b:List Tk):(∀ y∈b,y.k<t.k)->jz0 a (b++[t])=jxa (jz0 a b) t.k t.n:=by
 intro h;induction a,b using jz0.induct with
 | case1 b=>rw[jz1,jz1,jun h]
 | case2 x a=>rw[jz3,List.nil_append,jfr]
 | case3 x a y b hlt ih=>(have hy:=h y (by simp);rw[List.cons_append,jxh _ _ hlt,jxh _ _ hlt,jxa,if_pos (by omega),<- ih h];rfl)
 | case4 x a y b hlt hgt ih=>(have hy:=h y (by simp);rw[List.cons_append,jxi _ _ hgt,jxi _ _ hgt,jxa,if_pos (by omega),<- ih fun z hz=>h z (by simp[hz])])
 | case5 x a y b hlt hgt ih=>(
 have hy:=h y (by simp);have he:x.k=y.k:=by omega
 rw[List.cons_append,jxj _ _ he,jxj _ _ he,jxa,if_pos (by rw[jwp he];exact hy),<- ih fun z hz=>h z (by simp[hz])])
theorem jmv(a:List Tk):∀ b p,Asc (p++b)->jz0 a (p++b)=jjo (jz0 a p) b:=by
 intro b;induction b with
 | nil=>intro p _;rw[List.append_nil];rfl
 | cons t b ih=>(
 intro p h;have h':=List.pairwise_append.1 h;have e:p++t :: b=(p++[t])++b:=by simp
 have e2:jjo (jz0 a p) (t :: b)=jjo (jxa (jz0 a p) t.k t.n) b:=rfl;rw[e2,e,ih (p++[t]) (by rw[<- e];exact h),jdx t a p (fun y hy=>h'.2.2 y hy t (by simp))])
theorem jyw(a b:List Tk)(h:Asc b):jz0 a b=jjo a b:=by
 have:=jmv a b [] h;rwa [jz3] at this
theorem jw6{l:List Tk}(h:isC l=true):l.length<=40/\Asc l/\∀ x∈l,0<=x.k/\x.k<=1000000/\x.n≠0:=by
 unfold isC at h;rw[Bool.and_eq_true,Bool.and_eq_true,Bool.not_eq_true'] at h;refine⟨of_decide_eq_true h.1,of_decide_eq_true h.2.1,fun x hx=>?_⟩;have:=List.any_eq_false.1 h.2.2 x hx;unfold bad at this;rw[Bool.not_eq_true,Bool.or_eq_false_iff,Bool.or_eq_false_iff] at this;have h1:=of_decide_eq_false this.1;have h2:=of_decide_eq_false this.2.1;have h3:=of_decide_eq_false this.2.2;exact⟨by omega,by omega,h3⟩
theorem isC_mk{l:List Tk}(h1:l.length<=40)(h2:Asc l)(h3:∀ x∈l,0<=x.k/\x.k<=1000000/\x.n≠0):isC l=true:=by
 unfold isC;rw[Bool.and_eq_true,Bool.and_eq_true,Bool.not_eq_true'];refine⟨decide_eq_true h1,decide_eq_true h2,List.any_eq_false.2 fun x hx=>?_⟩;obtain⟨a,b,c⟩:=h3 x hx;unfold bad;rw[Bool.not_eq_true,Bool.or_eq_false_iff,Bool.or_eq_false_iff];exact⟨decide_eq_false (by omega),decide_eq_false (by omega),decide_eq_false c⟩
theorem jmr{q:Int}:∀ {l:List Tk},(∀ x∈l,x.k≠q)->ofC l q=0
  | [],_=>rfl
  | x :: l,h=>by rw[ofC,if_neg (h x (by simp)),jmr fun z hz=>h z (by simp[hz])]
theorem jms{l:List Tk}{x:Tk}(h:Asc l)(hx:x∈l):ofC l x.k=x.n:=by
 induction l with
 | nil=>cases hx
 | cons y l ih=>(
 have hp:=List.pairwise_cons.1 h;rw[ofC];rcases List.mem_cons.1 hx with rfl | h'
 ·rw[if_pos rfl]
 ·rw[if_neg (by have:=hp.1 x h';omega),ih hp.2 h'])
theorem jum{q n:Int}{x:Tk}:∀ {l:List Tk},x∈jxa l q n->x∈l\/(x.k=q/\(x.n=n\/∃ y∈l,y.k=q/\x.n=max n y.n))
  | [],h=>by
    rw[jxa,List.mem_singleton] at h
    subst h
    exact .inr ⟨rfl,.inl rfl⟩
  | y :: l,h=>by
    rw[jxa] at h
    split at h
    · rcases List.mem_cons.1 h with rfl | h'
      · exact .inl (by simp)
      · rcases jum h' with h1 | ⟨h1,h2 | ⟨z,hz,h3,h4⟩⟩
        · exact .inl (by simp[h1])
        · exact .inr ⟨h1,.inl h2⟩
        · exact .inr ⟨h1,.inr ⟨z,by simp[hz],h3,h4⟩⟩
    · split at h
      · rename_i _ he
        rcases List.mem_cons.1 h with rfl | h'
        · exact .inr ⟨rfl,.inr ⟨y,by simp,he,rfl⟩⟩
        · exact .inl (by simp[h'])
      · rcases List.mem_cons.1 h with rfl | h'
        · exact .inr ⟨rfl,.inl rfl⟩
        · exact .inl h'
theorem jr5{l:List Tk}{q n:Int}(h:Nok l)(hn:0<=n/\n<=18446744073709551615):Nok (jxa l q n):=by
 intro x hx;rcases jum hx with h1 | ⟨_,h2 | ⟨y,hy,_,h3⟩⟩
 ·exact h x h1
 ·rw[h2];exact hn
 ·(have:=h y hy;rw[h3];omega)
theorem jga(q n:Int):∀ l:List Tk,(jxa l q n).length<=l.length+1
  | []=>by rw[jxa];simp
  | x :: l=>by
    rw[jxa]
    have:=jga q n l
    split
    · simp;omega
    · split <;> simp
theorem jnb(b:List Tk):∀ a:List Tk,(jjo a b).length<=a.length+b.length:=by
 induction b with
 | nil=>intro a;simp[jjo]
 | cons t b ih=>(
 intro a;have h1:=ih (jxa a t.k t.n);have h2:=jga t.k t.n a;have e:jjo a (t :: b)=jjo (jxa a t.k t.n) b:=rfl;rw[e];simp
 omega)
theorem jo0(a b:List Tk):(jz0 a b).length<=a.length+b.length:=by
 induction a,b using jz0.induct with
 | case1 b=>rw[jz1];simp
 | case2 x a=>rw[jz3];simp
 | case3 x a y b hlt ih=>rw[jxh _ _ hlt];simp at ih ⊢;omega
 | case4 x a y b hlt hgt ih=>rw[jxi _ _ hgt];simp at ih ⊢;omega
 | case5 x a y b hlt hgt ih=>rw[jxj _ _ (by omega)];simp at ih ⊢;omega
end C3
namespace C3
open Go.RowKit
def jqn(m:Nat)(w:World)(A:Option Addr)(xs:List Tk):Prop :=
  xs=[]\/∃ b off,A=some ⟨b,off,none⟩/\b<m/\∀ i x,xs[i]?=some x->w.cell? ⟨b,off+i*2,none⟩=some (.int .i64 x.k)/\w.cell? ⟨b,off+i*2+1,none⟩=some (.int .u64 x.n)
theorem jqn.nil{m:Nat}{w:World}{A:Option Addr}:jqn m w A [] := .inl rfl
theorem jqn.get{m:Nat}{w:World}{A:Option Addr}{xs:List Tk}(h:jqn m w A xs){k:Nat}(hk:k<xs.length):∃ b off,A=some ⟨b,off,none⟩/\b<m/\∀ i x,xs[i]?=some x->w.cell? ⟨b,off+i*2,none⟩=some (.int .i64 x.k)/\w.cell? ⟨b,off+i*2+1,none⟩=some (.int .u64 x.n):=by
 rcases h with h | h
 ·subst h;simp at hk
 ·exact h
theorem jqn.keep{m:Nat}{w w':World}{A:Option Addr}{xs:List Tk}(h:jqn m w A xs)(hb:∀ b,b<m->w'.heap[b]?=w.heap[b]?):jqn m w' A xs:=by
 rcases h with h | ⟨b,off,hA,hlt,h⟩
 ·exact .inl h
 ·exact .inr ⟨b,off,hA,hlt,fun i x hx=>⟨(World.cell?_of_block (a:=⟨b,_,none⟩) (hb b hlt)).trans (h i x hx).1,(World.cell?_of_block (a:=⟨b,_,none⟩) (hb b hlt)).trans (h i x hx).2⟩⟩
theorem jqn.below{m:Nat}{w w':World}{A:Option Addr}{xs:List Tk}(h:jqn m w A xs)(hb:Below m w w'):jqn m w' A xs:=h.keep fun b hlt=>hb.block b hlt
theorem jqn.up{m n:Nat}{w:World}{A:Option Addr}{xs:List Tk}(h:jqn m w A xs)(hm:m<=n):jqn n w A xs:=by
 rcases h with h | ⟨b,off,hA,hlt,h⟩
 ·exact .inl h
 ·exact .inr ⟨b,off,hA,ltl hlt hm,h⟩
theorem jqn.later{w w':World}{A:Option Addr}{xs:List Tk}(h:jqn w.heap.size w A xs)(hb:Below w.heap.size w w'):jqn w'.heap.size w' A xs:=(h.below hb).up hb.size
theorem jqn.one{m b:Nat}{w:World}{x:Tk}(hm:b<m)(h0:w.cell? ⟨b,0,none⟩=some (.int .i64 x.k))(h1:w.cell? ⟨b,1,none⟩=some (.int .u64 x.n)):jqn m w (some ⟨b,0,none⟩) [x]:=by
 refine .inr ⟨b,0,rfl,hm,fun i y hy=>?_⟩;match i,hy with
 | 0,hy=>simp at hy;subst hy;exact⟨h0,h1⟩
theorem jqn.tail{m b off:Nat}{w:World}{x:Tk}{xs:List Tk}(h:jqn m w (some ⟨b,off,none⟩) (x :: xs)):jqn m w (some ⟨b,off+2,none⟩) xs:=by
 rcases h with h | ⟨b',off',hA,hlt,h⟩
 ·cases h
 ·(
 cases hA
 refine .inr ⟨b,off+2,rfl,hlt,fun i y hy=>?_⟩;have:=h (i+1) y (by simpa using hy);rw[show off+(i+1)*2=off+2+i*2 by omega] at this;exact this)
theorem jzk{w w':World}{o:Obj}(h:Below w.heap.size w w'):Below w.heap.size w (w'.alloc o):=h.alloc h.size o
theorem jzf(w:World)(o:Obj):Below w.heap.size w (w.alloc o):=(Below.refl _ w).alloc (Nat.le_refl _) o
theorem jqz(w:World):Below w.heap.size w w.drew:=(Below.refl _ _).drew
structure In (w:World) (A:Option Addr) (c:Nat) (xs:List Tk):Prop where
  lies:jqn w.heap.size w A xs
  cap:xs.length<=c
  top:c<=maxLen
  nok:Nok xs
theorem In.later{w w':World}{A:Option Addr}{c:Nat}{xs:List Tk}(h:In w A c xs)(hb:Below w.heap.size w w'):In w' A c xs:=⟨h.lies.later hb,h.cap,h.top,h.nok⟩
theorem In.nil(w:World):In w none 0 []:=⟨.nil,Nat.le_refl _,by simp[maxLen],fun x hx=>by cases hx⟩
def RetT(w:World)(ys:List Tk)(e:Ending)(w':World):Prop :=
  ∃ A c,e = .returned (.slice A ys.length c)/\In w' A c ys/\Below w.heap.size w w'
def jzx(xs:List Tk):List Value:=xs.flatMap fun x=>[.int .i64 x.k,.int .u64 x.n]
theorem jy5(xs:List Tk):(jzx xs).length=xs.length*2:=by
 induction xs with
 | nil=>rfl
 | cons x xs ih=>simp only[jzx,List.flatMap_cons,List.length_append,List.length_cons,List.length_nil] at ih ⊢;omega
theorem jud(xs ys:List Tk):jzx (xs++ys)=jzx xs++jzx ys:=by simp[jzx]
theorem jg9{xs:List Tk}{i:Nat}{x:Tk}(h:xs[i]?=some x):(jzx xs)[i*2]?=some (.int .i64 x.k)/\(jzx xs)[i*2+1]?=some (.int .u64 x.n):=by
 induction xs generalizing i with
 | nil=>simp at h
 | cons y xs ih=>(
 cases i with
 | zero=>simp at h;subst h;simp[jzx]
 | succ i=>(
 have:=ih (i:=i) (by simpa using h);have e:(i+1)*2=i*2+1+1:=by omega
 rw[e];simpa[jzx] using this))
theorem jro{xs:List Tk}:∀ u∈jzx xs,u.oneCell'=true:=by
 intro u hu;obtain⟨x,_,hx⟩:=List.mem_flatMap.1 hu;simp at hx
 rcases hx with rfl | rfl <;> rfl
theorem jqn.cells{m b off:Nat}{w:World}:∀ {xs:List Tk},jqn m w (some ⟨b,off,none⟩) xs->∀ j u,(jzx xs)[j]?=some u->w.cell? ((⟨b,off,none⟩:Addr).add j)=some u:=by
 intro xs h j u hu;rcases h with h | ⟨b',off',hA,hlt,h⟩
 ·subst h;simp[jzx] at hu
 ·(
 cases hA
 have hj:j<xs.length*2:=by rw[<- jy5];exact (List.getElem?_eq_some_iff.1 hu).1
 obtain⟨x,hx⟩:∃ x,xs[j / 2]?=some x:=⟨_,List.getElem?_eq_getElem (by omega)⟩
 obtain⟨h0,h1⟩:=h _ x hx;obtain⟨g0,g1⟩:=jg9 hx;rw[Addr.add_lit];rcases Nat.mod_two_eq_zero_or_one j with e | e
 ·(
 have ej:j / 2*2=j:=by omega
 rw[ej] at g0 h0;rw[g0] at hu;rw[h0];exact hu)
 ·(
 have ej:j / 2*2+1=j:=by omega
 rw[Nat.add_assoc,ej] at h1;rw[ej] at g1;rw[g1] at hu;rw[h1];exact hu))
def jkg(w:World)(base:Nat)(v:Value)(ys:List Tk):Prop:=w.ownsRow base 53 2 v ys.length (jzx ys)
theorem jkg.nil(w:World)(base:Nat):jkg w base (.slice none 0 0) []:=World.ownsRow_nil w base _ _
theorem jkg.form{w:World}{base:Nat}{v:Value}{ys:List Tk}(h:jkg w base v ys)(hn:Nok ys):∃ A c,v = .slice A ys.length c/\In w A c ys:=by
 rcases h.2 with ⟨rfl,h0⟩ | ⟨g,cap,cur,rfl,hb,hg,j0,d8,fq,ht⟩
 ·(have:ys=[]:=List.eq_nil_of_length_eq_zero h0;subst this;exact⟨none,0,rfl,In.nil w⟩)
 ·(have hlt:g<w.heap.size:=(Array.getElem?_eq_some_iff.1 hg).1;refine⟨_,cap,rfl,.inr ⟨g,0,rfl,hlt,fun i x hx=>?_⟩,j0,d8,hn⟩;obtain⟨h1,h2⟩:=jg9 hx;have e1:=World.ownsRow.cells h (g:=g) rfl _ _ h1;have e2:=World.ownsRow.cells h (g:=g) rfl _ _ h2;rw[Addr.add_lit] at e1 e2;exact⟨e1,by rw[show 0+i*2+1=0+(i*2+1) by omega];exact e2⟩)
theorem jkg.below{w w':World}{base:Nat}{v:Value}{ys:List Tk}(h:jkg w base v ys)(hb:Below w.heap.size w w'):jkg w' base v ys :=
  World.ownsRow.kept h (row:=none) ⟨hb.os,hb.tape,hb.output,hb.size,fun k hk _=>hb.block k hk⟩ (by
    cases hv:v.ownBlock with
    | none=>exact .inl rfl
    | some k=>exact .inr (by simp))
theorem jkg.lt{w:World}{base:Nat}{v:Value}{ys:List Tk}(h:jkg w base v ys){k:Nat}(hk:v.ownBlock=some k):base<=k/\k<w.heap.size:=World.ownsRow.lt h k hk
theorem Tryz.infoTick:(Tryz.prog.info? 53).map (fun i=>(i.zero,i.size,i.bytes))=some (some (.agg #[.int .i64 0,.int .u64 0]),2,16):=by kernel_rfl
section
variable (w:World)
theorem jvh(base:Nat)(t ty:TypeId)(ht:Tryz.prog.underlying t=some (.slice 53))(v:Value)(ys:List Tk)(aj:jkg w base v ys)(c:Nat):(Builtin.append_ #[t,t] ty #[v,.slice none 0 c]).run Tryz.prog w = .ok v w:=by
 obtain⟨i0,hi,eZ,ek,db⟩:=info_parts Tryz.infoTick;rcases aj.2 with ⟨rfl,_⟩ | ⟨g,cap,cur,rfl,_,_,j0,_⟩
 ·simp[Builtin.append_,run_underlying ht,sizeOf,typeInfo,hi,Builtin.lenOf,Builtin.firstCells]
 ·simp[Builtin.append_,run_underlying ht,sizeOf,typeInfo,hi,Builtin.lenOf,Builtin.firstCells,j0,storeCells]
theorem jdl(base:Nat)(t ty:TypeId)(ht:Tryz.prog.underlying t=some (.slice 53))(v:Value)(ys:List Tk)(aj:jkg w base v ys)(m:Nat)(A:Option Addr)(c:Nat)(news:List Tk)(hl:jqn m w A news)(aq:ys.length+news.length<=1000000)(b6:base<=w.heap.size):∃ v' w',(Builtin.append_ #[t,t] ty #[v,.slice A news.length c]).run Tryz.prog w = .ok v' w'/\jkg w' base v' (ys++news)/\w.grownBy w' v.ownBlock/\(v'.ownBlock=v.ownBlock\/v'.ownBlock=some w.heap.size):=by
 obtain⟨i0,hi,eZ,ek,db⟩:=info_parts Tryz.infoTick;cases A with
 | none=>(
 have hn:news=[]:=by (
 rcases hl with h | ⟨b,off,h,_⟩
 ·exact h
 ·cases h)
 subst hn;exact⟨v,w,jvh w base t ty ht v ys aj c,by simpa using aj,World.grownBy.refl w _,.inl rfl⟩)
 | some a=>(
 have gn:∀ j u,(jzx news)[j]?=some u->w.cell? (a.add j)=some u:=by (
 intro j u hu;have cR:=hl;rcases cR with h | ⟨b,off,h,_⟩
 ·subst h;simp[jzx] at hu
 ·(
 cases h
 exact hl.cells j u hu))
 obtain⟨v',w',hr,h2,h3,_,h5⟩:=run_append_own_at (P:=Tryz.prog) w base t ty 53 i0 _ 2 16 ht hi eZ ek db rfl (by omega) v ys.length (jzx ys) aj a news.length c (jzx news)
   (by rw[jy5]) gn jro (by unfold maxLen;omega) (by omega) b6
 refine⟨v',w',hr,?_,h3,h5⟩;unfold jkg;rw[jud,List.length_append];exact h2)
variable {o:Oper} {a:Act} {K:Act->World->Prop} {Q:Exit->Act->World->Prop}
theorem jui(s x:Operand)(t:TypeId)(ho:o.op = .call { callee := .builtin .append,args:=#[s,x],argTypes:=#[t,t] })(base:Nat)(ht:Tryz.prog.underlying t=some (.slice 53))(v:Value)(ys:List Tk)(hs:a.eval s=v)(aj:jkg w base v ys)(k:Nat)(A:Option Addr)(m c:Nat)(news:List Tk)(hm:news.length=m)(hx:a.eval x = .slice A m c)(hl:jqn k w A news)(aq:ys.length+news.length<=1000000)(b6:base<=w.heap.size)(h:∀ v' w',jkg w' base v' (ys++news)->w.grownBy w' v.ownBlock->(v'.ownBlock=v.ownBlock\/v'.ownBlock=some w.heap.size)->K (a.put o.dst v') w'):o.wp Tryz.prog a w K Q:=by
 subst hm;obtain⟨v',w',hr,h2,h3,h4⟩:=jdl w base t o.type ht v ys aj k A c news hl aq b6;unfold Oper.wp execOp;simp only[ho,resolve,invoke,builtin,Sem.run_bind,Sem.run_pure,Result.andThen_ok,List.map_toArray,List.map_cons,List.map_nil,hs,hx,hr];exact h v' w' h2 h3 h4
theorem jqe{ops:Array Oper}{rest:List Oper}(jS:o.guard=none)(s x:Operand)(t:TypeId)(ho:o.op = .call { callee := .builtin .append,args:=#[s,x],argTypes:=#[t,t] })
    (base:Nat) (ht:Tryz.prog.underlying t=some (.slice 53)) (v:Value) (ys:List Tk) (hs:a.eval s=v) (aj:jkg w base v ys)
    (k:Nat) (A:Option Addr) (m c:Nat) (news:List Tk) (hm:news.length=m) (hx:a.eval x = .slice A m c) (hl:jqn k w A news) (aq:ys.length+news.length<=1000000) (b6:base<=w.heap.size)
    (h:∀ v' w',jkg w' base v' (ys++news)->w.grownBy w' v.ownBlock->(v'.ownBlock=v.ownBlock\/v'.ownBlock=some w.heap.size)->wpList Tryz.prog ops Q rest (a.put o.dst v') w'):wpList Tryz.prog ops Q (o :: rest) a w :=
  wpList_plain jS fun _ hK=>jui w s x t ho base ht v ys hs aj k A m c news hm hx hl aq b6 fun v' w' h2 h3 h4=>hK _ _ (h v' w' h2 h3 h4)
theorem jj8{ops:Array Oper}{E:Prop}(jS:o.guard=none)(s x:Operand)(t:TypeId)(ho:o.op = .call { callee := .builtin .append,args:=#[s,x],argTypes:=#[t,t] })(base:Nat)(ht:Tryz.prog.underlying t=some (.slice 53))(v:Value)(ys:List Tk)(hs:a.eval s=v)(aj:jkg w base v ys)(k:Nat)(A:Option Addr)(m c:Nat)(news:List Tk)(hm:news.length=m)(hx:a.eval x = .slice A m c)(hl:jqn k w A news)(aq:ys.length+news.length<=1000000)(b6:base<=w.heap.size)(h:∀ v' w',jkg w' base v' (ys++news)->w.grownBy w' v.ownBlock->(v'.ownBlock=v.ownBlock\/v'.ownBlock=some w.heap.size)->K (a.put o.dst v') w'):if Region.wanted o (yielded ops a.tmps)=true then Oper.wp Tryz.prog o a w K Q else E:=by
 have hw:Region.wanted o (yielded ops a.tmps)=true:=by simp[Region.wanted,jS]
 rw[if_pos hw];exact jui w s x t ho base ht v ys hs aj k A m c news hm hx hl aq b6 h
end
theorem jjm{fn:Func}{p:Tmp}(h:fn.results=#[.cell p 53])(tmps:Array Value)(w:World)(g:Nat)(v0 v1:Value)(hp:tmps.getD p undef = .pointer (some ⟨g,0,none⟩))(h0:w.cell? ⟨g,0,none⟩=some v0)(h1:w.cell? ⟨g,1,none⟩=some v1):(results fn tmps).run Tryz.prog w = .ok (.agg #[v0,v1]) w:=by
 have iD:tmps[p]?.getD undef = .pointer (some ⟨g,0,none⟩):=by simpa using hp
 simp[results,h,iD,asAddr]
 go_simp
end C3
namespace C3
open Go.RowKit
theorem jl8{l:List Tk}{i:Nat}{x:Tk}{q:Int}(hx:l[i]?=some x):ofC (l.drop i) q=if x.k=q then x.n else ofC (l.drop (i+1)) q:=by
 obtain⟨hi,he⟩:=List.getElem?_eq_some_iff.1 hx;rw[List.drop_eq_getElem_cons hi,he,ofC]
theorem jhm(A:Option Addr)(c:Nat)(l:List Tk)(q:Int)(w:World)(h:In w A c l):Calls Tryz.prog 158 #[.slice A l.length c,.int .i64 q] w fun e w'=>e = .returned (.int .u64 (ofC l q))/\w=w':=by
 obtain⟨hl,bD,bC,-⟩:=h;have eI:l.length<=9223372036854775807:=by unfold maxLen at bC;omega
 clear bD bC;go_enter Tryz.func158,Tryz.ntmps158;go_wp2_with fail;go_loop [5] (fun iv=>∃ k:Nat,k<=l.length/\iv = .int .i64 k/\Hid (ofC l q=ofC (l.drop k) q)) (fun iv=>l.length - (intOf iv).toNat)
 case atStart=>exact⟨0,Nat.zero_le _,rfl,by simp[Hid]⟩
 case round=>(
 obtain⟨k,hk,rfl,h0⟩:=hrel;by_cases hlt:k<l.length
 ·(
 obtain⟨b,off,rfl,hb,hc⟩:=hl.get hlt;obtain⟨x,hx⟩:∃ x,l[k]?=some x:=⟨_,List.getElem?_eq_getElem hlt⟩
 obtain⟨cq,cB⟩:=hc k x hx;have HX:=Lh hx;clear hx hc hl;by_cases he:x.k=q
 ·(
 have HE:=Lh he;have dg:(x.k == q)=true:=by simp[he]
 clear he;go_wp2_with fail;go_ret;refine⟨jxd ?_,rfl⟩;rw[h0.out,jl8 HX.out,if_pos HE.out])
 ·(
 have HE:=Lh he;have dg:(x.k == q)=false:=by simp[he]
 clear he;go_wp2_with fail;go_round
 case rel=>exact⟨k+1,by omega,by go_num,by show ofC l q=_;rw[h0.out,jl8 HX.out,if_neg HE.out]⟩
 case measure=>simp[intOf];omega))
 ·(go_wp2_with fail;go_ret;refine⟨jxd ?_,rfl⟩;rw[h0.out,List.drop_eq_nil_of_le (by omega)];rfl))
theorem jtr{l l':List Tk}{i:Nat}(h0:l.take i=l'.take i)(hi:l.length<=i)(nU:l'.length<=i):decide (l=l')=true:=by
 rw[List.take_of_length_le hi,List.take_of_length_le nU] at h0;exact decide_eq_true h0
theorem jox{l l':List Tk}{i:Nat}{x x':Tk}(hx:l[i]?=some x)(iI:l'[i]?=some x')(h:x≠x'):decide (l=l')=false:=by
 refine decide_eq_false fun e=>h ?_
 rw[e,iI] at hx;exact (Option.some.inj hx).symm
theorem jta{l l':List Tk}(h:l.length≠l'.length):decide (l=l')=false:=decide_eq_false fun e=>h (by rw[e])
theorem jj7{l l':List Tk}{i:Nat}{x:Tk}(h0:l.take i=l'.take i)(hx:l[i]?=some x)(iI:l'[i]?=some x):l.take (i+1)=l'.take (i+1):=by
 obtain⟨hi,he⟩:=List.getElem?_eq_some_iff.1 hx;obtain⟨nU,he'⟩:=List.getElem?_eq_some_iff.1 iI;rw[List.take_succ_eq_append_getElem hi,List.take_succ_eq_append_getElem nU,h0,he,he']
theorem jgm(A A':Option Addr)(c c':Nat)(l l':List Tk)(w:World)(h:In w A c l)(h':In w A' c' l'):Calls Tryz.prog 30 #[.slice A l.length c,.slice A' l'.length c'] w (jz6 w (.bool (decide (l=l')))):=by
 obtain⟨hl,bD,bC,-⟩:=h;obtain⟨cR,-,-,-⟩:=h';have eI:l.length<=9223372036854775807:=by unfold maxLen at bC;omega
 clear bD bC;by_cases aq:l.length=l'.length
 ·(
 have fF:=Lh aq;have hle:l'.length=l.length:=aq.symm;clear aq;rw[hle];clear hle;go_enter Tryz.func30,Tryz.ntmps30;go_wp2_with fail;go_loopw [5] (fun iv wr=>∃ k:Nat,k<=l.length/\iv = .int .i64 k/\Hid (l.take k=l'.take k)/\Below w.heap.size w wr) (fun iv _=>l.length - (intOf iv).toNat)
 case atStart=>exact⟨0,Nat.zero_le _,rfl,by simp[Hid],Below.refl _ _⟩
 case round=>(
 obtain⟨k,hk,rfl,h0,ar⟩:=hrel;by_cases hlt:k<l.length
 ·(
 have cJ:k<l'.length:=by have:=fF.out;omega
 obtain⟨b,off,rfl,hb,hc⟩:=(hl.below ar).get hlt;obtain⟨x,hx⟩:∃ x,l[k]?=some x:=⟨_,List.getElem?_eq_getElem hlt⟩
 obtain⟨cq,cB⟩:=hc k x hx;have HX:=Lh hx;obtain⟨b',off',rfl,ct,cP⟩:=(cR.below ar).get cJ;obtain⟨y,hy⟩:∃ y,l'[k]?=some y:=⟨_,List.getElem?_eq_getElem cJ⟩
 obtain⟨fI,fM⟩:=cP k y hy;have HY:=Lh hy;clear hx hc hl hy cP cR;obtain⟨xk,xn⟩:=x;obtain⟨yk,yn⟩:=y;dsimp only at cq cB fI fM
 have lj:(k:Int)<(l.length:Int):=by omega
 by_cases he:xk=yk/\xn=yn
 ·(
 obtain⟨rfl,rfl⟩:=he;go_wp2_with fail;go_quiet (fail)
 go_wp2_with fail;go_roundw
 case rel=>exact⟨k+1,by omega,by go_num,jj7 h0.out HX.out HY.out,jzq ar _⟩
 case measure=>simp[intOf];omega)
 ·(
 have HE:=Lh he;have cQ:Hid (Tk.mk xk xn≠Tk.mk yk yn):=by intro e;cases e;exact HE.out ⟨rfl,rfl⟩
 by_cases jC:xk=yk
 ·(
 have eo:¬ xn=yn:=fun e=>he ⟨jC,e⟩
 have fC:(xk == yk)=true:=by simp[jC]
 have ji:(xn == yn)=false:=by simp[eo]
 clear he jC eo;go_wp2_with fail;go_quiet (fail)
 go_wp2_with fail;go_ret;exact⟨jzi (jox HX.out HY.out cQ.out).symm,jzq ar _⟩)
 ·(
 have fC:(xk == yk)=false:=by simp[jC]
 clear he jC;go_wp2_with fail;go_quiet (fail)
 go_wp2_with fail;go_ret;exact⟨jzi (jox HX.out HY.out cQ.out).symm,jzq ar _⟩)))
 ·(go_wp2_with fail;go_ret;exact⟨jzi (jtr h0.out (by omega) (by have:=fF.out;omega)).symm,ar⟩)))
 ·(
 rw[jta aq];have hne:¬ ((l.length:Int)=l'.length):=by omega
 clear aq;go_enter Tryz.func30,Tryz.ntmps30;go_wp2_with fail;go_ret;exact⟨rfl,Below.refl _ _⟩)
theorem jd4{l:List Tk}{i:Nat}{x:Tk}(hx:l[i]?=some x)(hb:bad x=true):isC l=false:=by
 unfold isC;have:l.any bad=true:=List.any_eq_true.2 ⟨x,List.mem_of_getElem? hx,hb⟩;rw[this];simp
theorem isC_fall{l:List Tk}{i:Nat}{x y:Tk}(hy:l[i]?=some y)(hx:l[i+1]?=some x)(hb:x.k<=y.k):isC l=false:=by
 unfold isC;have:¬ Asc l:=fun h=>by (obtain⟨h1,e1⟩:=List.getElem?_eq_some_iff.1 hy;obtain⟨h2,e2⟩:=List.getElem?_eq_some_iff.1 hx;have:=List.pairwise_iff_getElem.1 h i (i+1) h1 h2 (by omega);rw[e1,e2] at this;omega)
 rw[decide_eq_false this];simp
theorem isC_end{l:List Tk}{i:Nat}(h1:Asc (l.take i))(h2:(l.take i).any bad=false)(hi:l.length<=i):isC l=decide (l.length<=40):=by
 rw[List.take_of_length_le hi] at h1 h2;unfold isC;rw[decide_eq_true h1,h2];simp
theorem jbk{l:List Tk}{i:Nat}{x:Tk}(h:(l.take i).any bad=false)(hx:l[i]?=some x)(hb:bad x=false):(l.take (i+1)).any bad=false:=by
 obtain⟨hi,he⟩:=List.getElem?_eq_some_iff.1 hx;rw[List.take_succ_eq_append_getElem hi,List.any_append,h,he];simp[hb]
theorem asc_snoc{l:List Tk}{x:Tk}(h:Asc l)(hl:∀ y∈l,y.k<x.k):Asc (l++[x]) :=
  List.pairwise_append.2 ⟨h,List.pairwise_singleton _ _,fun y hy z hz=>by rw[List.mem_singleton.1 hz];exact hl y hy⟩
theorem asc_one{l:List Tk}{x:Tk}(hx:l[0]?=some x):Asc (l.take 1):=by
 obtain⟨hi,he⟩:=List.getElem?_eq_some_iff.1 hx;rw[List.take_succ_eq_append_getElem hi];exact List.pairwise_singleton _ _
theorem jtx{l:List Tk}{i:Nat}{x y:Tk}(h:Asc (l.take (i+1)))(hy:l[i]?=some y)(hx:l[i+1]?=some x)(hb:y.k<x.k):Asc (l.take (i+1+1)):=by
 obtain⟨h1,e1⟩:=List.getElem?_eq_some_iff.1 hy;obtain⟨h2,e2⟩:=List.getElem?_eq_some_iff.1 hx;rw[List.take_succ_eq_append_getElem h2,e2];refine asc_snoc h fun z hz=>?_
 rw[List.take_succ_eq_append_getElem h1,e1] at hz h;rcases List.mem_append.1 hz with h' | h'
 ·exact Int.lt_trans ((List.pairwise_append.1 h).2.2 z h' y (by simp)) hb
 ·rw[List.mem_singleton.1 h'];exact hb
theorem jgp(A:Option Addr)(c:Nat)(l:List Tk)(w:World)(h:In w A c l):Calls Tryz.prog 93 #[.slice A l.length c] w (jz6 w (.bool (isC l))):=by
 obtain⟨hl,bD,bC,-⟩:=h;have eI:l.length<=9223372036854775807:=by unfold maxLen at bC;omega
 clear bD bC;go_enter Tryz.func93,Tryz.ntmps93;go_wp2_with fail;go_loopw [3] (fun iv wr=>∃ k:Nat,k<=l.length/\iv = .int .i64 k/\Hid (Asc (l.take k))/\Hid ((l.take k).any bad=false)/\Below w.heap.size w wr) (fun iv _=>l.length - (intOf iv).toNat)
 case atStart=>exact⟨0,Nat.zero_le _,rfl,List.Pairwise.nil,by simp[Hid],Below.refl _ _⟩
 case round=>(
 obtain⟨k,hk,rfl,h1,h2,ar⟩:=hrel;by_cases hlt:k<l.length
 ·(
 obtain⟨b,off,rfl,hb,hc⟩:=(hl.below ar).get hlt;obtain⟨x,hx⟩:∃ x,l[k]?=some x:=⟨_,List.getElem?_eq_getElem hlt⟩
 obtain⟨cq,cB⟩:=hc k x hx;have HX:=Lh hx;clear hx hl;obtain⟨xk,xn⟩:=x;dsimp only at cq cB
 have lj:(k:Int)<(l.length:Int):=by omega
 by_cases c1:xk<0
 ·(
 have HB:Hid (bad ⟨xk,xn⟩=true):=by show bad _=_;simp[bad,c1]
 clear hc;go_wp2_with fail;go_quiet (fail)
 go_wp2_with fail;go_ret;exact⟨jzi (jd4 HX.out HB.out).symm,jzq ar _⟩)
 ·(
 have d1:decide (xk<0)=false:=decide_eq_false c1;by_cases c2:1000000<xk
 ·(
 have HB:Hid (bad ⟨xk,xn⟩=true):=by show bad _=_;simp[bad,c2]
 clear hc c1;go_wp2_with fail;go_quiet (fail)
 go_wp2_with fail;go_ret;exact⟨jzi (jd4 HX.out HB.out).symm,jzq ar _⟩)
 ·(
 have d2:decide (1000000<xk)=false:=decide_eq_false c2;by_cases c3:xn=0
 ·(
 have HB:Hid (bad ⟨xk,xn⟩=true):=by show bad _=_;simp[bad,c3]
 clear hc c1 c2;subst c3;go_wp2_with fail;go_quiet (fail)
 go_wp2_with fail;go_ret;exact⟨jzi (jd4 HX.out HB.out).symm,jzq ar _⟩)
 ·(
 have HB:Hid (bad ⟨xk,xn⟩=false):=by show bad _=_;simp[bad,c1,c2,c3]
 have c3':(xn == 0)=false:=by simp[c3]
 clear c1 c2 c3;by_cases iM:k=0
 ·(
 subst iM;simp only[Nat.zero_mul,Nat.add_zero] at cq cB;clear hc;go_wp2_with fail;go_quiet (fail)
 go_wp2_with fail;go_roundw
 case rel=>exact⟨1,by omega,by go_num,asc_one HX.out,jbk h2.out HX.out HB.out,jzq ar _⟩
 case measure=>simp[intOf];omega)
 ·(
 obtain⟨j,hj⟩:∃ j,k=j+1:=⟨k - 1,by omega⟩
 have bm:0<k:=by omega
 obtain⟨y,hy⟩:∃ y,l[j]?=some y:=⟨_,List.getElem?_eq_getElem (by omega)⟩
 obtain⟨fI,-⟩:=hc j y hy;have HY:=Lh hy;clear hc hy;obtain⟨yk,yn⟩:=y;dsimp only at fI
 have HJ:=Lh hj;have s1:IntKind.i64.wrap ((k:Int) - 1)=(k:Int) - 1:=IntWalk.i64_in _ (by omega);have s2:0<=(k:Int) - 1:=by omega
 have s4:(k:Int) - 1<(l.length:Int):=by omega
 have s3:((k:Int) - 1).toNat=j:=by omega
 clear hj iM;by_cases c4:yk<xk
 ·(
 have HC:=Lh c4;have d4:decide (xk<=yk)=false:=decide_eq_false (by omega);clear c4;go_wp2_with fail;go_quiet (fail)
 go_wp2_with fail;go_roundw
 case rel=>(have hj:=HJ.out;clear s1 s2 s3 s4;subst hj;exact⟨j+1+1,by omega,by go_num,jtx h1.out HY.out HX.out HC.out,jbk h2.out HX.out HB.out,jzq ar _⟩)
 case measure=>simp[intOf];omega)
 ·(
 have HC:Hid (xk<=yk):=by show xk<=yk;omega
 have c4':xk<=yk:=HC.out;clear c4;go_wp2_with fail;go_quiet (fail)
 go_wp2_with fail;go_ret;have hj:=HJ.out;clear s1 s2 s3 s4;subst hj;exact⟨jzi (isC_fall HY.out HX.out HC.out).symm,jzq ar _⟩))))))
 ·(go_wp2_with fail;go_ret;refine⟨jzi ?_,ar⟩;rw[isC_end h1.out h2.out (by omega)];exact decide_eq_decide.2 (by omega)))
theorem In.drewN{w:World}{A:Option Addr}{c:Nat}{xs:List Tk}(h:In w A c xs)(n:Nat):In (w.drewN n) A c xs:=h.later (jzq (Below.refl _ _) n)
theorem jgn(A:Option Addr)(c:Nat)(l:List Tk)(q v:Int)(w:World)(n:Nat)(h:In w A c l)(hv:ofC l q=v):Calls Tryz.prog 158 #[.slice A l.length c,.int .i64 q] (w.drewN n) fun e w'=>e = .returned (.int .u64 v)/\∃ m,w'=w.drewN m :=
  hv▸(jhm A c l q _ (h.drewN n)).mono fun _ _ ⟨h1,h2⟩=>⟨h1,n,h2.symm⟩
theorem jyf{p:Tk->Bool}{l:List Tk}{k:Nat}{x:Tk}(h0:(l.take k).all p=true)(hx:l[k]?=some x)(h:p x=true):(l.take (k+1)).all p=true:=by
 obtain⟨hi,he⟩:=List.getElem?_eq_some_iff.1 hx;rw[List.take_succ_eq_append_getElem hi,List.all_append,h0,he];simp[h]
theorem jug{p:Tk->Bool}{l:List Tk}{k:Nat}(h0:(l.take k).all p=true)(h:l.length<=k):l.all p=true:=by rwa [List.take_of_length_le h] at h0
theorem jk5{p:Tk->Bool}{l:List Tk}{k:Nat}{x:Tk}(hx:l[k]?=some x)(h:p x=false):l.all p=false:=by
 rw[List.all_eq_false];exact⟨x,List.mem_of_getElem? hx,by simp[h]⟩
theorem jbc(A A':Option Addr)(c c':Nat)(l l':List Tk)(w:World)(h:In w A c l)(h':In w A' c' l'):Calls Tryz.prog 139 #[.slice A l.length c,.slice A' l'.length c'] w (jz6 w (.bool (jqk l l'))):=by
 obtain⟨hl,bD,bC,-⟩:=h;have HB:=Lh h';have eI:l.length<=9223372036854775807:=by unfold maxLen at bC;omega
 clear bD bC h';go_enter Tryz.func139,Tryz.ntmps139;go_wp2_with fail;go_loopw [5] (fun iv wr=>∃ k:Nat,k<=l.length/\iv = .int .i64 k/\Hid ((l.take k).all (fun t=>decide (t.n<=ofC l' t.k))=true)/\Below w.heap.size w wr) (fun iv _=>l.length - (intOf iv).toNat)
 case atStart=>exact⟨0,Nat.zero_le _,rfl,by simp[Hid],Below.refl _ _⟩
 case round=>(
 obtain⟨k,hk,rfl,h0,ar⟩:=hrel;by_cases hlt:k<l.length
 ·(
 obtain⟨b,off,rfl,hb,hc⟩:=(hl.below ar).get hlt;obtain⟨x,hx⟩:∃ x,l[k]?=some x:=⟨_,List.getElem?_eq_getElem hlt⟩
 obtain⟨cq,cB⟩:=hc k x hx;have HX:=Lh hx;clear hx hc hl;obtain⟨xk,xn⟩:=x;dsimp only at cq cB
 have lj:(k:Int)<(l.length:Int):=by omega
 replace HB:=Lh (HB.out.later ar);obtain⟨q,hq⟩:=exq (ofC l' xk);have HQ:=Lh hq;clear hq;by_cases hle:xn<=q
 ·(
 have HP:Hid ((fun t:Tk=>decide (t.n<=ofC l' t.k)) ⟨xk,xn⟩=true):=by show decide (xn<=ofC l' xk)=true;rw[HQ.out];exact decide_eq_true hle
 have d1:decide (q<xn)=false:=decide_eq_false (by omega);clear hle;go_wp2_with fail;go_quiet ((go_at_call 158;exact jgn _ _ _ _ _ _ _ HB.out HQ.out))
 go_wp2_with fail;go_roundw
 case rel=>exact⟨k+1,by omega,by go_num,jyf h0.out HX.out HP.out,jzq ar _⟩
 case measure=>simp[intOf];omega)
 ·(
 have HP:Hid ((fun t:Tk=>decide (t.n<=ofC l' t.k)) ⟨xk,xn⟩=false):=by show decide (xn<=ofC l' xk)=false;rw[HQ.out];exact decide_eq_false hle
 have d1:q<xn:=by omega
 clear hle;go_wp2_with fail;go_quiet ((go_at_call 158;exact jgn _ _ _ _ _ _ _ HB.out HQ.out))
 go_wp2_with fail;go_ret;exact⟨jzi (jk5 HX.out HP.out).symm,jzq ar _⟩))
 ·(go_wp2_with fail;go_ret;exact⟨jzi (jug h0.out (by omega)).symm,ar⟩))
theorem jk2(A A':Option Addr)(c c':Nat)(l l':List Tk)(w:World)(h:In w A c l)(h':In w A' c' l'):Calls Tryz.prog 98 #[.slice A l.length c,.slice A' l'.length c'] w (jz6 w (.int .i64 (jxt l l'))):=by
 have HA:=Lh h;have HB:=Lh h';clear h h';obtain⟨p,hp⟩:=exq (jqk l l');obtain⟨q,hq⟩:=exq (jqk l' l);have HC:Hid (jxt l l'=cmpB p q):=by show jxt l l'=_;unfold jxt;rw[hp,hq]
 have HP:=Lh hp;have HQ:=Lh hq;clear hp hq;rw[HC.out];go_enter Tryz.func98,Tryz.ntmps98;go_wp2_with fail;refine (jbc A A' c c' l l' w HA.out HB.out).mono ?_;rintro e w1 ⟨rfl,af⟩;rw[HP.out];go_wp2_with fail;refine (jbc A' A c' c l' l w1 (HB.out.later af) (HA.out.later af)).mono ?_;rintro e w2 ⟨rfl,ab⟩;rw[HQ.out];have bj:Below w.heap.size w w2:=af.trans (ab.mono af.size);cases p <;> cases q
 all_goals
   go_wp2_with fail
   go_ret
   exact⟨rfl,bj⟩
end C3
namespace S2
inductive Tr where
  | mk (k:Int) (ins:List Tr)
def Tr.k:Tr->Int | .mk k _=>k
def Tr.ins:Tr->List Tr | .mk _ l=>l
mutual
def Tr.same:Tr->Tr->Bool
  | .mk k l,.mk k' l'=>decide (k=k') && Tr.sameL l l'
def Tr.sameL:List Tr->List Tr->Bool
  | [],[]=>true
  | x :: l,y :: l'=>x.same y && Tr.sameL l l'
  | [],_ :: _=>false
  | _ :: _,[]=>false
end
theorem Tr.same_iff:∀ a b:Tr,a.same b=true↔a=b:=by
 intro a;refine Tr.rec (motive_1:=fun a=>∀ b,a.same b=true↔a=b) (motive_2:=fun l=>∀ l',Tr.sameL l l'=true↔l=l') ?_ ?_ ?_ a
 ·(rintro k l ih ⟨k',l'⟩;simp[Tr.same,ih l'])
 ·intro l';cases l' <;> simp[Tr.sameL]
 ·(
 intro x l hx hl l';cases l' with
 | nil=>simp[Tr.sameL]
 | cons y l'=>simp[Tr.sameL,hx y,hl l'])
instance:DecidableEq Tr:=fun a b=>decidable_of_iff (a.same b=true) (Tr.same_iff a b)
def arI(k:Int):Int:=if k=1\/k=2\/k=3\/k=6\/k=7 then 0 else if k=4\/k=8 then 1 else if k=5 then 2 else -1
def isT:Nat->Tr->Bool
  | 0,_=>false
  | n+1,t=>decide ((t.ins.length:Int)=arI t.k) && t.ins.all (isT n)
def jjp:Nat->Tr->Nat
  | 0,_=>0
  | n+1,t=>(t.ins.map (jjp n)).foldl max 0+1
theorem jq9{l:List Nat}{a b:Nat}:l.foldl max a<=b↔a<=b/\∀ x∈l,x<=b:=by
 induction l generalizing a with
 | nil=>simp
 | cons x l ih=>rw[List.foldl_cons,ih,List.forall_mem_cons,<- and_assoc,Nat.max_le]
theorem jcs{l:List Nat}{a:Nat}:l.foldl max a=max a (l.foldl max 0):=by
 have h1:=(jq9 (l:=l) (a:=a) (b:=l.foldl max a)).1 (Nat.le_refl _);have h2:=(jq9 (l:=l) (a:=0) (b:=l.foldl max 0)).1 (Nat.le_refl _);have h3:l.foldl max a<=max a (l.foldl max 0):=jq9.2 ⟨by omega,fun x hx=>by have:=h2.2 x hx;omega⟩;have h4:l.foldl max 0<=l.foldl max a:=jq9.2 ⟨by omega,fun x hx=>h1.2 x hx⟩;omega
theorem jub(n:Nat)(t:Tr):jjp n t<=n:=by
 induction n generalizing t with
 | zero=>simp[jjp]
 | succ n ih=>(
 have:(t.ins.map (jjp n)).foldl max 0<=n:=jq9.2 ⟨by omega,fun x hx=>by (obtain⟨y,_,rfl⟩:=List.mem_map.1 hx;exact ih y)⟩
 simp only[jjp];omega)
open Go.RowKit
inductive Sc where
  | mk (k:Int) (A:Option Addr) (c:Nat) (ins:List Sc)
def Sc.k:Sc->Int | .mk k _ _ _=>k
def Sc.ins:Sc->List Sc | .mk _ _ _ l=>l
def Sc.val:Sc->Value | .mk k A c l => .agg #[.int .i64 k,.slice A l.length c]
def Sc.v1:Sc->Value | .mk _ A c l => .slice A l.length c
theorem jzh(k:Int)(A:Option Addr)(c:Nat)(l:List Sc):(Sc.mk k A c l).val = .agg #[.int .i64 k,.slice A l.length c]:=rfl
theorem Sc.ind{P:Sc->Prop}(h:∀ k A c l,(∀ x∈l,P x)->P (.mk k A c l)):∀ t,P t:=fun t =>
  Sc.rec (motive_1:=P) (motive_2:=fun l=>∀ x∈l,P x) (fun k A c l ih=>h k A c l ih) (by simp) (fun x l hx hl y hy=>by
    rcases List.mem_cons.1 hy with rfl | h'
    · exact hx
    · exact hl y h') t
mutual
def Sc.er:Sc->Tr
  | .mk k _ _ l => .mk k (Sc.erL l)
def Sc.erL:List Sc->List Tr
  | []=>[]
  | x :: l=>x.er :: Sc.erL l
end
theorem jg6:∀ l,Sc.erL l=l.map Sc.er
  | []=>rfl
  | x :: l=>by rw[Sc.erL,jg6 l,List.map_cons]
theorem jzw(k:Int)(A:Option Addr)(c:Nat)(l:List Sc):(Sc.mk k A c l).er = .mk k (l.map Sc.er):=by rw[Sc.er,jg6]
theorem er_k(s:Sc):s.er.k=s.k:=by cases s;rw[jzw];rfl
theorem er_ins(s:Sc):s.er.ins=s.ins.map Sc.er:=by cases s;rw[jzw];rfl
def jx0(P:Nat->Prop)(w:World)(A:Option Addr)(xs:List Sc):Prop :=
  xs=[]\/∃ b off,A=some ⟨b,off,none⟩/\P b/\∀ i x,xs[i]?=some x ->
    w.cell? ⟨b,off+i*2,none⟩=some (.int .i64 x.k)/\w.cell? ⟨b,off+i*2+1,none⟩=some x.v1
inductive Sc.Inp (P:Nat->Prop) (w:World):Sc->Prop
  | mk (k:Int) (A:Option Addr) (c:Nat) (l:List Sc):jx0 P w A l->l.length<=c->c<=9223372036854775807->l.length*32<=140737488351232->(∀ x∈l,Sc.Inp P w x)->Sc.Inp P w (.mk k A c l)
theorem jx0.nil{P:Nat->Prop}{w:World}{A:Option Addr}:jx0 P w A [] := .inl rfl
theorem jx0.keep{P:Nat->Prop}{w w':World}{A:Option Addr}{xs:List Sc}(h:jx0 P w A xs)(hb:∀ b,P b->w'.heap[b]?=w.heap[b]?):jx0 P w' A xs:=by
 rcases h with h | ⟨b,off,hA,hlt,h⟩
 ·exact .inl h
 ·exact .inr ⟨b,off,hA,hlt,fun i x hx=>⟨(World.cell?_of_block (a:=⟨b,_,none⟩) (hb b hlt)).trans (h i x hx).1,(World.cell?_of_block (a:=⟨b,_,none⟩) (hb b hlt)).trans (h i x hx).2⟩⟩
theorem jx0.mono{P Q:Nat->Prop}{w:World}{A:Option Addr}{xs:List Sc}(h:jx0 P w A xs)(hm:∀ b,P b->Q b):jx0 Q w A xs:=by
 rcases h with h | ⟨b,off,hA,hlt,h⟩
 ·exact .inl h
 ·exact .inr ⟨b,off,hA,hm b hlt,h⟩
theorem Sc.Inp.keep{P:Nat->Prop}{w w':World}{s:Sc}(h:s.Inp P w)(hb:∀ b,P b->w'.heap[b]?=w.heap[b]?):s.Inp P w':=by
 induction h with
 | mk k A c l hl h1 h2 h3 _ ih=>exact .mk k A c l (hl.keep hb) h1 h2 h3 ih
theorem Sc.Inp.mono{P Q:Nat->Prop}{w:World}{s:Sc}(h:s.Inp P w)(hm:∀ b,P b->Q b):s.Inp Q w:=by
 induction h with
 | mk k A c l hl h1 h2 h3 _ ih=>exact .mk k A c l (hl.mono hm) h1 h2 h3 ih
def jw9(n:Nat)(w:World)(A:Option Addr)(xs:List Sc):Prop:=jx0 (fun b=>b<n) w A xs
def Sc.In(n:Nat)(w:World)(s:Sc):Prop:=s.Inp (fun b=>b<n) w
theorem jw9.below{n:Nat}{w w':World}{A:Option Addr}{xs:List Sc}(h:jw9 n w A xs)(hb:Below n w w'):jw9 n w' A xs:=jx0.keep h fun b h=>hb.block b h
theorem jw9.up{n m:Nat}{w:World}{A:Option Addr}{xs:List Sc}(h:jw9 n w A xs)(hm:n<=m):jw9 m w A xs:=jx0.mono h fun _ h=>ltl h hm
theorem jw9.get{n:Nat}{w:World}{A:Option Addr}{xs:List Sc}(h:jw9 n w A xs){k:Nat}(hk:k<xs.length):∃ b off,A=some ⟨b,off,none⟩/\b<n/\∀ i x,xs[i]?=some x->w.cell? ⟨b,off+i*2,none⟩=some (.int .i64 x.k)/\w.cell? ⟨b,off+i*2+1,none⟩=some x.v1:=by
 rcases h with h | h
 ·subst h;simp at hk
 ·exact h
theorem Sc.In.keep{n:Nat}{w w':World}{s:Sc}(h:s.In n w)(hb:Below n w w'):s.In n w':=Sc.Inp.keep h fun b h=>hb.block b h
theorem Sc.In.up{n m:Nat}{w:World}{s:Sc}(h:s.In n w)(hm:n<=m):s.In m w:=Sc.Inp.mono h fun _ h=>ltl h hm
theorem Sc.In.out{n:Nat}{w:World}{k:Int}{A:Option Addr}{c:Nat}{l:List Sc}(h:(Sc.mk k A c l).In n w):jw9 n w A l/\l.length<=c/\l.length*32<=140737488351232/\∀ x∈l,x.In n w:=by
 cases h with
 | mk _ _ _ _ h1 h2 _ h3 h4=>exact⟨h1,h2,h3,h4⟩
theorem Sc.In.later{w w':World}{s:Sc}(h:s.In w.heap.size w)(hb:Below w.heap.size w w'):s.In w'.heap.size w':=(h.keep hb).up hb.size
theorem jzf(w:World)(o:Obj):Below w.heap.size w (w.alloc o):=(Below.refl _ w).alloc (Nat.le_refl _) o
theorem callV{w w1:World}{f:FuncId}{args:Array Value}{v:Value}(h:Below w.heap.size w w1)(hc:Calls Tryz.prog f args w1 (jz6 w1 v)):Calls Tryz.prog f args w1 (jz6 w v) :=
  hc.mono fun _ _ ⟨h1,h2⟩=>⟨h1,h.trans (h2.mono h.size)⟩
end S2
end Go.Proofs.YtobggoephhjofaaGreatDoor
