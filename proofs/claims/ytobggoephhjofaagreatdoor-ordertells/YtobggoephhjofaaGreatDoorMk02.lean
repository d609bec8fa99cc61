/- A part. No condition. -/
import Derived.Test.YtobggoephhjofaaGreatDoorMk01
import Derived.StillTailTactics
import Derived.Deep.RegionHeld3
set_option maxRecDepth 100000
set_option maxHeartbeats 16000000
namespace Go.Proofs.YtobggoephhjofaaGreatDoor
namespace V4
open Go.RowKit
open C3 (Tk Asc isC ofC jxt Nok In jzk jzf jqz RetT)
inductive Va where
  | mk (n m:Int) (s:List Str) (c:List (List Tk)) (v:List Va)
def Va.n:Va->Int | .mk n _ _ _ _=>n
def Va.m:Va->Int | .mk _ m _ _ _=>m
def Va.s:Va->List Str | .mk _ _ s _ _=>s
def Va.c:Va->List (List Tk) | .mk _ _ _ c _=>c
def Va.v:Va->List Va | .mk _ _ _ _ v=>v
def Va.zero:Va := .mk 0 0 [] [] []
mutual
def Va.same:Va->Va->Bool
  | .mk n m s c v,.mk n' m' s' c' v'=>decide (n=n') && (decide (m=m') && (decide (s=s') && (decide (c=c') && Va.sameL v v')))
def Va.sameL:List Va->List Va->Bool
  | [],[]=>true
  | x :: l,y :: l'=>x.same y && Va.sameL l l'
  | [],_ :: _=>false
  | _ :: _,[]=>false
end
theorem Va.same_iff:∀ a b:Va,a.same b=true↔a=b:=by
 intro a;refine Va.rec (motive_1:=fun a=>∀ b,a.same b=true↔a=b) (motive_2:=fun l=>∀ l',Va.sameL l l'=true↔l=l') ?_ ?_ ?_ a
 ·(rintro n m s c v ih ⟨n',m',s',c',v'⟩;simp[Va.same,ih v'])
 ·intro l';cases l' <;> simp[Va.sameL]
 ·(
 intro x l hx hl l';cases l' with
 | nil=>simp[Va.sameL]
 | cons y l'=>simp[Va.sameL,hx y,hl l'])
instance:DecidableEq Va:=fun a b=>decidable_of_iff (a.same b=true) (Va.same_iff a b)
structure Ck where
  A:Option Addr
  c:Nat
  l:List Tk
def Ck.v(k:Ck):Value := .slice k.A k.l.length k.c
inductive Vl where
  | mk (n m:Int) (sA:Option Addr) (sc:Nat) (ss:List Str) (cA:Option Addr) (cc:Nat) (cs:List Ck) (vA:Option Addr) (vc:Nat) (vs:List Vl)
def Vl.n:Vl->Int | .mk n _ _ _ _ _ _ _ _ _ _=>n
def Vl.m:Vl->Int | .mk _ m _ _ _ _ _ _ _ _ _=>m
def Vl.s1:Vl->Value | .mk _ _ sA sc ss _ _ _ _ _ _ => .slice sA ss.length sc
def Vl.c1:Vl->Value | .mk _ _ _ _ _ cA cc cs _ _ _ => .slice cA cs.length cc
def Vl.v1:Vl->Value | .mk _ _ _ _ _ _ _ _ vA vc vs => .slice vA vs.length vc
def Vl.val(x:Vl):Value := .agg #[.int .u64 x.n,.int .u64 x.m,x.s1,x.c1,x.v1]
theorem jzh(n m:Int)(sA:Option Addr)(sc:Nat)(ss:List Str)(cA:Option Addr)(cc:Nat)(cs:List Ck)(vA:Option Addr)(vc:Nat)(vs:List Vl) :
    (Vl.mk n m sA sc ss cA cc cs vA vc vs).val = .agg #[.int .u64 n,.int .u64 m,.slice sA ss.length sc,.slice cA cs.length cc,.slice vA vs.length vc]:=rfl
theorem Vl.ind{P:Vl->Prop}(h:∀ n m sA sc ss cA cc cs vA vc vs,(∀ x∈vs,P x)->P (.mk n m sA sc ss cA cc cs vA vc vs)):∀ t,P t:=fun t =>
  Vl.rec (motive_1:=P) (motive_2:=fun l=>∀ x∈l,P x) (fun n m sA sc ss cA cc cs vA vc vs ih=>h n m sA sc ss cA cc cs vA vc vs ih) (by simp) (fun x l hx hl y hy=>by
    rcases List.mem_cons.1 hy with rfl | h'
    · exact hx
    · exact hl y h') t
mutual
def Vl.er:Vl->Va
  | .mk n m _ _ ss _ _ cs _ _ vs => .mk n m ss (cs.map Ck.l) (Vl.erL vs)
def Vl.erL:List Vl->List Va
  | []=>[]
  | x :: l=>x.er :: Vl.erL l
end
theorem jg6:∀ l,Vl.erL l=l.map Vl.er
  | []=>rfl
  | x :: l=>by rw[Vl.erL,jg6 l,List.map_cons]
theorem jzw(n m:Int)(sA:Option Addr)(sc:Nat)(ss:List Str)(cA:Option Addr)(cc:Nat)(cs:List Ck)(vA:Option Addr)(vc:Nat)(vs:List Vl) :
    (Vl.mk n m sA sc ss cA cc cs vA vc vs).er = .mk n m ss (cs.map Ck.l) (vs.map Vl.er):=by rw[Vl.er,jg6]
def jzt(P:Nat->Prop)(w:World)(A:Option Addr)(cs:List Value):Prop :=
  cs=[]\/∃ b off,A=some ⟨b,off,none⟩/\P b/\∀ i u,cs[i]?=some u->w.cell? ⟨b,off+i,none⟩=some u
theorem jzt.nil{P:Nat->Prop}{w:World}{A:Option Addr}:jzt P w A [] := .inl rfl
theorem jzt.keep{P:Nat->Prop}{w w':World}{A:Option Addr}{cs:List Value}(h:jzt P w A cs)(hb:∀ b,P b->w'.heap[b]?=w.heap[b]?):jzt P w' A cs:=by
 rcases h with h | ⟨b,off,hA,hlt,h⟩
 ·exact .inl h
 ·exact .inr ⟨b,off,hA,hlt,fun i x hx=>(World.cell?_of_block (a:=⟨b,_,none⟩) (hb b hlt)).trans (h i x hx)⟩
theorem jzt.mono{P Q:Nat->Prop}{w:World}{A:Option Addr}{cs:List Value}(h:jzt P w A cs)(hm:∀ b,P b->Q b):jzt Q w A cs:=by
 rcases h with h | ⟨b,off,hA,hlt,h⟩
 ·exact .inl h
 ·exact .inr ⟨b,off,hA,hm b hlt,h⟩
def jx4(ss:List Str):List Value:=ss.map fun x => .string (S x)
def jzl(cs:List Ck):List Value:=cs.map Ck.v
def jzj(vs:List Vl):List Value:=vs.flatMap fun x=>[.int .u64 x.n,.int .u64 x.m,x.s1,x.c1,x.v1]
theorem jju(cs:List Ck):(jzl cs).length=cs.length:=by simp[jzl]
theorem jqg(vs:List Vl):(jzj vs).length=vs.length*5:=by
 induction vs with
 | nil=>rfl
 | cons x vs ih=>simp only[jzj,List.flatMap_cons,List.length_append,List.length_cons,List.length_nil] at ih ⊢;omega
theorem jxb(a b:List Vl):jzj (a++b)=jzj a++jzj b:=by simp[jzj]
theorem jn2{vs:List Vl}{i:Nat}{x:Vl}(h:vs[i]?=some x):(jzj vs)[i*5]?=some (.int .u64 x.n)/\(jzj vs)[i*5+1]?=some (.int .u64 x.m)/\(jzj vs)[i*5+2]?=some x.s1/\(jzj vs)[i*5+3]?=some x.c1/\(jzj vs)[i*5+4]?=some x.v1:=by
 induction vs generalizing i with
 | nil=>simp at h
 | cons y vs ih=>(
 cases i with
 | zero=>simp at h;subst h;simp[jzj]
 | succ i=>(
 have:=ih (i:=i) (by simpa using h);have e:(i+1)*5=i*5+1+1+1+1+1:=by omega
 rw[e];simpa[jzj] using this))
structure Ck.Inp (P:Nat->Prop) (w:World) (k:Ck):Prop where
  lies:jzt P w k.A (C3.jzx k.l)
  cap:k.l.length<=k.c
  top:k.c<=maxLen
  nok:Nok k.l
  few:k.l.length*16<=140737488351232
inductive Vl.Inp (P:Nat->Prop) (w:World):Vl->Prop
  | mk (n m:Int) (sA:Option Addr) (sc:Nat) (ss:List Str) (cA:Option Addr) (cc:Nat) (cs:List Ck) (vA:Option Addr) (vc:Nat) (vs:List Vl) :
    (0<=n/\n<=18446744073709551615)->(0<=m/\m<=18446744073709551615) ->
    jzt P w sA (jx4 ss)->(ss.length<=sc/\sc<=maxLen/\ss.length*16<=140737488351232)->(∀ s∈ss,s.length<=maxLen) ->
    jzt P w cA (jzl cs)->(cs.length<=cc/\cc<=maxLen/\cs.length*24<=140737488351232)->(∀ k∈cs,k.Inp P w) ->
    jzt P w vA (jzj vs)->(vs.length<=vc/\vc<=maxLen/\vs.length*88<=140737488351232)->(∀ x∈vs,Vl.Inp P w x) ->
    Vl.Inp P w (.mk n m sA sc ss cA cc cs vA vc vs)
theorem Ck.Inp.keep{P:Nat->Prop}{w w':World}{k:Ck}(h:k.Inp P w)(hb:∀ b,P b->w'.heap[b]?=w.heap[b]?):k.Inp P w':=⟨h.lies.keep hb,h.cap,h.top,h.nok,h.few⟩
theorem Ck.Inp.mono{P Q:Nat->Prop}{w:World}{k:Ck}(h:k.Inp P w)(hm:∀ b,P b->Q b):k.Inp Q w:=⟨h.lies.mono hm,h.cap,h.top,h.nok,h.few⟩
theorem Vl.Inp.keep{P:Nat->Prop}{w w':World}{x:Vl}(h:x.Inp P w)(hb:∀ b,P b->w'.heap[b]?=w.heap[b]?):x.Inp P w':=by
 induction h with
 | mk n m sA sc ss cA cc cs vA vc vs h1 h2 h3 h4 h5 h6 h7 h8 h9 h10 _ ih=>exact .mk _ _ _ _ _ _ _ _ _ _ _ h1 h2 (h3.keep hb) h4 h5 (h6.keep hb) h7 (fun k hk=>(h8 k hk).keep hb) (h9.keep hb) h10 ih
theorem Vl.Inp.mono{P Q:Nat->Prop}{w:World}{x:Vl}(h:x.Inp P w)(hm:∀ b,P b->Q b):x.Inp Q w:=by
 induction h with
 | mk n m sA sc ss cA cc cs vA vc vs h1 h2 h3 h4 h5 h6 h7 h8 h9 h10 _ ih=>exact .mk _ _ _ _ _ _ _ _ _ _ _ h1 h2 (h3.mono hm) h4 h5 (h6.mono hm) h7 (fun k hk=>(h8 k hk).mono hm) (h9.mono hm) h10 ih
def Vl.In(w:World)(x:Vl):Prop:=x.Inp (fun b=>b<w.heap.size) w
theorem Vl.In.later{w w':World}{x:Vl}(h:x.In w)(hb:Below w.heap.size w w'):x.In w':=(Vl.Inp.keep h fun b hlt=>hb.block b hlt).mono fun _ hlt=>ltl hlt hb.size
structure Parts (w:World) (n m:Int) (sA:Option Addr) (sc:Nat) (ss:List Str) (cA:Option Addr) (cc:Nat) (cs:List Ck) (vA:Option Addr) (vc:Nat) (vs:List Vl):Prop where
  hn:0<=n/\n<=18446744073709551615
  hm:0<=m/\m<=18446744073709551615
  sl:jqr w sA ss
  sb:ss.length<=sc/\sc<=maxLen/\ss.length*16<=140737488351232
  st:∀ s∈ss,s.length<=maxLen
  cl:jzt (fun b=>b<w.heap.size) w cA (jzl cs)
  cb:cs.length<=cc/\cc<=maxLen/\cs.length*24<=140737488351232
  ck:∀ k∈cs,In w k.A k.c k.l
  vl:jzt (fun b=>b<w.heap.size) w vA (jzj vs)
  vb:vs.length<=vc/\vc<=maxLen/\vs.length*88<=140737488351232
  vk:∀ x∈vs,x.In w
theorem jmy{w:World}{A:Option Addr}{ss:List Str}(h:jzt (fun b=>b<w.heap.size) w A (jx4 ss)):jqr w A ss:=by
 rcases h with h | ⟨b,off,hA,hlt,h⟩
 ·exact .inl (List.map_eq_nil_iff.1 h)
 ·exact .inr ⟨b,off,hA,hlt,fun i x hx=>h i _ (by unfold jx4;rw[List.getElem?_map,hx];rfl)⟩
theorem Ck.Inp.inn{w:World}{k:Ck}(h:k.Inp (fun b=>b<w.heap.size) w):In w k.A k.c k.l:=by
 refine⟨?_,h.cap,h.top,h.nok⟩;rcases h.lies with h | ⟨b,off,hA,hlt,h⟩
 ·(refine .inl ?_;have:=congrArg List.length h;rw[C3.jy5] at this;exact List.eq_nil_of_length_eq_zero (by simp at this;omega))
 ·(refine .inr ⟨b,off,hA,hlt,fun i x hx=>?_⟩;obtain⟨g0,g1⟩:=C3.jg9 hx;exact⟨h _ _ g0,by rw[Nat.add_assoc];exact h _ _ g1⟩)
theorem Vl.In.out{w:World}{n m:Int}{sA:Option Addr}{sc:Nat}{ss:List Str}{cA:Option Addr}{cc:Nat}{cs:List Ck}{vA:Option Addr}{vc:Nat}{vs:List Vl}(h:(Vl.mk n m sA sc ss cA cc cs vA vc vs).In w):Parts w n m sA sc ss cA cc cs vA vc vs:=by
 cases h with
 | mk _ _ _ _ _ _ _ _ _ _ _ h1 h2 h3 h4 h5 h6 h7 h8 h9 h10 h11=>exact⟨h1,h2,jmy h3,h4,h5,h6,h7,fun k hk=>(h8 k hk).inn,h9,h10,h11⟩
theorem jzt.get{P:Nat->Prop}{w:World}{A:Option Addr}{cs:List Value}(h:jzt P w A cs){k:Nat}(hk:k<cs.length):∃ b off,A=some ⟨b,off,none⟩/\P b/\∀ i u,cs[i]?=some u->w.cell? ⟨b,off+i,none⟩=some u:=by
 rcases h with h | h
 ·subst h;simp at hk
 ·exact h
theorem jqi{P:Nat->Prop}{w:World}{A:Option Addr}{cs:List Ck}(h:jzt P w A (jzl cs)){k:Nat}{x:Ck}(hx:cs[k]?=some x):∃ b off,A=some ⟨b,off,none⟩/\P b/\w.cell? ⟨b,off+k,none⟩=some x.v:=by
 obtain⟨b,off,hA,hb,hc⟩:=h.get (k:=k) (by rw[jju];exact (List.getElem?_eq_some_iff.1 hx).1);exact⟨b,off,hA,hb,hc k _ (by unfold jzl;rw[List.getElem?_map,hx];rfl)⟩
theorem jqo{P:Nat->Prop}{w:World}{A:Option Addr}{vs:List Vl}(h:jzt P w A (jzj vs)){k:Nat}{x:Vl}(hx:vs[k]?=some x):∃ b off,A=some ⟨b,off,none⟩/\P b/\w.cell? ⟨b,off+k*5,none⟩=some (.int .u64 x.n)/\w.cell? ⟨b,off+k*5+1,none⟩=some (.int .u64 x.m)/\w.cell? ⟨b,off+k*5+2,none⟩=some x.s1/\w.cell? ⟨b,off+k*5+3,none⟩=some x.c1/\w.cell? ⟨b,off+k*5+4,none⟩=some x.v1:=by
 have hk:=(List.getElem?_eq_some_iff.1 hx).1;obtain⟨b,off,hA,hb,hc⟩:=h.get (k:=k*5) (by rw[jqg];omega);obtain⟨h0,h1,h2,h3,h4⟩:=jn2 hx;refine⟨b,off,hA,hb,hc _ _ h0,?_,?_,?_,?_⟩
 ·rw[Nat.add_assoc];exact hc _ _ h1
 ·rw[Nat.add_assoc];exact hc _ _ h2
 ·rw[Nat.add_assoc];exact hc _ _ h3
 ·rw[Nat.add_assoc];exact hc _ _ h4
theorem jzt.below{w w':World}{A:Option Addr}{cs:List Value}(h:jzt (fun b=>b<w.heap.size) w A cs)(hb:Below w.heap.size w w'):jzt (fun b=>b<w.heap.size) w' A cs:=h.keep fun b hlt=>hb.block b hlt
def jrw(w:World)(t:Va)(e:Ending)(w':World):Prop:=∃ x:Vl,e = .returned x.val/\x.er=t/\x.Inp (fun b=>w.heap.size<=b/\b<w'.heap.size) w'/\Below w.heap.size w w'
def jz2:List Tk->List Tk->Bool
  | [],[]=>false
  | [],_ :: _=>true
  | _ :: _,[]=>false
  | x :: a,y :: b=>if x.k=y.k then (if x.n=y.n then jz2 a b else decide (x.n<y.n)) else decide (x.k<y.k)
theorem jvu{a b:List Tk}{i:Nat}{x y:Tk}(hx:a[i]?=some x)(hy:b[i]?=some y):jz2 (a.drop i) (b.drop i)=if x.k=y.k then (if x.n=y.n then jz2 (a.drop (i+1)) (b.drop (i+1)) else decide (x.n<y.n)) else decide (x.k<y.k):=by
 obtain⟨hi,he⟩:=List.getElem?_eq_some_iff.1 hx;obtain⟨hj,hf⟩:=List.getElem?_eq_some_iff.1 hy;rw[List.drop_eq_getElem_cons hi,List.drop_eq_getElem_cons hj,he,hf,jz2]
theorem jww{a b:List Tk}{i:Nat}(h:a.length<=i\/b.length<=i)(h1:i<=a.length)(h2:i<=b.length):jz2 (a.drop i) (b.drop i)=decide (a.length<b.length):=by
 by_cases ha:i=a.length
 ·(
 subst ha;rw[List.drop_length];by_cases hb:a.length=b.length
 ·rw[hb,List.drop_length];simp[jz2]
 ·(
 cases hd:b.drop a.length with
 | nil=>have:=congrArg List.length hd;simp at this;omega
 | cons y l=>rw[jz2];exact (decide_eq_true (by omega)).symm))
 ·(
 have hb:i=b.length:=by omega
 subst hb;rw[List.drop_length];cases hd:a.drop b.length with
 | nil=>have:=congrArg List.length hd;simp at this;omega
 | cons y l=>rw[jz2];exact (decide_eq_false (by omega)).symm)
theorem jbe(A A':Option Addr)(c c':Nat)(l l':List Tk)(w:World)(h:In w A c l)(h':In w A' c' l'):Calls Tryz.prog 99 #[.slice A l.length c,.slice A' l'.length c'] w (jz6 w (.bool (jz2 l l'))):=by
 obtain⟨hl,bD,bC,-⟩:=h;obtain⟨cR,ec,da,-⟩:=h';have eI:l.length<=9223372036854775807:=by unfold maxLen at bC;omega
 have rC:l'.length<=9223372036854775807:=by unfold maxLen at da;omega
 clear bD bC ec da;go_enter Tryz.func99,Tryz.ntmps99;go_wp2_with fail;go_loopw [5] (fun iv wr=>∃ k:Nat,k<=l.length/\k<=l'.length/\iv = .int .i64 k/\Hid (jz2 l l'=jz2 (l.drop k) (l'.drop k))/\Below w.heap.size w wr) (fun iv _=>l.length - (intOf iv).toNat)
 case atStart=>exact⟨0,Nat.zero_le _,Nat.zero_le _,rfl,by simp[Hid],Below.refl _ _⟩
 case round=>(
 obtain⟨k,hk,eN,rfl,h0,ar⟩:=hrel;by_cases hlt:k<l.length/\k<l'.length
 ·(
 obtain⟨hlt,cJ⟩:=hlt;obtain⟨b,off,rfl,hb,hc⟩:=(hl.below ar).get hlt;obtain⟨x,hx⟩:∃ x,l[k]?=some x:=⟨_,List.getElem?_eq_getElem hlt⟩
 obtain⟨cq,cB⟩:=hc k x hx;have HX:=Lh hx;obtain⟨b',off',rfl,ct,cP⟩:=(cR.below ar).get cJ;obtain⟨y,hy⟩:∃ y,l'[k]?=some y:=⟨_,List.getElem?_eq_getElem cJ⟩
 obtain⟨fI,fM⟩:=cP k y hy;have HY:=Lh hy;have HD:Hid (jz2 l l'=if x.k=y.k then (if x.n=y.n then jz2 (l.drop (k+1)) (l'.drop (k+1)) else decide (x.n<y.n)) else decide (x.k<y.k)):=by (
 show jz2 l l'=_
 rw[h0.out,jvu hx hy])
 clear hx hc hl hy cP cR;obtain⟨xk,xn⟩:=x;obtain⟨yk,yn⟩:=y;dsimp only at cq cB fI fM HD
 have lj:(k:Int)<(l.length:Int):=by omega
 have sd:(k:Int)<(l'.length:Int):=by omega
 by_cases he:xk=yk
 ·(
 have e1:(xk == yk)=true:=by simp[he]
 have HE:=Lh he;clear he;by_cases hn:xn=yn
 ·(
 have e2:(xn == yn)=true:=by simp[hn]
 have HN:=Lh hn;clear hn;go_wp2_with fail;go_quiet (fail)
 go_wp2_with fail;go_quiet (fail)
 go_wp2_with fail;go_roundw
 case rel=>exact⟨k+1,by omega,by omega,by go_num,by show jz2 l l'=_;rw[HD.out,if_pos HE.out,if_pos HN.out],jzq ar _⟩
 case measure=>simp[intOf];omega)
 ·(
 have e2:(xn == yn)=false:=by simp[hn]
 have HN:=Lh hn;clear hn;go_wp2_with fail;go_quiet (fail)
 go_wp2_with fail;go_quiet (fail)
 go_wp2_with fail;go_quiet (fail)
 go_wp2_with fail;go_ret;exact⟨jzi (by rw[HD.out,if_pos HE.out,if_neg HN.out]),jzq (jzq (jzq ar _) _) _⟩))
 ·(
 have e1:(xk == yk)=false:=by simp[he]
 have HE:=Lh he;clear he;go_wp2_with fail;go_quiet (fail)
 go_wp2_with fail;go_quiet (fail)
 go_wp2_with fail;go_ret;exact⟨jzi (by rw[HD.out,if_neg HE.out]),jzq (jzq ar _) _⟩))
 ·(
 by_cases h1:k<l.length
 ·(
 have h2:k=l'.length:=by omega
 have d2:decide ((k:Int)<(l'.length:Int))=false:=decide_eq_false (by omega);clear hlt;go_wp2_with fail;go_ret;refine⟨jzi ?_,ar⟩;rw[h0.out,jww (.inr (by omega)) (by omega) (by omega)])
 ·(have d1:decide ((k:Int)<(l.length:Int))=false:=decide_eq_false (by omega);clear hlt;go_wp2_with fail;go_ret;refine⟨jzi ?_,ar⟩;rw[h0.out,jww (.inl (by omega)) (by omega) (by omega)])))
end V4
namespace R1
open Go.RowKit
def atI(xs:List Str)(s:Str):Int:=if s∈xs then (xs.idxOf s:Nat) else -1
theorem jn9{xs:List Str}{s:Str}{k:Nat}(h0:s ∉ xs.take k)(h:xs[k]?=some s):(k:Int)=atI xs s:=by
 have hk:k<xs.length:=(List.getElem?_eq_some_iff.1 h).1;have he:xs[k]=s:=(List.getElem?_eq_some_iff.1 h).2;have hm:s∈xs:=he▸List.getElem_mem hk;unfold atI;rw[if_pos hm];have:xs.idxOf s=k:=by (
 conv=>lhs;rw[<- List.take_append_drop k xs]
 rw[List.idxOf_append,if_neg h0,List.drop_eq_getElem_cons hk,he];simp[List.length_take]
 omega)
 rw[this]
theorem atI_miss{xs:List Str}{s:Str}{k:Nat}(h0:s ∉ xs.take k)(hk:xs.length<=k) : -1=atI xs s:=by
 unfold atI;rw[List.take_of_length_le hk] at h0;rw[if_neg h0]
theorem jov{xs:List Str}{s x:Str}{k:Nat}(h0:s ∉ xs.take k)(h:xs[k]?=some x)(hne:x≠s):s ∉ xs.take (k+1):=by
 obtain⟨hk,he⟩:=List.getElem?_eq_some_iff.1 h;rw[List.take_succ_eq_append_getElem hk,List.mem_append,not_or];exact⟨h0,by simp[he];exact fun e=>hne e.symm⟩
theorem at_any(A:Option Addr)(c:Nat)(xs:List Str)(s:Str)(w:World)(hl:jqr w A xs)(hn:xs.length<=maxLen):Calls Tryz.prog 96 #[.slice A xs.length c,.string (S s)] w fun e w'=>e = .returned (.int .i64 (atI xs s))/\w=w':=by
 unfold maxLen at hn;go_enter Tryz.func96,Tryz.ntmps96;go_wp2
 go_loop [5] (fun i=>∃ k:Nat,k<=xs.length/\i = .int .i64 k/\Hid (s ∉ xs.take k)) (fun i=>xs.length - (intOf i).toNat)
 case atStart=>exact⟨0,Nat.zero_le _,rfl,by simp[Hid]⟩
 case round=>(
 obtain⟨k,hk,rfl,h0⟩:=hrel;by_cases hlt:k<xs.length
 ·(
 obtain⟨b,off,rfl,hb,hc⟩:=hl.get hlt;obtain⟨x,hx⟩:∃ x,xs[k]?=some x:=⟨_,List.getElem?_eq_getElem hlt⟩
 have cj:=hc k x hx;have HX:=Lh hx;clear hx hc hl;by_cases js:x=s
 ·(
 subst js;go_wp2
 go_ret;exact⟨jxd (jn9 h0.out HX.out),rfl⟩)
 ·(
 have ab:=jvr js;have HN:=Lh js;clear js;go_wp2
 go_round
 case rel=>exact⟨k+1,by omega,by go_num,jov h0.out HX.out HN.out⟩
 case measure=>simp[intOf];omega))
 ·(
 go_wp2
 go_ret;exact⟨jxd (atI_miss h0.out (by omega)),rfl⟩))
theorem jqf(a:Str):¬ a<a:=List.lt_irrefl a
theorem jjw{a b c:Str}(h:a<b)(k:b<c):a<c:=List.lt_trans h k
theorem jxg{a b:Str}(h:a<b):¬ b<a:=fun k=>jqf a (jjw h k)
theorem jwo{a b:Str}(h:a<b):a≠b:=by rintro rfl;exact jqf _ h
theorem jvg(a b:Str):a<b\/a=b\/b<a:=by
 by_cases h1:a<b
 ·exact .inl h1
 ·(
 by_cases h2:b<a
 ·exact .inr (.inr h2)
 ·exact .inr (.inl (List.le_antisymm (List.not_lt.1 h2) (List.not_lt.1 h1))))
theorem jkx{a b:Str}(h:a<b):Op.bytesLess a b=true:=by rw[bytesLess_eq];simpa using h
theorem jwb{a b:Str}(h:¬ a<b):Op.bytesLess a b=false:=by rw[bytesLess_eq];simpa using h
abbrev Srt(xs:List Str):Prop:=xs.Pairwise (·<·)
theorem jly{xs:List Str}{j:Nat}{x y:Str}(h:Srt (xs.take (j+1)))(hx:xs[j]?=some x)(hy:xs[j+1]?=some y)(hlt:x<y):Srt (xs.take (j+1+1)):=by
 obtain⟨hk,he⟩:=List.getElem?_eq_some_iff.1 hy;obtain⟨iM,he0⟩:=List.getElem?_eq_some_iff.1 hx;rw[List.take_succ_eq_append_getElem hk,he];refine List.pairwise_append.2 ⟨h,List.pairwise_singleton _ _,?_⟩;intro a ha b hb;rw[List.mem_singleton] at hb;subst hb;rw[List.take_succ_eq_append_getElem iM,he0] at h ha;rcases List.mem_append.1 ha with h1 | h1
 ·exact jjw ((List.pairwise_append.1 h).2.2 a h1 x (List.mem_singleton.2 rfl)) hlt
 ·(rw[List.mem_singleton] at h1;subst h1;exact hlt)
theorem srt_no{xs:List Str}{j:Nat}{x y:Str}(hx:xs[j]?=some x)(hy:xs[j+1]?=some y)(hlt:¬ x<y):¬ Srt xs:=by
 intro h;obtain⟨hk,he⟩:=List.getElem?_eq_some_iff.1 hy;obtain⟨iM,he0⟩:=List.getElem?_eq_some_iff.1 hx;have:=List.pairwise_iff_getElem.1 h j (j+1) iM hk (by omega);rw[he,he0] at this;exact hlt this
theorem jba(xs:List Str):Srt (xs.take 1):=by
 cases xs <;> simp[Srt]
theorem jhd{xs:List Str}{k:Nat}(h:Srt (xs.take k))(hk:xs.length<=k):Srt xs:=by rwa [List.take_of_length_le hk] at h
theorem juu{xs ys:List Str}{k:Nat}{x:Str}(h:xs.take k=ys.take k)(hx:xs[k]?=some x)(hy:ys[k]?=some x):xs.take (k+1)=ys.take (k+1):=by
 obtain⟨hk,he⟩:=List.getElem?_eq_some_iff.1 hx;obtain⟨eN,he'⟩:=List.getElem?_eq_some_iff.1 hy;rw[List.take_succ_eq_append_getElem hk,List.take_succ_eq_append_getElem eN,h,he,he']
theorem ne_of_at{xs ys:List Str}{k:Nat}{x y:Str}(hx:xs[k]?=some x)(hy:ys[k]?=some y)(hne:x≠y):xs≠ys:=by
 rintro rfl;rw[hx] at hy;exact hne (Option.some.inj hy)
theorem same_any(A B:Option Addr)(c d:Nat)(xs ys:List Str)(w:World)(hl:jqr w A xs)(hm:jqr w B ys)(hn:xs.length<=maxLen):Calls Tryz.prog 29 #[.slice A xs.length c,.slice B ys.length d] w fun e w'=>e = .returned (.bool (decide (xs=ys)))/\∃ n,w'=w.drewN n:=by
 unfold maxLen at hn;by_cases aq:xs.length=ys.length
 ·(
 have aa:((xs.length:Int) != (ys.length:Int))=false:=by simp[aq]
 have HL:=Lh aq;have hle:xs.length<=ys.length:=by omega
 clear aq;go_enter Tryz.func29,Tryz.ntmps29;go_wp2
 go_loopw [5] (fun i wr=>∃ k n:Nat,k<=xs.length/\i = .int .i64 k/\wr=w.drewN n/\Hid (xs.take k=ys.take k)) (fun i _=>xs.length - (intOf i).toNat)
 case atStart=>exact⟨0,0,Nat.zero_le _,rfl,rfl,by simp[Hid]⟩
 case round=>(
 obtain⟨k,n,hk,rfl,rfl,h0⟩:=hrel;by_cases hlt:k<xs.length
 ·(
 obtain⟨b,off,rfl,hb,hc⟩:=hl.get hlt;obtain⟨b',off',rfl,ct,cP⟩:=hm.get (show k<ys.length by omega);obtain⟨x,hx⟩:∃ x,xs[k]?=some x:=⟨_,List.getElem?_eq_getElem hlt⟩
 obtain⟨y,hy⟩:∃ x,ys[k]?=some x:=⟨_,List.getElem?_eq_getElem (by omega)⟩
 have fV:=hc k x hx;have jj:=cP k y hy;have cJ:k<ys.length:=by omega
 have HX:=Lh hx;have HY:=Lh hy;clear hx hy hc hl cP hm;by_cases dz:x=y
 ·(
 subst dz;go_wp2
 go_quiet (fail)
 go_wp2
 go_roundw
 case rel=>exact⟨k+1,_,by omega,by go_num,rfl,juu h0.out HX.out HY.out⟩
 case measure=>simp[intOf];omega)
 ·(
 have ab:=jvr dz;have HN:=Lh dz;clear dz;go_wp2
 go_quiet (fail)
 go_wp2
 go_ret;exact⟨jzi (decide_eq_false (ne_of_at HX.out HY.out HN.out)).symm,drew2 _ _ _⟩))
 ·(
 go_wp2
 go_ret;refine⟨jzi (decide_eq_true ?_).symm,_,rfl⟩;have:=h0.out;rwa [List.take_of_length_le (by omega),List.take_of_length_le (by have:=HL.out;omega)] at this)))
 ·(
 have aa:((xs.length:Int) != (ys.length:Int))=true:=by simp;omega
 have HL:=Lh aq;clear aq;go_enter Tryz.func29,Tryz.ntmps29;go_wp2
 go_ret;exact⟨jzi (decide_eq_false (fun e=>HL.out (by rw[e]))).symm,0,rfl⟩)
end R1
namespace V4
open Go.RowKit
open C3 (Tk Asc isC ofC jxt Nok In jzk jzf jqz RetT)
theorem jdk(A B:Option Addr)(c d:Nat)(xs ys:List Str)(v:Bool)(w:World)(hl:jqr w A xs)(hm:jqr w B ys)(hn:xs.length<=maxLen)(hv:decide (xs=ys)=v):Calls Tryz.prog 29 #[.slice A xs.length c,.slice B ys.length d] w (jz6 w (.bool v)):=by
 subst hv;exact (R1.same_any A B c d xs ys w hl hm hn).mono fun _ _ ⟨h1,n,h2⟩=>⟨h1,h2▸jzq (Below.refl _ _) n⟩
theorem ju2(A A':Option Addr)(c c':Nat)(l l':List Tk)(v:Bool)(w:World)(h:In w A c l)(h':In w A' c' l')(hv:decide (l=l')=v) :
    Calls Tryz.prog 30 #[.slice A l.length c,.slice A' l'.length c'] w (jz6 w (.bool v)):=hv▸C3.jgm A A' c c' l l' w h h'
theorem jw3{α β:Type}{f:α->β}{l l':List α}{i:Nat}{x y:α}(h0:(l.take i).map f=(l'.take i).map f)(hx:l[i]?=some x)(hy:l'[i]?=some y)(he:f x=f y):(l.take (i+1)).map f=(l'.take (i+1)).map f:=by
 obtain⟨hi,iI⟩:=List.getElem?_eq_some_iff.1 hx;obtain⟨hj,hy'⟩:=List.getElem?_eq_some_iff.1 hy;rw[List.take_succ_eq_append_getElem hi,List.take_succ_eq_append_getElem hj,List.map_append,List.map_append,h0,iI,hy',List.map_singleton,List.map_singleton,he]
theorem jks{α β:Type}{f:α->β}{l l':List α}{i:Nat}(h0:(l.take i).map f=(l'.take i).map f)(hi:l.length<=i)(hj:l'.length<=i):l.map f=l'.map f:=by
 rwa [List.take_of_length_le hi,List.take_of_length_le hj] at h0
theorem jgw{α β:Type}{f:α->β}{l l':List α}{i:Nat}{x y:α}(hx:l[i]?=some x)(hy:l'[i]?=some y)(he:f x≠f y):l.map f≠l'.map f:=by
 intro e;have:=congrArg (fun z=>z[i]?) e;simp only[List.getElem?_map,hx,hy,Option.map_some] at this;exact he (Option.some.inj this)
theorem jvj{p:Prop}[Decidable p]{r:Bool}(hr:decide p=r)(h:¬ p):false=r:=by rw[<- hr];exact (decide_eq_false h).symm
theorem r_true{p:Prop}[Decidable p]{r:Bool}(hr:decide p=r)(h:p):true=r:=by rw[<- hr];exact (decide_eq_true h).symm
theorem jbd:∀ (x y:Vl) (w:World),x.In w->y.In w->Calls Tryz.prog 11 #[x.val,y.val] w (jz6 w (.bool (decide (x.er=y.er)))):=by
 intro x;induction x using Vl.ind with
 | h n m sA sc ss cA cc cs vA vc vs ih=>(
 rintro ⟨n',m',sA',sc',ss',cA',cc',cs',vA',vc',vs'⟩ w bx sf;have sL:Below w.heap.size w ((w.alloc (.cells #[.int .u64 n,.int .u64 m,.slice sA ss.length sc,.slice cA cs.length cc,.slice vA vs.length vc] 30)).alloc (.cells #[.int .u64 n',.int .u64 m',.slice sA' ss'.length sc',.slice cA' cs'.length cc',.slice vA' vs'.length vc'] 30)):=jzk (jzf _ _);have P:=bx.out;have P':=sf.out;have Q:=(bx.later sL).out;have Q':=(sf.later sL).out;have d8:cs.length<=9223372036854775807:=by have:=P.cb;unfold maxLen at this;omega
 have iB:vs.length<=9223372036854775807:=by have:=P.vb;unfold maxLen at this;omega
 have HP:=Lh P;have HP':=Lh P';have HS:=Lh Q.sl;have HS':=Lh Q'.sl;have fE:Hid (ss.length<=maxLen):=leT P.sb.1 P.sb.2.1;have eS:=Lh sL;have IH:=Lh ih;clear bx sf P P' Q Q' ih sL;simp only[jzh];obtain⟨r,hr⟩:=exq (decide ((Vl.mk n m sA sc ss cA cc cs vA vc vs).er=(Vl.mk n' m' sA' sc' ss' cA' cc' cs' vA' vc' vs').er));rw[hr];simp only[jzw,Va.mk.injEq] at hr;have HR:=Lh hr;clear hr;by_cases c1:n=n'
 ·(
 subst c1;by_cases c2:m=m'
 ·(
 subst c2;obtain⟨t,ht⟩:=exq (decide (ss=ss'));have HT:=Lh ht;clear ht;go_enter Tryz.func11,Tryz.ntmps11;go_wp2_with fail;refine (jdk sA sA' sc sc' ss ss' t _ HS.out HS'.out fE.out HT.out).mono ?_;rintro e w1 ⟨rfl,af⟩;have a3:w1.cell? ⟨w.heap.size,3,none⟩=some (.slice cA cs.length cc):=(af.cell (p:=⟨w.heap.size,3,none⟩) (by simp;omega)).trans (by go_simp);have a4:w1.cell? ⟨w.heap.size,4,none⟩=some (.slice vA vs.length vc):=(af.cell (p:=⟨w.heap.size,4,none⟩) (by simp;omega)).trans (by go_simp);have b3:w1.cell? ⟨w.heap.size+1,3,none⟩=some (.slice cA' cs'.length cc'):=(af.cell (p:=⟨w.heap.size+1,3,none⟩) (by simp)).trans (by go_simp);have b4:w1.cell? ⟨w.heap.size+1,4,none⟩=some (.slice vA' vs'.length vc'):=(af.cell (p:=⟨w.heap.size+1,4,none⟩) (by simp)).trans (by go_simp);have ae:w.heap.size+1<w1.heap.size:=ltl (by simp) af.size;have aD:Below w.heap.size w w1:=eS.out.trans (af.mono eS.out.size);clear af eS HS HS';cases t with
 | false=>(go_wp2_with fail;go_ret;exact⟨jzi (jvj HR.out fun h=>of_decide_eq_false HT.out h.2.2.1),aD⟩)
 | true=>(
 by_cases c3:cs.length=cs'.length
 ·(
 have C3':=Lh c3;have hle:cs'.length=cs.length:=c3.symm;clear c3;rw[hle] at b3;clear hle;by_cases c4:vs.length=vs'.length
 ·(
 have C4':=Lh c4;have hle:vs'.length=vs.length:=c4.symm;clear c4;rw[hle] at b4;clear hle;go_wp2_with fail;go_loopw [5] (fun iv wr=>∃ (k:Nat),k<=cs.length/\iv = .int .i64 k/\Hid ((cs.take k).map Ck.l=(cs'.take k).map Ck.l)/\Below w.heap.size w wr/\wr.cell? ⟨w.heap.size,3,none⟩=some (.slice cA cs.length cc)/\wr.cell? ⟨w.heap.size,4,none⟩=some (.slice vA vs.length vc)/\wr.cell? ⟨w.heap.size+1,3,none⟩=some (.slice cA' cs.length cc')/\wr.cell? ⟨w.heap.size+1,4,none⟩=some (.slice vA' vs.length vc')/\w.heap.size+1<wr.heap.size) (fun iv _=>cs.length - (intOf iv).toNat)
 case atStart=>exact⟨0,Nat.zero_le _,rfl,by simp[Hid],aD,a3,a4,b3,b4,ae⟩
 case round=>(
 clear a3 a4 b3 b4 ae aD;obtain⟨k,hk,rfl,h0,ar,a3,a4,b3,b4,ae⟩:=hrel;by_cases hlt:k<cs.length
 ·(
 have cJ:k<cs'.length:=by have:=C3'.out;omega
 obtain⟨x,hx⟩:∃ x,cs[k]?=some x:=⟨_,List.getElem?_eq_getElem hlt⟩
 obtain⟨y,hy⟩:∃ y,cs'[k]?=some y:=⟨_,List.getElem?_eq_getElem cJ⟩
 obtain⟨b,off,rfl,hb,hc⟩:=jqi (HP.out.cl.below ar) hx;obtain⟨b',off',rfl,ct,cP⟩:=jqi (HP'.out.cl.below ar) hy;have pA:=Lh ((HP.out.ck x (List.mem_of_getElem? hx)).later ar);have HIY:=Lh ((HP'.out.ck y (List.mem_of_getElem? hy)).later ar);have HX:=Lh hx;have HY:=Lh hy;clear hx hy;obtain⟨xA,xc,xl⟩:=x;obtain⟨yA,yc,yl⟩:=y;simp only[Ck.v] at hc cP;dsimp only at pA HIY
 obtain⟨q,hq⟩:=exq (decide (xl=yl));have HQ:=Lh hq;clear hq;have hlti:(k:Int)<(cs.length:Int):=by omega
 have eM:=Lh ar;clear ar;go_wp2_with fail;go_still_tail 10,(by kernel_rfl)
 change wpList _ _ _ _ _ wr.drew;go_wp2_with fail;refine (ju2 xA yA xc yc xl yl q _ (pA.out.later (jqz wr)) (HIY.out.later (jqz wr)) HQ.out).mono ?_;rintro e w2 ⟨rfl,ab⟩;have bj:Below wr.heap.size wr w2:=(jqz wr).trans ab;replace a3:=(bj.cell (p:=⟨w.heap.size,3,none⟩) (by show w.heap.size<_;omega)).trans a3;replace a4:=(bj.cell (p:=⟨w.heap.size,4,none⟩) (by show w.heap.size<_;omega)).trans a4;replace b3:=(bj.cell (p:=⟨w.heap.size+1,3,none⟩) ae).trans b3;replace b4:=(bj.cell (p:=⟨w.heap.size+1,4,none⟩) ae).trans b4;replace ae:=ltl ae bj.size;have eC:Below w.heap.size w w2:=eM.out.trans (bj.mono eM.out.size);clear ab bj hc cP;cases q with
 | false=>(go_wp2_with fail;go_ret;exact⟨jzi (jvj HR.out fun h=>jgw (f:=Ck.l) HX.out HY.out (of_decide_eq_false HQ.out) h.2.2.2.1),eC⟩)
 | true=>(
 go_wp2_with fail;go_roundw
 case rel=>exact⟨k+1,by omega,by go_num,jw3 h0.out HX.out HY.out (of_decide_eq_true HQ.out),eC,a3,a4,b3,b4,ae⟩
 case measure=>simp[intOf];omega))
 ·(
 have og:Hid (cs.map Ck.l=cs'.map Ck.l):=jks h0.out (by omega) (by have:=C3'.out;omega);clear h0;go_wp2_with fail;go_loopw [6] (fun iv wr=>∃ (k:Nat),k<=vs.length/\iv = .int .i64 k/\Hid ((vs.take k).map Vl.er=(vs'.take k).map Vl.er)/\Below w.heap.size w wr/\wr.cell? ⟨w.heap.size,4,none⟩=some (.slice vA vs.length vc)/\wr.cell? ⟨w.heap.size+1,4,none⟩=some (.slice vA' vs.length vc')/\w.heap.size+1<wr.heap.size) (fun iv _=>vs.length - (intOf iv).toNat)
 case atStart=>exact⟨0,Nat.zero_le _,rfl,by simp[Hid],ar,a4,b4,ae⟩
 case round=>(
 clear a3 a4 b3 b4 ae ar;rename_i wr
 obtain⟨k,hk,rfl,h0,ar,a4,b4,ae⟩:=hrel;by_cases hlt:k<vs.length
 ·(
 have cJ:k<vs'.length:=by have:=C4'.out;omega
 obtain⟨x,hx⟩:∃ x,vs[k]?=some x:=⟨_,List.getElem?_eq_getElem hlt⟩
 obtain⟨y,hy⟩:∃ y,vs'[k]?=some y:=⟨_,List.getElem?_eq_getElem cJ⟩
 obtain⟨b,off,rfl,hb,cq,cB,gq,wz,hc4⟩:=jqo (HP.out.vl.below ar) hx;obtain⟨b',off',rfl,ct,fI,fM,hd2,hd3,hd4⟩:=jqo (HP'.out.vl.below ar) hy;have pA:Hid (x.In _):=(HP.out.vk x (List.mem_of_getElem? hx)).later ar;have HIY:Hid (y.In _):=(HP'.out.vk y (List.mem_of_getElem? hy)).later ar;have HX:=Lh hx;have HY:=Lh hy;have HM:=Lh (List.mem_of_getElem? hx);clear hx hy;obtain⟨xn,xm,xK,xL,xN,xO,xP,xQ,xR,xS,xU⟩:=x;obtain⟨yn,ym,yK,yL,yN,yO,yP,yQ,yR,yS,yT⟩:=y;simp only[Vl.n,Vl.m,Vl.s1,Vl.c1,Vl.v1] at cq cB gq wz hc4 fI fM hd2 hd3 hd4;obtain⟨q,hq⟩:=exq (decide ((Vl.mk xn xm xK xL xN xO xP xQ xR xS xU).er=(Vl.mk yn ym yK yL yN yO yP yQ yR yS yT).er));have HQ:=Lh hq;clear hq;have hlti:(k:Int)<(vs.length:Int):=by omega
 have eM:=Lh ar;clear ar;go_wp2_with fail;go_still_tail 10,(by kernel_rfl)
 change wpList _ _ _ _ _ wr.drew;go_wp2_with fail;refine (IH.out _ HM.out _ _ (pA.out.later (jqz wr)) (HIY.out.later (jqz wr))).mono ?_;rintro e w2 ⟨rfl,ab⟩;rw[HQ.out];have bj:Below wr.heap.size wr w2:=(jqz wr).trans ab;replace a4:=(bj.cell (p:=⟨w.heap.size,4,none⟩) (by show w.heap.size<_;omega)).trans a4;replace b4:=(bj.cell (p:=⟨w.heap.size+1,4,none⟩) ae).trans b4;replace ae:=ltl ae bj.size;have eC:Below w.heap.size w w2:=eM.out.trans (bj.mono eM.out.size);clear ab bj cq cB gq wz hc4 fI fM hd2 hd3 hd4;cases q with
 | false=>(go_wp2_with fail;go_ret;exact⟨jzi (jvj HR.out fun h=>jgw (f:=Vl.er) HX.out HY.out (of_decide_eq_false HQ.out) h.2.2.2.2),eC⟩)
 | true=>(
 go_wp2_with fail;go_roundw
 case rel=>exact⟨k+1,by omega,by go_num,jw3 (f:=Vl.er) h0.out HX.out HY.out (of_decide_eq_true HQ.out),eC,a4,b4,ae⟩
 case measure=>simp[intOf];omega))
 ·(go_wp2_with fail;go_ret;exact⟨jzi (r_true HR.out ⟨by simp,by simp,of_decide_eq_true HT.out,og.out,jks h0.out (by omega) (by have:=C4'.out;omega)⟩),ar⟩)))))
 ·(
 have d4:¬ ((vs.length:Int)=vs'.length):=by omega
 have D4:=Lh c4;clear c4;go_wp2_with fail;go_ret;exact⟨jzi (jvj HR.out fun h=>D4.out (by simpa using congrArg List.length h.2.2.2.2)),aD⟩))
 ·(
 have d3:¬ ((cs.length:Int)=cs'.length):=by omega
 have D3:=Lh c3;clear c3;go_wp2_with fail;go_ret;exact⟨jzi (jvj HR.out fun h=>D3.out (by simpa using congrArg List.length h.2.2.2.1)),aD⟩)))
 ·(
 have d2:(m == m')=false:=by simp[c2]
 have D2:=Lh c2;clear c2;go_enter Tryz.func11,Tryz.ntmps11;go_wp2_with fail;go_ret;exact⟨jzi (jvj HR.out fun h=>D2.out h.2.1),eS.out⟩))
 ·(
 have d1:(n == n')=false:=by simp[c1]
 have D1:=Lh c1;clear c1;go_enter Tryz.func11,Tryz.ntmps11;go_wp2_with fail;go_ret;exact⟨jzi (jvj HR.out fun h=>D1.out h.1),eS.out⟩))
def jx3(ss:List Str):Bool:=ss.all fun s=>decide (s.length<=16)
theorem jyf{α:Type}{p:α->Bool}{l:List α}{k:Nat}{x:α}(h0:(l.take k).all p=true)(hx:l[k]?=some x)(h:p x=true):(l.take (k+1)).all p=true:=by
 obtain⟨hi,he⟩:=List.getElem?_eq_some_iff.1 hx;rw[List.take_succ_eq_append_getElem hi,List.all_append,h0,he];simp[h]
theorem jug{α:Type}{p:α->Bool}{l:List α}{k:Nat}(h0:(l.take k).all p=true)(h:l.length<=k):l.all p=true:=by rwa [List.take_of_length_le h] at h0
theorem jk5{α:Type}{p:α->Bool}{l:List α}{k:Nat}{x:α}(hx:l[k]?=some x)(h:p x=false):l.all p=false:=by
 rw[List.all_eq_false];exact⟨x,List.mem_of_getElem? hx,by simp[h]⟩
theorem S_size(x:Str):(S x).size=x.length:=by simp[S,ByteArray.size]
theorem ju9(A:Option Addr)(c:Nat)(ss:List Str)(w:World)(hl:jqr w A ss)(hn:ss.length<=maxLen)(ht:∀ s∈ss,s.length<=maxLen):Calls Tryz.prog 138 #[.slice A ss.length c] w fun e w'=>e = .returned (.bool (jx3 ss))/\w=w':=by
 unfold maxLen at hn;have HT:=Lh ht;clear ht;go_enter Tryz.func138,Tryz.ntmps138;go_wp2_with fail;go_loop [3] (fun iv=>∃ k:Nat,k<=ss.length/\iv = .int .i64 k/\Hid ((ss.take k).all (fun s=>decide (s.length<=16))=true)) (fun iv=>ss.length - (intOf iv).toNat)
 case atStart=>exact⟨0,Nat.zero_le _,rfl,by simp[Hid]⟩
 case round=>(
 obtain⟨k,hk,rfl,h0⟩:=hrel;by_cases hlt:k<ss.length
 ·(
 obtain⟨b,off,rfl,hb,hc⟩:=hl.get hlt;obtain⟨x,hx⟩:∃ x,ss[k]?=some x:=⟨_,List.getElem?_eq_getElem hlt⟩
 have cq:=hc k x hx;have HX:=Lh hx;have hxm:x.length<=9223372036854775807:=by have:=HT.out x (List.mem_of_getElem? hx);unfold maxLen at this;omega
 have js:(S x).size=x.length:=S_size x;clear hx hc hl;by_cases c1:x.length<=16
 ·(
 have HP:Hid ((fun s:Str=>decide (s.length<=16)) x=true):=decide_eq_true c1;have d1:decide (16<(x.length:Int))=false:=decide_eq_false (by omega);go_wp2_with fail;go_round
 case rel=>exact⟨k+1,by omega,by go_num,jyf h0.out HX.out HP.out⟩
 case measure=>simp[intOf];omega)
 ·(
 have HP:Hid ((fun s:Str=>decide (s.length<=16)) x=false):=decide_eq_false c1;have d1:16<x.length:=by omega
 go_wp2_with fail;go_ret;exact⟨jzi (jk5 HX.out HP.out).symm,rfl⟩))
 ·(go_wp2_with fail;go_ret;exact⟨jzi (jug h0.out (by omega)).symm,rfl⟩))
def jqa(n m:Int)(a b d:Nat)(p q r s t:Bool):Bool:=(p || decide (n=0)) && ((q || decide (m=0)) && ((r || decide (a=0)) && ((s || decide (b=0)) && (t || decide (d=0)))))
theorem jor(n m:Int)(sA:Option Addr)(sc a:Nat)(cA:Option Addr)(cc b:Nat)(vA:Option Addr)(vc d:Nat)(p q r s t:Bool)(w:World):Calls Tryz.prog 137 #[.agg #[.int .u64 n,.int .u64 m,.slice sA a sc,.slice cA b cc,.slice vA d vc],.bool p,.bool q,.bool r,.bool s,.bool t] w (jz6 w (.bool (jqa n m a b d p q r s t))):=by
 have hp:p=true\/(p=false/\n=0)\/(p=false/\¬ n=0):=by cases p <;> simp <;> exact Decidable.em _
 have hq:q=true\/(q=false/\m=0)\/(q=false/\¬ m=0):=by cases q <;> simp <;> exact Decidable.em _
 have hr:r=true\/(r=false/\a=0)\/(r=false/\¬ a=0):=by cases r <;> simp <;> exact Decidable.em _
 have hs:s=true\/(s=false/\b=0)\/(s=false/\¬ b=0):=by cases s <;> simp <;> exact Decidable.em _
 have ht:t=true\/(t=false/\d=0)\/(t=false/\¬ d=0):=by cases t <;> simp <;> exact Decidable.em _
 obtain⟨R,hR⟩:=exq (jqa n m a b d p q r s t);rw[hR];have HR:=Lh hR;clear hR;rcases hp with rfl | ⟨rfl,rfl⟩ | ⟨rfl,h1⟩
 rotate_left 2
 ·(
 have e1:(n == 0)=false:=by simp[h1]
 have HF:Hid (R=false):=by show R=false;rw[<- HR.out];simp[jqa,h1]
 clear hq hr hs ht h1;go_enter Tryz.func137,Tryz.ntmps137;go_wp2_with fail;go_ret;exact⟨jzi HF.out.symm,jzf _ _⟩)
 all_goals
   rcases hq with rfl | ⟨rfl,rfl⟩ | ⟨rfl,h1⟩
   rotate_left 2
   · have e1:(m == 0)=false:=by simp[h1]
     have HF:Hid (R=false):=by show R=false;rw[<- HR.out];simp[jqa,h1]
     clear hr hs ht h1
     go_enter Tryz.func137,Tryz.ntmps137
     go_wp2_with fail
     go_ret
     exact⟨jzi HF.out.symm,jzf _ _⟩
   all_goals
     rcases hr with rfl | ⟨rfl,rfl⟩ | ⟨rfl,h1⟩
     rotate_left 2
     · have e1:((a:Int) == 0)=false:=by simp[h1]
       have HF:Hid (R=false):=by show R=false;rw[<- HR.out];simp[jqa,h1]
       clear hs ht
       go_enter Tryz.func137,Tryz.ntmps137
       go_wp2_with fail
       go_ret
       exact⟨jzi HF.out.symm,jzf _ _⟩
     all_goals
       rcases hs with rfl | ⟨rfl,rfl⟩ | ⟨rfl,h1⟩
       rotate_left 2
       · have e1:((b:Int) == 0)=false:=by simp[h1]
         have HF:Hid (R=false):=by show R=false;rw[<- HR.out];simp[jqa,h1]
         clear ht
         go_enter Tryz.func137,Tryz.ntmps137
         go_wp2_with fail
         go_ret
         exact⟨jzi HF.out.symm,jzf _ _⟩
       all_goals
         rcases ht with rfl | ⟨rfl,rfl⟩ | ⟨rfl,h1⟩
         rotate_left 2
         · have e1:((d:Int) == 0)=false:=by simp[h1]
           have HF:Hid (R=false):=by show R=false;rw[<- HR.out];simp[jqa,h1]
           go_enter Tryz.func137,Tryz.ntmps137
           go_wp2_with fail
           go_ret
           exact⟨jzi HF.out.symm,jzf _ _⟩
         all_goals
           have HF:Hid (R=true):=by show R=true;rw[<- HR.out];simp[jqa]
           go_enter Tryz.func137,Tryz.ntmps137
           go_wp2_with fail
           go_ret
           exact⟨jzi HF.out.symm,jzf _ _⟩
end V4
end Go.Proofs.YtobggoephhjofaaGreatDoor
