/- A part. No condition. -/
import Derived.Test.YtobggoephhjofaaGreatDoorMj01
import Derived.StillTailTactics
import Derived.Deep.RegionHeld3
set_option maxRecDepth 100000
set_option maxHeartbeats 16000000
namespace Go.Proofs.YtobggoephhjofaaGreatDoor
namespace V4
open Go.RowKit
open C3 (Tk Asc isC ofC jxo Nok In jzj jzf jqo jrj)
inductive Va where
  | mk (n m:Int) (s:List Str) (c:List (List Tk)) (v:List Va)
def Va.n:Va->Int | .mk n _ _ _ _=>n
def Va.m:Va->Int | .mk _ m _ _ _=>m
def Va.s:Va->List Str | .mk _ _ s _ _=>s
def Va.c:Va->List (List Tk) | .mk _ _ _ c _=>c
def Va.v:Va->List Va | .mk _ _ _ _ v=>v
def Va.zero:Va := .mk 0 0 [] [] []
mutual
def Va.same:Va->Va->Bool
  | .mk n m s c v,.mk n' m' s' c' v'=>decide (n=n') && (decide (m=m') && (decide (s=s') && (decide (c=c') && Va.sameL v v')))
def Va.sameL:List Va->List Va->Bool
  | [],[]=>true
  | x :: l,y :: l'=>x.same y && Va.sameL l l'
  | [],_ :: _=>false
  | _ :: _,[]=>false
end
theorem Va.same_iff:∀ a b:Va,a.same b=true↔a=b:=by
 intro a;refine Va.rec (motive_1:=fun a=>∀ b,a.same b=true↔a=b) (motive_2:=fun l=>∀ l',Va.sameL l l'=true↔l=l') ?_ ?_ ?_ a
 ·(
 rintro n m s c v ih ⟨n',m',s',c',v'⟩;simp[Va.same,ih v'])
 ·intro l';cases l' <;> simp[Va.sameL]
 ·(
 intro x l hx hl l';cases l' with
 | nil=>simp[Va.sameL]
 | cons y l'=>simp[Va.sameL,hx y,hl l'])
instance:DecidableEq Va:=fun a b=>decidable_of_iff (a.same b=true) (Va.same_iff a b)
structure Ck where
  A:Option Addr
  c:Nat
  l:List Tk
def Ck.v(k:Ck):Value := .slice k.A k.l.length k.c
inductive Vl where
  | mk (n m:Int) (sA:Option Addr) (sc:Nat) (ss:List Str) (cA:Option Addr) (cc:Nat) (cs:List Ck) (vA:Option Addr) (vc:Nat) (vs:List Vl)
def Vl.n:Vl->Int | .mk n _ _ _ _ _ _ _ _ _ _=>n
def Vl.m:Vl->Int | .mk _ m _ _ _ _ _ _ _ _ _=>m
def Vl.s1:Vl->Value | .mk _ _ sA sc ss _ _ _ _ _ _ => .slice sA ss.length sc
def Vl.c1:Vl->Value | .mk _ _ _ _ _ cA cc cs _ _ _ => .slice cA cs.length cc
def Vl.v1:Vl->Value | .mk _ _ _ _ _ _ _ _ vA vc vs => .slice vA vs.length vc
def Vl.val(x:Vl):Value := .agg #[.int .u64 x.n,.int .u64 x.m,x.s1,x.c1,x.v1]
theorem jzh(n m:Int)(sA:Option Addr)(sc:Nat)(ss:List Str)(cA:Option Addr)(cc:Nat)(cs:List Ck)(vA:Option Addr)(vc:Nat)(vs:List Vl) :
    (Vl.mk n m sA sc ss cA cc cs vA vc vs).val = .agg #[.int .u64 n,.int .u64 m,.slice sA ss.length sc,.slice cA cs.length cc,.slice vA vs.length vc]:=rfl
theorem Vl.ind{P:Vl->Prop}(h:∀ n m sA sc ss cA cc cs vA vc vs,(∀ x∈vs,P x)->P (.mk n m sA sc ss cA cc cs vA vc vs)):∀ t,P t:=fun t =>
  Vl.rec (motive_1:=P) (motive_2:=fun l=>∀ x∈l,P x) (fun n m sA sc ss cA cc cs vA vc vs ih=>h n m sA sc ss cA cc cs vA vc vs ih) (by simp) (fun x l hx hl y hy=>by
    rcases List.mem_cons.1 hy with rfl | h'
    · exact hx
    · exact hl y h') t
mutual
def Vl.er:Vl->Va
  | .mk n m _ _ ss _ _ cs _ _ vs => .mk n m ss (cs.map Ck.l) (Vl.erL vs)
def Vl.erL:List Vl->List Va
  | []=>[]
  | x :: l=>x.er :: Vl.erL l
end
theorem jg5:∀ l,Vl.erL l=l.map Vl.er
  | []=>rfl
  | x :: l=>by rw[Vl.erL,jg5 l,List.map_cons]
theorem jzt(n m:Int)(sA:Option Addr)(sc:Nat)(ss:List Str)(cA:Option Addr)(cc:Nat)(cs:List Ck)(vA:Option Addr)(vc:Nat)(vs:List Vl) :
    (Vl.mk n m sA sc ss cA cc cs vA vc vs).er = .mk n m ss (cs.map Ck.l) (vs.map Vl.er):=by rw[Vl.er,jg5]
def jzr(P:Nat->Prop)(w:World)(A:Option Addr)(cs:List Value):Prop :=
  cs=[]\/∃ b off,A=some ⟨b,off,none⟩/\P b/\∀ i u,cs[i]?=some u->w.cell? ⟨b,off+i,none⟩=some u
theorem jzr.nil{P:Nat->Prop}{w:World}{A:Option Addr}:jzr P w A [] := .inl rfl
theorem jzr.keep{P:Nat->Prop}{w w':World}{A:Option Addr}{cs:List Value}(h:jzr P w A cs)(hb:∀ b,P b->w'.heap[b]?=w.heap[b]?):jzr P w' A cs:=by
 rcases h with h | ⟨b,off,hA,hlt,h⟩
 ·exact .inl h
 ·exact .inr ⟨b,off,hA,hlt,fun i x hx=>(World.cell?_of_block (a:=⟨b,_,none⟩) (hb b hlt)).trans (h i x hx)⟩
theorem jzr.mono{P Q:Nat->Prop}{w:World}{A:Option Addr}{cs:List Value}(h:jzr P w A cs)(hm:∀ b,P b->Q b):jzr Q w A cs:=by
 rcases h with h | ⟨b,off,hA,hlt,h⟩
 ·exact .inl h
 ·exact .inr ⟨b,off,hA,hm b hlt,h⟩
def jxu(ss:List Str):List Value:=ss.map fun x => .string (S x)
def jzm(cs:List Ck):List Value:=cs.map Ck.v
def jzk(vs:List Vl):List Value:=vs.flatMap fun x=>[.int .u64 x.n,.int .u64 x.m,x.s1,x.c1,x.v1]
theorem jjj(cs:List Ck):(jzm cs).length=cs.length:=by simp[jzm]
theorem jqf(vs:List Vl):(jzk vs).length=vs.length*5:=by
 induction vs with
 | nil=>rfl
 | cons x vs ih=>simp only[jzk,List.flatMap_cons,List.length_append,List.length_cons,List.length_nil] at ih ⊢;omega
theorem jq8(a b:List Vl):jzk (a++b)=jzk a++jzk b:=by simp[jzk]
theorem jnn{vs:List Vl}{i:Nat}{x:Vl}(h:vs[i]?=some x):(jzk vs)[i*5]?=some (.int .u64 x.n)/\(jzk vs)[i*5+1]?=some (.int .u64 x.m)/\(jzk vs)[i*5+2]?=some x.s1/\(jzk vs)[i*5+3]?=some x.c1/\(jzk vs)[i*5+4]?=some x.v1:=by
 induction vs generalizing i with
 | nil=>simp at h
 | cons y vs ih=>(
 cases i with
 | zero=>simp at h;subst h;simp[jzk]
 | succ i=>(
 have:=ih (i:=i) (by simpa using h);have e:(i+1)*5=i*5+1+1+1+1+1:=by omega
 rw[e];simpa[jzk] using this))
structure Ck.Inp (P:Nat->Prop) (w:World) (k:Ck):Prop where
  lies:jzr P w k.A (C3.jzv k.l)
  cap:k.l.length<=k.c
  top:k.c<=maxLen
  nok:Nok k.l
  few:k.l.length*16<=140737488351232
inductive Vl.Inp (P:Nat->Prop) (w:World):Vl->Prop
  | mk (n m:Int) (sA:Option Addr) (sc:Nat) (ss:List Str) (cA:Option Addr) (cc:Nat) (cs:List Ck) (vA:Option Addr) (vc:Nat) (vs:List Vl) :
    (0<=n/\n<=18446744073709551615)->(0<=m/\m<=18446744073709551615) ->
    jzr P w sA (jxu ss)->(ss.length<=sc/\sc<=maxLen/\ss.length*16<=140737488351232)->(∀ s∈ss,s.length<=maxLen) ->
    jzr P w cA (jzm cs)->(cs.length<=cc/\cc<=maxLen/\cs.length*24<=140737488351232)->(∀ k∈cs,k.Inp P w) ->
    jzr P w vA (jzk vs)->(vs.length<=vc/\vc<=maxLen/\vs.length*88<=140737488351232)->(∀ x∈vs,Vl.Inp P w x) ->
    Vl.Inp P w (.mk n m sA sc ss cA cc cs vA vc vs)
theorem Ck.Inp.keep{P:Nat->Prop}{w w':World}{k:Ck}(h:k.Inp P w)(hb:∀ b,P b->w'.heap[b]?=w.heap[b]?):k.Inp P w':=⟨h.lies.keep hb,h.cap,h.top,h.nok,h.few⟩
theorem Ck.Inp.mono{P Q:Nat->Prop}{w:World}{k:Ck}(h:k.Inp P w)(hm:∀ b,P b->Q b):k.Inp Q w:=⟨h.lies.mono hm,h.cap,h.top,h.nok,h.few⟩
theorem Vl.Inp.keep{P:Nat->Prop}{w w':World}{x:Vl}(h:x.Inp P w)(hb:∀ b,P b->w'.heap[b]?=w.heap[b]?):x.Inp P w':=by
 induction h with
 | mk n m sA sc ss cA cc cs vA vc vs h1 h2 h3 h4 h5 h6 h7 h8 h9 h10 _ ih=>exact .mk _ _ _ _ _ _ _ _ _ _ _ h1 h2 (h3.keep hb) h4 h5 (h6.keep hb) h7 (fun k hk=>(h8 k hk).keep hb) (h9.keep hb) h10 ih
theorem Vl.Inp.mono{P Q:Nat->Prop}{w:World}{x:Vl}(h:x.Inp P w)(hm:∀ b,P b->Q b):x.Inp Q w:=by
 induction h with
 | mk n m sA sc ss cA cc cs vA vc vs h1 h2 h3 h4 h5 h6 h7 h8 h9 h10 _ ih=>exact .mk _ _ _ _ _ _ _ _ _ _ _ h1 h2 (h3.mono hm) h4 h5 (h6.mono hm) h7 (fun k hk=>(h8 k hk).mono hm) (h9.mono hm) h10 ih
def Vl.In(w:World)(x:Vl):Prop:=x.Inp (fun b=>b<w.heap.size) w
theorem Vl.In.later{w w':World}{x:Vl}(h:x.In w)(hb:Below w.heap.size w w'):x.In w':=(Vl.Inp.keep h fun b hlt=>hb.block b hlt).mono fun _ hlt=>ltl hlt hb.size
structure Parts (w:World) (n m:Int) (sA:Option Addr) (sc:Nat) (ss:List Str) (cA:Option Addr) (cc:Nat) (cs:List Ck) (vA:Option Addr) (vc:Nat) (vs:List Vl):Prop where
  hn:0<=n/\n<=18446744073709551615
  hm:0<=m/\m<=18446744073709551615
  sl:jqs w sA ss
  sb:ss.length<=sc/\sc<=maxLen/\ss.length*16<=140737488351232
  st:∀ s∈ss,s.length<=maxLen
  cl:jzr (fun b=>b<w.heap.size) w cA (jzm cs)
  cb:cs.length<=cc/\cc<=maxLen/\cs.length*24<=140737488351232
  ck:∀ k∈cs,In w k.A k.c k.l
  vl:jzr (fun b=>b<w.heap.size) w vA (jzk vs)
  vb:vs.length<=vc/\vc<=maxLen/\vs.length*88<=140737488351232
  vk:∀ x∈vs,x.In w
theorem jmu{w:World}{A:Option Addr}{ss:List Str}(h:jzr (fun b=>b<w.heap.size) w A (jxu ss)):jqs w A ss:=by
 rcases h with h | ⟨b,off,hA,hlt,h⟩
 ·exact .inl (List.map_eq_nil_iff.1 h)
 ·exact .inr ⟨b,off,hA,hlt,fun i x hx=>h i _ (by unfold jxu;rw[List.getElem?_map,hx];rfl)⟩
theorem Ck.Inp.inn{w:World}{k:Ck}(h:k.Inp (fun b=>b<w.heap.size) w):In w k.A k.c k.l:=by
 refine⟨?_,h.cap,h.top,h.nok⟩;rcases h.lies with h | ⟨b,off,hA,hlt,h⟩
 ·(
 refine .inl ?_;have:=congrArg List.length h;rw[C3.jyx] at this;exact List.eq_nil_of_length_eq_zero (by simp at this;omega))
 ·(
 refine .inr ⟨b,off,hA,hlt,fun i x hx=>?_⟩;obtain⟨g0,g1⟩:=C3.jg9 hx;exact⟨h _ _ g0,by rw[Nat.add_assoc];exact h _ _ g1⟩)
theorem Vl.In.out{w:World}{n m:Int}{sA:Option Addr}{sc:Nat}{ss:List Str}{cA:Option Addr}{cc:Nat}{cs:List Ck}{vA:Option Addr}{vc:Nat}{vs:List Vl}(h:(Vl.mk n m sA sc ss cA cc cs vA vc vs).In w):Parts w n m sA sc ss cA cc cs vA vc vs:=by
 cases h with
 | mk _ _ _ _ _ _ _ _ _ _ _ h1 h2 h3 h4 h5 h6 h7 h8 h9 h10 h11=>exact⟨h1,h2,jmu h3,h4,h5,h6,h7,fun k hk=>(h8 k hk).inn,h9,h10,h11⟩
theorem jzr.get{P:Nat->Prop}{w:World}{A:Option Addr}{cs:List Value}(h:jzr P w A cs){k:Nat}(hk:k<cs.length):∃ b off,A=some ⟨b,off,none⟩/\P b/\∀ i u,cs[i]?=some u->w.cell? ⟨b,off+i,none⟩=some u:=by
 rcases h with h | h
 ·subst h;simp at hk
 ·exact h
theorem jqn{P:Nat->Prop}{w:World}{A:Option Addr}{cs:List Ck}(h:jzr P w A (jzm cs)){k:Nat}{x:Ck}(hx:cs[k]?=some x):∃ b off,A=some ⟨b,off,none⟩/\P b/\w.cell? ⟨b,off+k,none⟩=some x.v:=by
 obtain⟨b,off,hA,hb,hc⟩:=h.get (k:=k) (by rw[jjj];exact (List.getElem?_eq_some_iff.1 hx).1);exact⟨b,off,hA,hb,hc k _ (by unfold jzm;rw[List.getElem?_map,hx];rfl)⟩
theorem jqm{P:Nat->Prop}{w:World}{A:Option Addr}{vs:List Vl}(h:jzr P w A (jzk vs)){k:Nat}{x:Vl}(hx:vs[k]?=some x):∃ b off,A=some ⟨b,off,none⟩/\P b/\w.cell? ⟨b,off+k*5,none⟩=some (.int .u64 x.n)/\w.cell? ⟨b,off+k*5+1,none⟩=some (.int .u64 x.m)/\w.cell? ⟨b,off+k*5+2,none⟩=some x.s1/\w.cell? ⟨b,off+k*5+3,none⟩=some x.c1/\w.cell? ⟨b,off+k*5+4,none⟩=some x.v1:=by
 have hk:=(List.getElem?_eq_some_iff.1 hx).1;obtain⟨b,off,hA,hb,hc⟩:=h.get (k:=k*5) (by rw[jqf];omega);obtain⟨h0,h1,h2,h3,h4⟩:=jnn hx;refine⟨b,off,hA,hb,hc _ _ h0,?_,?_,?_,?_⟩
 ·rw[Nat.add_assoc];exact hc _ _ h1
 ·rw[Nat.add_assoc];exact hc _ _ h2
 ·rw[Nat.add_assoc];exact hc _ _ h3
 ·rw[Nat.add_assoc];exact hc _ _ h4
theorem jzr.below{w w':World}{A:Option Addr}{cs:List Value}(h:jzr (fun b=>b<w.heap.size) w A cs)(hb:Below w.heap.size w w'):jzr (fun b=>b<w.heap.size) w' A cs:=h.keep fun b hlt=>hb.block b hlt
def jc3(w:World)(t:Va)(e:Ending)(w':World):Prop:=∃ x:Vl,e = .returned x.val/\x.er=t/\x.Inp (fun b=>w.heap.size<=b/\b<w'.heap.size) w'/\Below w.heap.size w w'
def jzz:List Tk->List Tk->Bool
  | [],[]=>false
  | [],_ :: _=>true
  | _ :: _,[]=>false
  | x :: a,y :: b=>if x.k=y.k then (if x.n=y.n then jzz a b else decide (x.n<y.n)) else decide (x.k<y.k)
theorem jvl{a b:List Tk}{i:Nat}{x y:Tk}(hx:a[i]?=some x)(hy:b[i]?=some y):jzz (a.drop i) (b.drop i)=if x.k=y.k then (if x.n=y.n then jzz (a.drop (i+1)) (b.drop (i+1)) else decide (x.n<y.n)) else decide (x.k<y.k):=by
 obtain⟨hi,he⟩:=List.getElem?_eq_some_iff.1 hx;obtain⟨hj,hf⟩:=List.getElem?_eq_some_iff.1 hy;rw[List.drop_eq_getElem_cons hi,List.drop_eq_getElem_cons hj,he,hf,jzz]
theorem jwo{a b:List Tk}{i:Nat}(h:a.length<=i\/b.length<=i)(h1:i<=a.length)(h2:i<=b.length):jzz (a.drop i) (b.drop i)=decide (a.length<b.length):=by
 by_cases ha:i=a.length
 ·(
 subst ha;rw[List.drop_length];by_cases hb:a.length=b.length
 ·rw[hb,List.drop_length];simp[jzz]
 ·(
 cases hd:b.drop a.length with
 | nil=>have:=congrArg List.length hd;simp at this;omega
 | cons y l=>rw[jzz];exact (decide_eq_true (by omega)).symm))
 ·(
 have hb:i=b.length:=by omega
 subst hb;rw[List.drop_length];cases hd:a.drop b.length with
 | nil=>have:=congrArg List.length hd;simp at this;omega
 | cons y l=>rw[jzz];exact (decide_eq_false (by omega)).symm)
theorem jy8(A A':Option Addr)(c c':Nat)(l l':List Tk)(w:World)(h:In w A c l)(h':In w A' c' l'):Calls Tryz.prog 99 #[.slice A l.length c,.slice A' l'.length c'] w (jqd w (.bool (jzz l l'))):=by
 obtain⟨hl,hcap,htop,-⟩:=h;obtain⟨hl',hcap',htop',-⟩:=h';have hlm:l.length<=9223372036854775807:=by unfold maxLen at htop;omega
 have hlm':l'.length<=9223372036854775807:=by unfold maxLen at htop';omega
 clear hcap htop hcap' htop';go_enter Tryz.func99,Tryz.ntmps99;go_wp2_with fail;go_loopw [5] (fun iv wr=>∃ k:Nat,k<=l.length/\k<=l'.length/\iv = .int .i64 k/\Hid (jzz l l'=jzz (l.drop k) (l'.drop k))/\Below w.heap.size w wr) (fun iv _=>l.length - (intOf iv).toNat)
 case atStart=>exact⟨0,Nat.zero_le _,Nat.zero_le _,rfl,by simp[Hid],Below.refl _ _⟩
 case round=>(
 obtain⟨k,hk,hk',rfl,h0,hbw⟩:=hrel;by_cases hlt:k<l.length/\k<l'.length
 ·(
 obtain⟨hlt,hlt'⟩:=hlt;obtain⟨b,off,rfl,hb,hc⟩:=(hl.below hbw).get hlt;obtain⟨x,hx⟩:∃ x,l[k]?=some x:=⟨_,List.getElem?_eq_getElem hlt⟩
 obtain⟨hc0,hc1⟩:=hc k x hx;have HX:=Lh hx;obtain⟨b',off',rfl,hb',hc'⟩:=(hl'.below hbw).get hlt';obtain⟨y,hy⟩:∃ y,l'[k]?=some y:=⟨_,List.getElem?_eq_getElem hlt'⟩
 obtain⟨hd0,hd1⟩:=hc' k y hy;have HY:=Lh hy;have HD:Hid (jzz l l'=if x.k=y.k then (if x.n=y.n then jzz (l.drop (k+1)) (l'.drop (k+1)) else decide (x.n<y.n)) else decide (x.k<y.k)):=by (
 show jzz l l'=_
 rw[h0.out,jvl hx hy])
 clear hx hc hl hy hc' hl';obtain⟨xk,xn⟩:=x;obtain⟨yk,yn⟩:=y;dsimp only at hc0 hc1 hd0 hd1 HD
 have hki:(k:Int)<(l.length:Int):=by omega
 have hki':(k:Int)<(l'.length:Int):=by omega
 by_cases he:xk=yk
 ·(
 have e1:(xk == yk)=true:=by simp[he]
 have HE:=Lh he;clear he;by_cases hn:xn=yn
 ·(
 have e2:(xn == yn)=true:=by simp[hn]
 have HN:=Lh hn;clear hn;go_wp2_with fail;go_quiet (fail)
 go_wp2_with fail;go_quiet (fail)
 go_wp2_with fail;go_roundw
 case rel=>exact⟨k+1,by omega,by omega,by go_num,by show jzz l l'=_;rw[HD.out,if_pos HE.out,if_pos HN.out],jzu hbw _⟩
 case measure=>simp[intOf];omega)
 ·(
 have e2:(xn == yn)=false:=by simp[hn]
 have HN:=Lh hn;clear hn;go_wp2_with fail;go_quiet (fail)
 go_wp2_with fail;go_quiet (fail)
 go_wp2_with fail;go_quiet (fail)
 go_wp2_with fail;go_ret;exact⟨jzi (by rw[HD.out,if_pos HE.out,if_neg HN.out]),jzu (jzu (jzu hbw _) _) _⟩))
 ·(
 have e1:(xk == yk)=false:=by simp[he]
 have HE:=Lh he;clear he;go_wp2_with fail;go_quiet (fail)
 go_wp2_with fail;go_quiet (fail)
 go_wp2_with fail;go_ret;exact⟨jzi (by rw[HD.out,if_neg HE.out]),jzu (jzu hbw _) _⟩))
 ·(
 by_cases h1:k<l.length
 ·(
 have h2:k=l'.length:=by omega
 have d2:decide ((k:Int)<(l'.length:Int))=false:=decide_eq_false (by omega);clear hlt;go_wp2_with fail;go_ret;refine⟨jzi ?_,hbw⟩;rw[h0.out,jwo (.inr (by omega)) (by omega) (by omega)])
 ·(
 have d1:decide ((k:Int)<(l.length:Int))=false:=decide_eq_false (by omega);clear hlt;go_wp2_with fail;go_ret;refine⟨jzi ?_,hbw⟩;rw[h0.out,jwo (.inl (by omega)) (by omega) (by omega)])))
end V4
namespace R1
open Go.RowKit
def atI(xs:List Str)(s:Str):Int:=if s∈xs then (xs.idxOf s:Nat) else -1
theorem jnu{xs:List Str}{s:Str}{k:Nat}(h0:s ∉ xs.take k)(h:xs[k]?=some s):(k:Int)=atI xs s:=by
 have hk:k<xs.length:=(List.getElem?_eq_some_iff.1 h).1;have he:xs[k]=s:=(List.getElem?_eq_some_iff.1 h).2;have hm:s∈xs:=he▸List.getElem_mem hk;unfold atI;rw[if_pos hm];have:xs.idxOf s=k:=by (
 conv=>lhs;rw[<- List.take_append_drop k xs]
 rw[List.idxOf_append,if_neg h0,List.drop_eq_getElem_cons hk,he];simp[List.length_take]
 omega)
 rw[this]
theorem atI_miss{xs:List Str}{s:Str}{k:Nat}(h0:s ∉ xs.take k)(hk:xs.length<=k) : -1=atI xs s:=by
 unfold atI;rw[List.take_of_length_le hk] at h0;rw[if_neg h0]
theorem jop{xs:List Str}{s x:Str}{k:Nat}(h0:s ∉ xs.take k)(h:xs[k]?=some x)(hne:x≠s):s ∉ xs.take (k+1):=by
 obtain⟨hk,he⟩:=List.getElem?_eq_some_iff.1 h;rw[List.take_succ_eq_append_getElem hk,List.mem_append,not_or];exact⟨h0,by simp[he];exact fun e=>hne e.symm⟩
theorem at_any(A:Option Addr)(c:Nat)(xs:List Str)(s:Str)(w:World)(hl:jqs w A xs)(hn:xs.length<=maxLen):Calls Tryz.prog 96 #[.slice A xs.length c,.string (S s)] w fun e w'=>e = .returned (.int .i64 (atI xs s))/\w=w':=by
 unfold maxLen at hn;go_enter Tryz.func96,Tryz.ntmps96;go_wp2
 go_loop [5] (fun i=>∃ k:Nat,k<=xs.length/\i = .int .i64 k/\Hid (s ∉ xs.take k)) (fun i=>xs.length - (intOf i).toNat)
 case atStart=>exact⟨0,Nat.zero_le _,rfl,by simp[Hid]⟩
 case round=>(
 obtain⟨k,hk,rfl,h0⟩:=hrel;by_cases hlt:k<xs.length
 ·(
 obtain⟨b,off,rfl,hb,hc⟩:=hl.get hlt;obtain⟨x,hx⟩:∃ x,xs[k]?=some x:=⟨_,List.getElem?_eq_getElem hlt⟩
 have hcell:=hc k x hx;have HX:=Lh hx;clear hx hc hl;by_cases hxs:x=s
 ·(
 subst hxs;go_wp2
 go_ret;exact⟨jq9 (jnu h0.out HX.out),rfl⟩)
 ·(
 have hb2:=jyy hxs;have HN:=Lh hxs;clear hxs;go_wp2
 go_round
 case rel=>exact⟨k+1,by omega,by go_num,jop h0.out HX.out HN.out⟩
 case measure=>simp[intOf];omega))
 ·(
 go_wp2
 go_ret;exact⟨jq9 (atI_miss h0.out (by omega)),rfl⟩))
theorem jqe(a:Str):¬ a<a:=List.lt_irrefl a
theorem jjm{a b c:Str}(h:a<b)(k:b<c):a<c:=List.lt_trans h k
theorem jxa{a b:Str}(h:a<b):¬ b<a:=fun k=>jqe a (jjm h k)
theorem jwh{a b:Str}(h:a<b):a≠b:=by rintro rfl;exact jqe _ h
theorem jk5(a b:Str):a<b\/a=b\/b<a:=by
 by_cases h1:a<b
 ·exact .inl h1
 ·(
 by_cases h2:b<a
 ·exact .inr (.inr h2)
 ·exact .inr (.inl (List.le_antisymm (List.not_lt.1 h2) (List.not_lt.1 h1))))
theorem jkp{a b:Str}(h:a<b):Op.bytesLess a b=true:=by rw[bytesLess_eq];simpa using h
theorem jj3{a b:Str}(h:¬ a<b):Op.bytesLess a b=false:=by rw[bytesLess_eq];simpa using h
abbrev Srt(xs:List Str):Prop:=xs.Pairwise (·<·)
theorem jln{xs:List Str}{j:Nat}{x y:Str}(h:Srt (xs.take (j+1)))(hx:xs[j]?=some x)(hy:xs[j+1]?=some y)(hlt:x<y):Srt (xs.take (j+1+1)):=by
 obtain⟨hk,he⟩:=List.getElem?_eq_some_iff.1 hy;obtain⟨hk0,he0⟩:=List.getElem?_eq_some_iff.1 hx;rw[List.take_succ_eq_append_getElem hk,he];refine List.pairwise_append.2 ⟨h,List.pairwise_singleton _ _,?_⟩;intro a ha b hb;rw[List.mem_singleton] at hb;subst hb;rw[List.take_succ_eq_append_getElem hk0,he0] at h ha;rcases List.mem_append.1 ha with h1 | h1
 ·exact jjm ((List.pairwise_append.1 h).2.2 a h1 x (List.mem_singleton.2 rfl)) hlt
 ·(
 rw[List.mem_singleton] at h1;subst h1;exact hlt)
theorem srt_no{xs:List Str}{j:Nat}{x y:Str}(hx:xs[j]?=some x)(hy:xs[j+1]?=some y)(hlt:¬ x<y):¬ Srt xs:=by
 intro h;obtain⟨hk,he⟩:=List.getElem?_eq_some_iff.1 hy;obtain⟨hk0,he0⟩:=List.getElem?_eq_some_iff.1 hx;have:=List.pairwise_iff_getElem.1 h j (j+1) hk0 hk (by omega);rw[he,he0] at this;exact hlt this
theorem jy4(xs:List Str):Srt (xs.take 1):=by
 cases xs <;> simp[Srt]
theorem jr1{xs:List Str}{k:Nat}(h:Srt (xs.take k))(hk:xs.length<=k):Srt xs:=by rwa [List.take_of_length_le hk] at h
theorem jun{xs ys:List Str}{k:Nat}{x:Str}(h:xs.take k=ys.take k)(hx:xs[k]?=some x)(hy:ys[k]?=some x):xs.take (k+1)=ys.take (k+1):=by
 obtain⟨hk,he⟩:=List.getElem?_eq_some_iff.1 hx;obtain⟨hk',he'⟩:=List.getElem?_eq_some_iff.1 hy;rw[List.take_succ_eq_append_getElem hk,List.take_succ_eq_append_getElem hk',h,he,he']
theorem ne_of_at{xs ys:List Str}{k:Nat}{x y:Str}(hx:xs[k]?=some x)(hy:ys[k]?=some y)(hne:x≠y):xs≠ys:=by
 rintro rfl;rw[hx] at hy;exact hne (Option.some.inj hy)
theorem same_any(A B:Option Addr)(c d:Nat)(xs ys:List Str)(w:World)(hl:jqs w A xs)(hm:jqs w B ys)(hn:xs.length<=maxLen):Calls Tryz.prog 29 #[.slice A xs.length c,.slice B ys.length d] w fun e w'=>e = .returned (.bool (decide (xs=ys)))/\∃ n,w'=w.drewN n:=by
 unfold maxLen at hn;by_cases hlen:xs.length=ys.length
 ·(
 have hbn:((xs.length:Int) != (ys.length:Int))=false:=by simp[hlen]
 have HL:=Lh hlen;have hle:xs.length<=ys.length:=by omega
 clear hlen;go_enter Tryz.func29,Tryz.ntmps29;go_wp2
 go_loopw [5] (fun i wr=>∃ k n:Nat,k<=xs.length/\i = .int .i64 k/\wr=w.drewN n/\Hid (xs.take k=ys.take k)) (fun i _=>xs.length - (intOf i).toNat)
 case atStart=>exact⟨0,0,Nat.zero_le _,rfl,rfl,by simp[Hid]⟩
 case round=>(
 obtain⟨k,n,hk,rfl,rfl,h0⟩:=hrel;by_cases hlt:k<xs.length
 ·(
 obtain⟨b,off,rfl,hb,hc⟩:=hl.get hlt;obtain⟨b',off',rfl,hb',hc'⟩:=hm.get (show k<ys.length by omega);obtain⟨x,hx⟩:∃ x,xs[k]?=some x:=⟨_,List.getElem?_eq_getElem hlt⟩
 obtain⟨y,hy⟩:∃ x,ys[k]?=some x:=⟨_,List.getElem?_eq_getElem (by omega)⟩
 have hcx:=hc k x hx;have hcy:=hc' k y hy;have hlt':k<ys.length:=by omega
 have HX:=Lh hx;have HY:=Lh hy;clear hx hy hc hl hc' hm;by_cases hxy:x=y
 ·(
 subst hxy;go_wp2
 go_quiet (fail)
 go_wp2
 go_roundw
 case rel=>exact⟨k+1,_,by omega,by go_num,rfl,jun h0.out HX.out HY.out⟩
 case measure=>simp[intOf];omega)
 ·(
 have hb2:=jyy hxy;have HN:=Lh hxy;clear hxy;go_wp2
 go_quiet (fail)
 go_wp2
 go_ret;exact⟨jzi (decide_eq_false (ne_of_at HX.out HY.out HN.out)).symm,drew2 _ _ _⟩))
 ·(
 go_wp2
 go_ret;refine⟨jzi (decide_eq_true ?_).symm,_,rfl⟩;have:=h0.out;rwa [List.take_of_length_le (by omega),List.take_of_length_le (by have:=HL.out;omega)] at this)))
 ·(
 have hbn:((xs.length:Int) != (ys.length:Int))=true:=by simp;omega
 have HL:=Lh hlen;clear hlen;go_enter Tryz.func29,Tryz.ntmps29;go_wp2
 go_ret;exact⟨jzi (decide_eq_false (fun e=>HL.out (by rw[e]))).symm,0,rfl⟩)
end R1
namespace V4
open Go.RowKit
open C3 (Tk Asc isC ofC jxo Nok In jzj jzf jqo jrj)
theorem jdb(A B:Option Addr)(c d:Nat)(xs ys:List Str)(v:Bool)(w:World)(hl:jqs w A xs)(hm:jqs w B ys)(hn:xs.length<=maxLen)(hv:decide (xs=ys)=v):Calls Tryz.prog 29 #[.slice A xs.length c,.slice B ys.length d] w (jqd w (.bool v)):=by
 subst hv;exact (R1.same_any A B c d xs ys w hl hm hn).mono fun _ _ ⟨h1,n,h2⟩=>⟨h1,h2▸jzu (Below.refl _ _) n⟩
theorem juu(A A':Option Addr)(c c':Nat)(l l':List Tk)(v:Bool)(w:World)(h:In w A c l)(h':In w A' c' l')(hv:decide (l=l')=v) :
    Calls Tryz.prog 30 #[.slice A l.length c,.slice A' l'.length c'] w (jqd w (.bool v)):=hv▸C3.jgj A A' c c' l l' w h h'
theorem jvx{α β:Type}{f:α->β}{l l':List α}{i:Nat}{x y:α}(h0:(l.take i).map f=(l'.take i).map f)(hx:l[i]?=some x)(hy:l'[i]?=some y)(he:f x=f y):(l.take (i+1)).map f=(l'.take (i+1)).map f:=by
 obtain⟨hi,hx'⟩:=List.getElem?_eq_some_iff.1 hx;obtain⟨hj,hy'⟩:=List.getElem?_eq_some_iff.1 hy;rw[List.take_succ_eq_append_getElem hi,List.take_succ_eq_append_getElem hj,List.map_append,List.map_append,h0,hx',hy',List.map_singleton,List.map_singleton,he]
theorem jbd{α β:Type}{f:α->β}{l l':List α}{i:Nat}(h0:(l.take i).map f=(l'.take i).map f)(hi:l.length<=i)(hj:l'.length<=i):l.map f=l'.map f:=by
 rwa [List.take_of_length_le hi,List.take_of_length_le hj] at h0
theorem jce{α β:Type}{f:α->β}{l l':List α}{i:Nat}{x y:α}(hx:l[i]?=some x)(hy:l'[i]?=some y)(he:f x≠f y):l.map f≠l'.map f:=by
 intro e;have:=congrArg (fun z=>z[i]?) e;simp only[List.getElem?_map,hx,hy,Option.map_some] at this;exact he (Option.some.inj this)
theorem jva{p:Prop}[Decidable p]{r:Bool}(hr:decide p=r)(h:¬ p):false=r:=by rw[<- hr];exact (decide_eq_false h).symm
theorem r_true{p:Prop}[Decidable p]{r:Bool}(hr:decide p=r)(h:p):true=r:=by rw[<- hr];exact (decide_eq_true h).symm
theorem jke:∀ (x y:Vl) (w:World),x.In w->y.In w->Calls Tryz.prog 11 #[x.val,y.val] w (jqd w (.bool (decide (x.er=y.er)))):=by
 intro x;induction x using Vl.ind with
 | h n m sA sc ss cA cc cs vA vc vs ih=>(
 rintro ⟨n',m',sA',sc',ss',cA',cc',cs',vA',vc',vs'⟩ w hin hin';have hW0:Below w.heap.size w ((w.alloc (.cells #[.int .u64 n,.int .u64 m,.slice sA ss.length sc,.slice cA cs.length cc,.slice vA vs.length vc] 30)).alloc (.cells #[.int .u64 n',.int .u64 m',.slice sA' ss'.length sc',.slice cA' cs'.length cc',.slice vA' vs'.length vc'] 30)):=jzj (jzf _ _);have P:=hin.out;have P':=hin'.out;have Q:=(hin.later hW0).out;have Q':=(hin'.later hW0).out;have hcm:cs.length<=9223372036854775807:=by have:=P.cb;unfold maxLen at this;omega
 have hvm:vs.length<=9223372036854775807:=by have:=P.vb;unfold maxLen at this;omega
 have HP:=Lh P;have HP':=Lh P';have HS:=Lh Q.sl;have HS':=Lh Q'.sl;have HSB:Hid (ss.length<=maxLen):=leT P.sb.1 P.sb.2.1;have HW0:=Lh hW0;have IH:=Lh ih;clear hin hin' P P' Q Q' ih hW0;simp only[jzh];obtain⟨r,hr⟩:=exq (decide ((Vl.mk n m sA sc ss cA cc cs vA vc vs).er=(Vl.mk n' m' sA' sc' ss' cA' cc' cs' vA' vc' vs').er));rw[hr];simp only[jzt,Va.mk.injEq] at hr;have HR:=Lh hr;clear hr;by_cases c1:n=n'
 ·(
 subst c1;by_cases c2:m=m'
 ·(
 subst c2;obtain⟨t,ht⟩:=exq (decide (ss=ss'));have HT:=Lh ht;clear ht;go_enter Tryz.func11,Tryz.ntmps11;go_wp2_with fail;refine (jdb sA sA' sc sc' ss ss' t _ HS.out HS'.out HSB.out HT.out).mono ?_;rintro e w1 ⟨rfl,hb1⟩;have a3:w1.cell? ⟨w.heap.size,3,none⟩=some (.slice cA cs.length cc):=(hb1.cell (p:=⟨w.heap.size,3,none⟩) (by simp;omega)).trans (by go_simp);have a4:w1.cell? ⟨w.heap.size,4,none⟩=some (.slice vA vs.length vc):=(hb1.cell (p:=⟨w.heap.size,4,none⟩) (by simp;omega)).trans (by go_simp);have b3:w1.cell? ⟨w.heap.size+1,3,none⟩=some (.slice cA' cs'.length cc'):=(hb1.cell (p:=⟨w.heap.size+1,3,none⟩) (by simp)).trans (by go_simp);have b4:w1.cell? ⟨w.heap.size+1,4,none⟩=some (.slice vA' vs'.length vc'):=(hb1.cell (p:=⟨w.heap.size+1,4,none⟩) (by simp)).trans (by go_simp);have hsz:w.heap.size+1<w1.heap.size:=ltl (by simp) hb1.size;have hbw1:Below w.heap.size w w1:=HW0.out.trans (hb1.mono HW0.out.size);clear hb1 HW0 HS HS';cases t with
 | false=>(
 go_wp2_with fail;go_ret;exact⟨jzi (jva HR.out fun h=>of_decide_eq_false HT.out h.2.2.1),hbw1⟩)
 | true=>(
 by_cases c3:cs.length=cs'.length
 ·(
 have C3':=Lh c3;have hle:cs'.length=cs.length:=c3.symm;clear c3;rw[hle] at b3;clear hle;by_cases c4:vs.length=vs'.length
 ·(
 have C4':=Lh c4;have hle:vs'.length=vs.length:=c4.symm;clear c4;rw[hle] at b4;clear hle;go_wp2_with fail;go_loopw [5] (fun iv wr=>∃ (k:Nat),k<=cs.length/\iv = .int .i64 k/\Hid ((cs.take k).map Ck.l=(cs'.take k).map Ck.l)/\Below w.heap.size w wr/\wr.cell? ⟨w.heap.size,3,none⟩=some (.slice cA cs.length cc)/\wr.cell? ⟨w.heap.size,4,none⟩=some (.slice vA vs.length vc)/\wr.cell? ⟨w.heap.size+1,3,none⟩=some (.slice cA' cs.length cc')/\wr.cell? ⟨w.heap.size+1,4,none⟩=some (.slice vA' vs.length vc')/\w.heap.size+1<wr.heap.size) (fun iv _=>cs.length - (intOf iv).toNat)
 case atStart=>exact⟨0,Nat.zero_le _,rfl,by simp[Hid],hbw1,a3,a4,b3,b4,hsz⟩
 case round=>(
 clear a3 a4 b3 b4 hsz hbw1;obtain⟨k,hk,rfl,h0,hbw,a3,a4,b3,b4,hsz⟩:=hrel;by_cases hlt:k<cs.length
 ·(
 have hlt':k<cs'.length:=by have:=C3'.out;omega
 obtain⟨x,hx⟩:∃ x,cs[k]?=some x:=⟨_,List.getElem?_eq_getElem hlt⟩
 obtain⟨y,hy⟩:∃ y,cs'[k]?=some y:=⟨_,List.getElem?_eq_getElem hlt'⟩
 obtain⟨b,off,rfl,hb,hc⟩:=jqn (HP.out.cl.below hbw) hx;obtain⟨b',off',rfl,hb',hc'⟩:=jqn (HP'.out.cl.below hbw) hy;have HIX:=Lh ((HP.out.ck x (List.mem_of_getElem? hx)).later hbw);have HIY:=Lh ((HP'.out.ck y (List.mem_of_getElem? hy)).later hbw);have HX:=Lh hx;have HY:=Lh hy;clear hx hy;obtain⟨xA,xc,xl⟩:=x;obtain⟨yA,yc,yl⟩:=y;simp only[Ck.v] at hc hc';dsimp only at HIX HIY
 obtain⟨q,hq⟩:=exq (decide (xl=yl));have HQ:=Lh hq;clear hq;have hlti:(k:Int)<(cs.length:Int):=by omega
 have HBW:=Lh hbw;clear hbw;go_wp2_with fail;go_still_tail 10,(by kernel_rfl)
 change wpList _ _ _ _ _ wr.drew;go_wp2_with fail;refine (juu xA yA xc yc xl yl q _ (HIX.out.later (jqo wr)) (HIY.out.later (jqo wr)) HQ.out).mono ?_;rintro e w2 ⟨rfl,hb2⟩;have hb3:Below wr.heap.size wr w2:=(jqo wr).trans hb2;replace a3:=(hb3.cell (p:=⟨w.heap.size,3,none⟩) (by show w.heap.size<_;omega)).trans a3;replace a4:=(hb3.cell (p:=⟨w.heap.size,4,none⟩) (by show w.heap.size<_;omega)).trans a4;replace b3:=(hb3.cell (p:=⟨w.heap.size+1,3,none⟩) hsz).trans b3;replace b4:=(hb3.cell (p:=⟨w.heap.size+1,4,none⟩) hsz).trans b4;replace hsz:=ltl hsz hb3.size;have hbw2:Below w.heap.size w w2:=HBW.out.trans (hb3.mono HBW.out.size);clear hb2 hb3 hc hc';cases q with
 | false=>(
 go_wp2_with fail;go_ret;exact⟨jzi (jva HR.out fun h=>jce (f:=Ck.l) HX.out HY.out (of_decide_eq_false HQ.out) h.2.2.2.1),hbw2⟩)
 | true=>(
 go_wp2_with fail;go_roundw
 case rel=>exact⟨k+1,by omega,by go_num,jvx h0.out HX.out HY.out (of_decide_eq_true HQ.out),hbw2,a3,a4,b3,b4,hsz⟩
 case measure=>simp[intOf];omega))
 ·(
 have HCE:Hid (cs.map Ck.l=cs'.map Ck.l):=jbd h0.out (by omega) (by have:=C3'.out;omega);clear h0;go_wp2_with fail;go_loopw [6] (fun iv wr=>∃ (k:Nat),k<=vs.length/\iv = .int .i64 k/\Hid ((vs.take k).map Vl.er=(vs'.take k).map Vl.er)/\Below w.heap.size w wr/\wr.cell? ⟨w.heap.size,4,none⟩=some (.slice vA vs.length vc)/\wr.cell? ⟨w.heap.size+1,4,none⟩=some (.slice vA' vs.length vc')/\w.heap.size+1<wr.heap.size) (fun iv _=>vs.length - (intOf iv).toNat)
 case atStart=>exact⟨0,Nat.zero_le _,rfl,by simp[Hid],hbw,a4,b4,hsz⟩
 case round=>(
 clear a3 a4 b3 b4 hsz hbw;rename_i wr
 obtain⟨k,hk,rfl,h0,hbw,a4,b4,hsz⟩:=hrel;by_cases hlt:k<vs.length
 ·(
 have hlt':k<vs'.length:=by have:=C4'.out;omega
 obtain⟨x,hx⟩:∃ x,vs[k]?=some x:=⟨_,List.getElem?_eq_getElem hlt⟩
 obtain⟨y,hy⟩:∃ y,vs'[k]?=some y:=⟨_,List.getElem?_eq_getElem hlt'⟩
 obtain⟨b,off,rfl,hb,hc0,hc1,hc2,hc3,hc4⟩:=jqm (HP.out.vl.below hbw) hx;obtain⟨b',off',rfl,hb',hd0,hd1,hd2,hd3,hd4⟩:=jqm (HP'.out.vl.below hbw) hy;have HIX:Hid (x.In _):=(HP.out.vk x (List.mem_of_getElem? hx)).later hbw;have HIY:Hid (y.In _):=(HP'.out.vk y (List.mem_of_getElem? hy)).later hbw;have HX:=Lh hx;have HY:=Lh hy;have HM:=Lh (List.mem_of_getElem? hx);clear hx hy;obtain⟨xn,xm,xK,xL,xN,xO,xP,xQ,xR,xS,xU⟩:=x;obtain⟨yn,ym,yK,yL,yN,yO,yP,yQ,yR,yS,yT⟩:=y;simp only[Vl.n,Vl.m,Vl.s1,Vl.c1,Vl.v1] at hc0 hc1 hc2 hc3 hc4 hd0 hd1 hd2 hd3 hd4;obtain⟨q,hq⟩:=exq (decide ((Vl.mk xn xm xK xL xN xO xP xQ xR xS xU).er=(Vl.mk yn ym yK yL yN yO yP yQ yR yS yT).er));have HQ:=Lh hq;clear hq;have hlti:(k:Int)<(vs.length:Int):=by omega
 have HBW:=Lh hbw;clear hbw;go_wp2_with fail;go_still_tail 10,(by kernel_rfl)
 change wpList _ _ _ _ _ wr.drew;go_wp2_with fail;refine (IH.out _ HM.out _ _ (HIX.out.later (jqo wr)) (HIY.out.later (jqo wr))).mono ?_;rintro e w2 ⟨rfl,hb2⟩;rw[HQ.out];have hb3:Below wr.heap.size wr w2:=(jqo wr).trans hb2;replace a4:=(hb3.cell (p:=⟨w.heap.size,4,none⟩) (by show w.heap.size<_;omega)).trans a4;replace b4:=(hb3.cell (p:=⟨w.heap.size+1,4,none⟩) hsz).trans b4;replace hsz:=ltl hsz hb3.size;have hbw2:Below w.heap.size w w2:=HBW.out.trans (hb3.mono HBW.out.size);clear hb2 hb3 hc0 hc1 hc2 hc3 hc4 hd0 hd1 hd2 hd3 hd4;cases q with
 | false=>(
 go_wp2_with fail;go_ret;exact⟨jzi (jva HR.out fun h=>jce (f:=Vl.er) HX.out HY.out (of_decide_eq_false HQ.out) h.2.2.2.2),hbw2⟩)
 | true=>(
 go_wp2_with fail;go_roundw
 case rel=>exact⟨k+1,by omega,by go_num,jvx (f:=Vl.er) h0.out HX.out HY.out (of_decide_eq_true HQ.out),hbw2,a4,b4,hsz⟩
 case measure=>simp[intOf];omega))
 ·(
 go_wp2_with fail;go_ret;exact⟨jzi (r_true HR.out ⟨by simp,by simp,of_decide_eq_true HT.out,HCE.out,jbd h0.out (by omega) (by have:=C4'.out;omega)⟩),hbw⟩)))))
 ·(
 have d4:¬ ((vs.length:Int)=vs'.length):=by omega
 have D4:=Lh c4;clear c4;go_wp2_with fail;go_ret;exact⟨jzi (jva HR.out fun h=>D4.out (by simpa using congrArg List.length h.2.2.2.2)),hbw1⟩))
 ·(
 have d3:¬ ((cs.length:Int)=cs'.length):=by omega
 have D3:=Lh c3;clear c3;go_wp2_with fail;go_ret;exact⟨jzi (jva HR.out fun h=>D3.out (by simpa using congrArg List.length h.2.2.2.1)),hbw1⟩)))
 ·(
 have d2:(m == m')=false:=by simp[c2]
 have D2:=Lh c2;clear c2;go_enter Tryz.func11,Tryz.ntmps11;go_wp2_with fail;go_ret;exact⟨jzi (jva HR.out fun h=>D2.out h.2.1),HW0.out⟩))
 ·(
 have d1:(n == n')=false:=by simp[c1]
 have D1:=Lh c1;clear c1;go_enter Tryz.func11,Tryz.ntmps11;go_wp2_with fail;go_ret;exact⟨jzi (jva HR.out fun h=>D1.out h.1),HW0.out⟩))
def jxx(ss:List Str):Bool:=ss.all fun s=>decide (s.length<=16)
theorem jv7{α:Type}{p:α->Bool}{l:List α}{k:Nat}{x:α}(h0:(l.take k).all p=true)(hx:l[k]?=some x)(h:p x=true):(l.take (k+1)).all p=true:=by
 obtain⟨hi,he⟩:=List.getElem?_eq_some_iff.1 hx;rw[List.take_succ_eq_append_getElem hi,List.all_append,h0,he];simp[h]
theorem juc{α:Type}{p:α->Bool}{l:List α}{k:Nat}(h0:(l.take k).all p=true)(h:l.length<=k):l.all p=true:=by rwa [List.take_of_length_le h] at h0
theorem jkx{α:Type}{p:α->Bool}{l:List α}{k:Nat}{x:α}(hx:l[k]?=some x)(h:p x=false):l.all p=false:=by
 rw[List.all_eq_false];exact⟨x,List.mem_of_getElem? hx,by simp[h]⟩
theorem S_size(x:Str):(S x).size=x.length:=by simp[S,ByteArray.size]
theorem ju1(A:Option Addr)(c:Nat)(ss:List Str)(w:World)(hl:jqs w A ss)(hn:ss.length<=maxLen)(ht:∀ s∈ss,s.length<=maxLen):Calls Tryz.prog 138 #[.slice A ss.length c] w fun e w'=>e = .returned (.bool (jxx ss))/\w=w':=by
 unfold maxLen at hn;have HT:=Lh ht;clear ht;go_enter Tryz.func138,Tryz.ntmps138;go_wp2_with fail;go_loop [3] (fun iv=>∃ k:Nat,k<=ss.length/\iv = .int .i64 k/\Hid ((ss.take k).all (fun s=>decide (s.length<=16))=true)) (fun iv=>ss.length - (intOf iv).toNat)
 case atStart=>exact⟨0,Nat.zero_le _,rfl,by simp[Hid]⟩
 case round=>(
 obtain⟨k,hk,rfl,h0⟩:=hrel;by_cases hlt:k<ss.length
 ·(
 obtain⟨b,off,rfl,hb,hc⟩:=hl.get hlt;obtain⟨x,hx⟩:∃ x,ss[k]?=some x:=⟨_,List.getElem?_eq_getElem hlt⟩
 have hc0:=hc k x hx;have HX:=Lh hx;have hxm:x.length<=9223372036854775807:=by have:=HT.out x (List.mem_of_getElem? hx);unfold maxLen at this;omega
 have hxs:(S x).size=x.length:=S_size x;clear hx hc hl;by_cases c1:x.length<=16
 ·(
 have HP:Hid ((fun s:Str=>decide (s.length<=16)) x=true):=decide_eq_true c1;have d1:decide (16<(x.length:Int))=false:=decide_eq_false (by omega);go_wp2_with fail;go_round
 case rel=>exact⟨k+1,by omega,by go_num,jv7 h0.out HX.out HP.out⟩
 case measure=>simp[intOf];omega)
 ·(
 have HP:Hid ((fun s:Str=>decide (s.length<=16)) x=false):=decide_eq_false c1;have d1:16<x.length:=by omega
 go_wp2_with fail;go_ret;exact⟨jzi (jkx HX.out HP.out).symm,rfl⟩))
 ·(
 go_wp2_with fail;go_ret;exact⟨jzi (juc h0.out (by omega)).symm,rfl⟩))
def jqa(n m:Int)(a b d:Nat)(p q r s t:Bool):Bool:=(p || decide (n=0)) && ((q || decide (m=0)) && ((r || decide (a=0)) && ((s || decide (b=0)) && (t || decide (d=0)))))
theorem jok(n m:Int)(sA:Option Addr)(sc a:Nat)(cA:Option Addr)(cc b:Nat)(vA:Option Addr)(vc d:Nat)(p q r s t:Bool)(w:World):Calls Tryz.prog 137 #[.agg #[.int .u64 n,.int .u64 m,.slice sA a sc,.slice cA b cc,.slice vA d vc],.bool p,.bool q,.bool r,.bool s,.bool t] w (jqd w (.bool (jqa n m a b d p q r s t))):=by
 have hp:p=true\/(p=false/\n=0)\/(p=false/\¬ n=0):=by cases p <;> simp <;> exact Decidable.em _
 have hq:q=true\/(q=false/\m=0)\/(q=false/\¬ m=0):=by cases q <;> simp <;> exact Decidable.em _
 have hr:r=true\/(r=false/\a=0)\/(r=false/\¬ a=0):=by cases r <;> simp <;> exact Decidable.em _
 have hs:s=true\/(s=false/\b=0)\/(s=false/\¬ b=0):=by cases s <;> simp <;> exact Decidable.em _
 have ht:t=true\/(t=false/\d=0)\/(t=false/\¬ d=0):=by cases t <;> simp <;> exact Decidable.em _
 obtain⟨R,hR⟩:=exq (jqa n m a b d p q r s t);rw[hR];have HR:=Lh hR;clear hR;rcases hp with rfl | ⟨rfl,rfl⟩ | ⟨rfl,h1⟩
 rotate_left 2
 ·(
 have e1:(n == 0)=false:=by simp[h1]
 have HF:Hid (R=false):=by show R=false;rw[<- HR.out];simp[jqa,h1]
 clear hq hr hs ht h1;go_enter Tryz.func137,Tryz.ntmps137;go_wp2_with fail;go_ret;exact⟨jzi HF.out.symm,jzf _ _⟩)
 all_goals
   rcases hq with rfl | ⟨rfl,rfl⟩ | ⟨rfl,h1⟩
   rotate_left 2
   · have e1:(m == 0)=false:=by simp[h1]
     have HF:Hid (R=false):=by show R=false;rw[<- HR.out];simp[jqa,h1]
     clear hr hs ht h1
     go_enter Tryz.func137,Tryz.ntmps137
     go_wp2_with fail
     go_ret
     exact⟨jzi HF.out.symm,jzf _ _⟩
   all_goals
     rcases hr with rfl | ⟨rfl,rfl⟩ | ⟨rfl,h1⟩
     rotate_left 2
     · have e1:((a:Int) == 0)=false:=by simp[h1]
       have HF:Hid (R=false):=by show R=false;rw[<- HR.out];simp[jqa,h1]
       clear hs ht
       go_enter Tryz.func137,Tryz.ntmps137
       go_wp2_with fail
       go_ret
       exact⟨jzi HF.out.symm,jzf _ _⟩
     all_goals
       rcases hs with rfl | ⟨rfl,rfl⟩ | ⟨rfl,h1⟩
       rotate_left 2
       · have e1:((b:Int) == 0)=false:=by simp[h1]
         have HF:Hid (R=false):=by show R=false;rw[<- HR.out];simp[jqa,h1]
         clear ht
         go_enter Tryz.func137,Tryz.ntmps137
         go_wp2_with fail
         go_ret
         exact⟨jzi HF.out.symm,jzf _ _⟩
       all_goals
         rcases ht with rfl | ⟨rfl,rfl⟩ | ⟨rfl,h1⟩
         rotate_left 2
         · have e1:((d:Int) == 0)=false:=by simp[h1]
           have HF:Hid (R=false):=by show R=false;rw[<- HR.out];simp[jqa,h1]
           go_enter Tryz.func137,Tryz.ntmps137
           go_wp2_with fail
           go_ret
           exact⟨jzi HF.out.symm,jzf _ _⟩
         all_goals
           have HF:Hid (R=true):=by show R=true;rw[<- HR.out];simp[jqa]
           go_enter Tryz.func137,Tryz.ntmps137
           go_wp2_with fail
           go_ret
           exact⟨jzi HF.out.symm,jzf _ _⟩
end V4
end Go.Proofs.YtobggoephhjofaaGreatDoor
