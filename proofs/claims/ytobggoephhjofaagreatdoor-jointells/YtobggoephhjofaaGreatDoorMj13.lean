/- A part. No condition. -/
import Derived.Test.YtobggoephhjofaaGreatDoorMj12
set_option maxRecDepth 100000
set_option maxHeartbeats 16000000
namespace Go.Proofs.YtobggoephhjofaaGreatDoor
namespace V4
open Go.RowKit
open S2 (Sc)
open C3 (isC jzj)
theorem jxj{w:World}{a:Obj}{cs:Array Value}{t:TypeId}(i:Nat)(v:Value)(h:cs[i]?=some v):((w.alloc a).alloc (.cells cs t)).cell? ⟨w.heap.size+1,i,none⟩=some v:=by
 have:=jz0 (w:=w.alloc a) (t:=t) i v h;rw[World.size_alloc] at this;exact this
theorem ckIn{w:World}(n m:Int)(sA:Option Addr)(sc:Nat)(ss:List Str)(cA:Option Addr)(cc:Nat)(cs:List Ck)(vA:Option Addr)(vc:Nat)(vs:List Vl)(hx:(Vl.mk n m sA sc ss cA cc cs vA vc vs).In w):∀ k∈cs,InC w k:=by
 cases hx with
 | mk _ _ _ _ _ _ _ _ _ _ _ _ _ _ _ _ _ _ h8 _ _ _=>exact h8
theorem formed_1(A:Option Addr)(c:Nat)(il:List Sc)(n m:Int)(sA:Option Addr)(sc:Nat)(ss:List Str)(cA:Option Addr)(cc:Nat)(cs:List Ck)(vA:Option Addr)(vc:Nat)(vs:List Vl)(w:World):Calls Tryz.prog 73 #[.agg #[.int .i64 1,.slice A il.length c,.int .u64 n,.int .u64 m,.slice sA ss.length sc,.slice cA cs.length cc,.slice vA vs.length vc]] w (jqd w (.bool (true))):=by
 have hB0:Below w.heap.size w ((w.alloc (.cells #[.int .i64 1,.slice A il.length c,.int .u64 n,.int .u64 m,.slice sA ss.length sc,.slice cA cs.length cc,.slice vA vs.length vc] 76)).alloc (.cells #[.int .u64 n,.int .u64 m,.slice sA ss.length sc,.slice cA cs.length cc,.slice vA vs.length vc] 30)):=jzj (jzj (Below.refl _ _));go_enter Tryz.func73,Tryz.ntmps73;go_wp2_with fail;go_ret;exact⟨rfl,hB0⟩
theorem formed_0(k:Int)(h:¬ (1<=k/\k<=8))(A:Option Addr)(c:Nat)(il:List Sc)(n m:Int)(sA:Option Addr)(sc:Nat)(ss:List Str)(cA:Option Addr)(cc:Nat)(cs:List Ck)(vA:Option Addr)(vc:Nat)(vs:List Vl)(w:World):Calls Tryz.prog 73 #[.agg #[.int .i64 k,.slice A il.length c,.int .u64 n,.int .u64 m,.slice sA ss.length sc,.slice cA cs.length cc,.slice vA vs.length vc]] w (jqd w (.bool (false))):=by
 have hB0:Below w.heap.size w ((w.alloc (.cells #[.int .i64 k,.slice A il.length c,.int .u64 n,.int .u64 m,.slice sA ss.length sc,.slice cA cs.length cc,.slice vA vs.length vc] 76)).alloc (.cells #[.int .u64 n,.int .u64 m,.slice sA ss.length sc,.slice cA cs.length cc,.slice vA vs.length vc] 30)):=jzj (jzj (Below.refl _ _));have k1:(k == 1)=false:=jo2 (by omega);have k2:(k == 2)=false:=jo2 (by omega);have k3:(k == 3)=false:=jo2 (by omega);have k4:(k == 4)=false:=jo2 (by omega);have k5:(k == 5)=false:=jo2 (by omega);have k6:(k == 6)=false:=jo2 (by omega);have k7:(k == 7)=false:=jo2 (by omega);have k8:(k == 8)=false:=jo2 (by omega);clear h;go_enter Tryz.func73,Tryz.ntmps73;go_wp2_with fail;go_ret;exact⟨rfl,hB0⟩
theorem formed_2(A:Option Addr)(c:Nat)(il:List Sc)(n m:Int)(sA:Option Addr)(sc:Nat)(ss:List Str)(cA:Option Addr)(cc:Nat)(cs:List Ck)(vA:Option Addr)(vc:Nat)(vs:List Vl)(w:World)(hx:(Vl.mk n m sA sc ss cA cc cs vA vc vs).In w):Calls Tryz.prog 73 #[.agg #[.int .i64 2,.slice A il.length c,.int .u64 n,.int .u64 m,.slice sA ss.length sc,.slice cA cs.length cc,.slice vA vs.length vc]] w (jqd w (.bool (decide (n<=1)))):=by
 have hB0:Below w.heap.size w ((w.alloc (.cells #[.int .i64 2,.slice A il.length c,.int .u64 n,.int .u64 m,.slice sA ss.length sc,.slice cA cs.length cc,.slice vA vs.length vc] 76)).alloc (.cells #[.int .u64 n,.int .u64 m,.slice sA ss.length sc,.slice cA cs.length cc,.slice vA vs.length vc] 30)):=jzj (jzj (Below.refl _ _));have hn:=hx.out.hn;clear hx;go_enter Tryz.func73,Tryz.ntmps73;go_wp2_with fail;go_ret;exact⟨rfl,hB0⟩
theorem formed_3(A:Option Addr)(c:Nat)(il:List Sc)(n m:Int)(sA:Option Addr)(sc:Nat)(ss:List Str)(cA:Option Addr)(cc:Nat)(cs:List Ck)(vA:Option Addr)(vc:Nat)(vs:List Vl)(w:World)(hx:(Vl.mk n m sA sc ss cA cc cs vA vc vs).In w):Calls Tryz.prog 73 #[.agg #[.int .i64 3,.slice A il.length c,.int .u64 n,.int .u64 m,.slice sA ss.length sc,.slice cA cs.length cc,.slice vA vs.length vc]] w (jqd w (.bool (jw1 ss))):=by
 have hB0:Below w.heap.size w ((w.alloc (.cells #[.int .i64 3,.slice A il.length c,.int .u64 n,.int .u64 m,.slice sA ss.length sc,.slice cA cs.length cc,.slice vA vs.length vc] 76)).alloc (.cells #[.int .u64 n,.int .u64 m,.slice sA ss.length sc,.slice cA cs.length cc,.slice vA vs.length vc] 30)):=jzj (jzj (Below.refl _ _));have hp:=(hx.later hB0).out;have HC:=Lh (jum sA sc ss _ hp.sl (by have:=hp.sb;omega) hp.st);clear hx hp;go_enter Tryz.func73,Tryz.ntmps73;go_wp2_with fail;refine HC.out.mono ?_;rintro e w' ⟨rfl,hb⟩;go_wp2_with fail;go_ret;exact⟨rfl,hB0.trans (hb.mono hB0.size)⟩
theorem jti(A:Option Addr)(c:Nat)(il:List Sc)(n m:Int)(sA:Option Addr)(sc:Nat)(ss:List Str)(cA:Option Addr)(cc:Nat)(cs:List Ck)(vA:Option Addr)(vc:Nat)(vs:List Vl)(w:World):Calls Tryz.prog 73 #[.agg #[.int .i64 5,.slice A il.length c,.int .u64 n,.int .u64 m,.slice sA ss.length sc,.slice cA cs.length cc,.slice vA vs.length vc]] w (jqd w (.bool (decide (vs.length=2)))):=by
 have hB0:Below w.heap.size w ((w.alloc (.cells #[.int .i64 5,.slice A il.length c,.int .u64 n,.int .u64 m,.slice sA ss.length sc,.slice cA cs.length cc,.slice vA vs.length vc] 76)).alloc (.cells #[.int .u64 n,.int .u64 m,.slice sA ss.length sc,.slice cA cs.length cc,.slice vA vs.length vc] 30)):=jzj (jzj (Below.refl _ _));by_cases h2:vs.length=2
 ·(
 have k2:((vs.length:Int) == 2)=true:=ibeq (by omega);rw[decide_eq_true h2];clear h2;go_enter Tryz.func73,Tryz.ntmps73;go_wp2_with fail;go_ret;exact⟨rfl,hB0⟩)
 ·(
 have k2:((vs.length:Int) == 2)=false:=jo2 (by omega);rw[decide_eq_false h2];clear h2;go_enter Tryz.func73,Tryz.ntmps73;go_wp2_with fail;go_ret;exact⟨rfl,hB0⟩)
theorem formed_6(A:Option Addr)(c:Nat)(il:List Sc)(n m:Int)(sA:Option Addr)(sc:Nat)(ss:List Str)(cA:Option Addr)(cc:Nat)(cs:List Ck)(vA:Option Addr)(vc:Nat)(vs:List Vl)(w:World)(hx:(Vl.mk n m sA sc ss cA cc cs vA vc vs).In w):Calls Tryz.prog 73 #[.agg #[.int .i64 6,.slice A il.length c,.int .u64 n,.int .u64 m,.slice sA ss.length sc,.slice cA cs.length cc,.slice vA vs.length vc]] w (jqd w (.bool (jqa n m ss.length cs.length vs.length false false false false false || jxd n m ss))):=by
 have hB0:Below w.heap.size w ((w.alloc (.cells #[.int .i64 6,.slice A il.length c,.int .u64 n,.int .u64 m,.slice sA ss.length sc,.slice cA cs.length cc,.slice vA vs.length vc] 76)).alloc (.cells #[.int .u64 n,.int .u64 m,.slice sA ss.length sc,.slice cA cs.length cc,.slice vA vs.length vc] 30)):=jzj (jzj (Below.refl _ _));have hp:=(hx.later hB0).out;have hn:=hp.hn;have hm:=hp.hm;have HW:Hid (∀ Z,Below (((w.alloc (.cells #[.int .i64 6,.slice A il.length c,.int .u64 n,.int .u64 m,.slice sA ss.length sc,.slice cA cs.length cc,.slice vA vs.length vc] 76)).alloc (.cells #[.int .u64 n,.int .u64 m,.slice sA ss.length sc,.slice cA cs.length cc,.slice vA vs.length vc] 30))).heap.size (((w.alloc (.cells #[.int .i64 6,.slice A il.length c,.int .u64 n,.int .u64 m,.slice sA ss.length sc,.slice cA cs.length cc,.slice vA vs.length vc] 76)).alloc (.cells #[.int .u64 n,.int .u64 m,.slice sA ss.length sc,.slice cA cs.length cc,.slice vA vs.length vc] 30))) Z->Calls Tryz.prog 113 #[.agg #[.int .u64 n,.int .u64 m,.slice sA ss.length sc,.slice cA cs.length cc,.slice vA vs.length vc]] Z (jqd Z (.bool (jxd n m ss)))):=fun Z hZ=>jc5 n m sA sc ss cA cc _ vA vc _ Z hn.1 hm.1 (hp.sl.below hZ) (by have:=hp.sb;omega) hp.st
 clear hx hp hn hm;obtain⟨q,hq⟩:=exq (jqa n m ss.length cs.length vs.length false false false false false);have HC:=Lh (jpc n m sA sc ss.length cA cc cs.length vA vc vs.length (((w.alloc (.cells #[.int .i64 6,.slice A il.length c,.int .u64 n,.int .u64 m,.slice sA ss.length sc,.slice cA cs.length cc,.slice vA vs.length vc] 76)).alloc (.cells #[.int .u64 n,.int .u64 m,.slice sA ss.length sc,.slice cA cs.length cc,.slice vA vs.length vc] 30))));rw[hq] at HC ⊢;clear hq;go_enter Tryz.func73,Tryz.ntmps73;go_wp2_with fail;refine HC.out.mono ?_;clear HC;rintro e w3 ⟨rfl,hb⟩;have e0:=(hb.cell (p:=⟨w.heap.size+1,0,none⟩) (by simp)).trans (jxj 0 _ rfl);have e1:=(hb.cell (p:=⟨w.heap.size+1,1,none⟩) (by simp)).trans (jxj 1 _ rfl);have e2:=(hb.cell (p:=⟨w.heap.size+1,2,none⟩) (by simp)).trans (jxj 2 _ rfl);have e3:=(hb.cell (p:=⟨w.heap.size+1,3,none⟩) (by simp)).trans (jxj 3 _ rfl);have e4:=(hb.cell (p:=⟨w.heap.size+1,4,none⟩) (by simp)).trans (jxj 4 _ rfl);have hB3:=hB0.trans (hb.mono hB0.size);have HW2:=Lh (HW.out w3 hb);clear HW hb hB0;cases q with
 | true=>(
 go_wp2_with fail;go_ret;exact⟨rfl,hB3⟩)
 | false=>(
 go_wp2_with fail;refine HW2.out.mono ?_;rintro e w4 ⟨rfl,hb4⟩;go_wp2_with fail;go_ret;exact⟨rfl,hB3.trans (hb4.mono hB3.size)⟩)
theorem formed_7(A:Option Addr)(c:Nat)(il:List Sc)(n m:Int)(sA:Option Addr)(sc:Nat)(ss:List Str)(cA:Option Addr)(cc:Nat)(cs:List Ck)(vA:Option Addr)(vc:Nat)(vs:List Vl)(w:World)(hx:(Vl.mk n m sA sc ss cA cc cs vA vc vs).In w):Calls Tryz.prog 73 #[.agg #[.int .i64 7,.slice A il.length c,.int .u64 n,.int .u64 m,.slice sA ss.length sc,.slice cA cs.length cc,.slice vA vs.length vc]] w (jqd w (.bool (decide (cs.length<=1) && !cs.any jm4))):=by
 have hB0:Below w.heap.size w ((w.alloc (.cells #[.int .i64 7,.slice A il.length c,.int .u64 n,.int .u64 m,.slice sA ss.length sc,.slice cA cs.length cc,.slice vA vs.length vc] 76)).alloc (.cells #[.int .u64 n,.int .u64 m,.slice sA ss.length sc,.slice cA cs.length cc,.slice vA vs.length vc] 30)):=jzj (jzj (Below.refl _ _));have hp:=(hx.later hB0).out;have hk:=ckIn n m sA sc ss cA cc cs vA vc vs (hx.later hB0);have HC:=Lh (jbq cA cc cs _ hp.cl (by have:=hp.cb;omega) hk);clear hx hp hk;by_cases h1:cs.length<=1
 ·(
 have k1:decide ((cs.length:Int)<=1)=true:=decide_eq_true (by omega);rw[decide_eq_true h1];go_enter Tryz.func73,Tryz.ntmps73;go_wp2_with fail;refine HC.out.mono ?_;rintro e w' ⟨rfl,hb⟩;go_wp2_with fail;go_ret;exact⟨rfl,hB0.trans (hb.mono hB0.size)⟩)
 ·(
 have k1:decide ((cs.length:Int)<=1)=false:=decide_eq_false (by omega);rw[decide_eq_false h1];clear h1;go_enter Tryz.func73,Tryz.ntmps73;go_wp2_with fail;go_ret;exact⟨rfl,hB0⟩)
theorem formed_8(A:Option Addr)(c:Nat)(il:List Sc)(n m:Int)(sA:Option Addr)(sc:Nat)(ss:List Str)(cA:Option Addr)(cc:Nat)(cs:List Ck)(vA:Option Addr)(vc:Nat)(vs:List Vl)(w:World)(hx:(Vl.mk n m sA sc ss cA cc cs vA vc vs).In w):Calls Tryz.prog 73 #[.agg #[.int .i64 8,.slice A il.length c,.int .u64 n,.int .u64 m,.slice sA ss.length sc,.slice cA cs.length cc,.slice vA vs.length vc]] w (jqd w (.bool (decide (cs.length=vs.length) && jge cs))):=by
 have hB0:Below w.heap.size w ((w.alloc (.cells #[.int .i64 8,.slice A il.length c,.int .u64 n,.int .u64 m,.slice sA ss.length sc,.slice cA cs.length cc,.slice vA vs.length vc] 76)).alloc (.cells #[.int .u64 n,.int .u64 m,.slice sA ss.length sc,.slice cA cs.length cc,.slice vA vs.length vc] 30)):=jzj (jzj (Below.refl _ _));have hp:=(hx.later hB0).out;have hk:=ckIn n m sA sc ss cA cc cs vA vc vs (hx.later hB0);have HC:=Lh (jus cA cc cs _ hp.cl hp.cb.1 hp.cb.2.1 hp.cb.2.2 hk);clear hx hp hk;by_cases h1:cs.length=vs.length
 ·(
 have k1:((cs.length:Int) == (vs.length:Int))=true:=ibeq (by omega);rw[decide_eq_true h1];clear h1;go_enter Tryz.func73,Tryz.ntmps73;go_wp2_with fail;refine HC.out.mono ?_;rintro e w' ⟨rfl,hb⟩;go_wp2_with fail;go_ret;exact⟨rfl,hB0.trans (hb.mono hB0.size)⟩)
 ·(
 have k1:((cs.length:Int) == (vs.length:Int))=false:=jo2 (by omega);rw[decide_eq_false h1];clear h1;go_enter Tryz.func73,Tryz.ntmps73;go_wp2_with fail;go_ret;exact⟨rfl,hB0⟩)
open Go.RowKit Go.Shelf
open S2 (Sc isT jzf)
def jwj(k n m:Int)(a b d:Nat):Bool :=
  if k=1 then jqa n m a b d true false false false false else if k=2 then jqa n m a b d true false false false false else if k=3 then jqa n m a b d false false true false false else
  if k=4 then jqa n m a b d false false true false true else if k=5 then jqa n m a b d false false false false true else if k=6 then jqa n m a b d true true true false false else
  if k=7 then jqa n m a b d false false false true false else if k=8 then jqa n m a b d false false false true true else jqa n m a b d false false false false false
def jbn(k n m:Int)(ss:List Str)(cs:List Ck)(d:Nat)(fl:Bool):Bool :=
  if k=1 then true else if k=2 then decide (n<=1) else if k=3 then jw1 ss else if k=4 then jw1 ss && (decide (d=ss.length) && fl) else if k=5 then decide (d=2) else
  if k=6 then jqa n m ss.length cs.length d false false false false false || jxd n m ss else if k=7 then decide (cs.length<=1) && !cs.any jm4 else if k=8 then decide (cs.length=d) && jge cs else false
theorem jlr(k:Int)(A:Option Addr)(c:Nat)(il:List Sc)(n m:Int)(sA:Option Addr)(sc:Nat)(ss:List Str)(cA:Option Addr)(cc:Nat)(cs:List Ck)(vA:Option Addr)(vc:Nat)(vs:List Vl)(w:World)(b f:Bool)(hs:∀ Z,Calls Tryz.prog 72 #[.int .i64 k,.agg #[.int .u64 n,.int .u64 m,.slice sA ss.length sc,.slice cA cs.length cc,.slice vA vs.length vc]] Z (jnz Z b))(hf:∀ Z,Below w.heap.size w Z->Calls Tryz.prog 73 #[.agg #[.int .i64 k,.slice A il.length c,.int .u64 n,.int .u64 m,.slice sA ss.length sc,.slice cA cs.length cc,.slice vA vs.length vc]] Z (jqd Z (.bool f))):Calls Tryz.prog 39 #[.agg #[.int .i64 k,.slice A il.length c,.int .u64 n,.int .u64 m,.slice sA ss.length sc,.slice cA cs.length cc,.slice vA vs.length vc]] w (jqd w (.bool (b && f))):=by
 have HS:=Lh hs;have HF:=Lh hf;clear hs hf;go_enter Tryz.func39,Tryz.ntmps39;go_wp2_with fail;refine (HS.out _).mono ?_;rintro e w2 ⟨n',m',sA',sc',a',cA',cc',b',vA',vc',d',rfl,hh,hb2⟩;have HH:=Lh hh;have hB2:Below w.heap.size w w2:=(jzf w _).trans (hb2.mono (by simp));have hs2:w.heap.size<w2.heap.size:=by have:=hb2.size;simp at this;omega
 have hcell:∀ i v,(#[.int .i64 k,.slice A il.length c,.int .u64 n,.int .u64 m,.slice sA ss.length sc,.slice cA cs.length cc,.slice vA vs.length vc]:Array Value)[i]?=some v->w2.cell? ⟨w.heap.size,i,none⟩=some v:=fun i v h=>(hb2.cell (p:=⟨w.heap.size,i,none⟩) (by simp)).trans (jz0 i v h)
 clear hh hb2;go_wp2_with fail;refine (jpc n' m' sA' sc' a' cA' cc' b' vA' vc' d' w2).mono ?_;rintro e w3 ⟨rfl,hb3⟩;rw[HH.out];have hB3:Below w.heap.size w w3:=hB2.trans (hb3.mono hB2.size);have e0:=(hb3.cell (p:=⟨w.heap.size,0,none⟩) hs2).trans (hcell 0 _ rfl);have e1:=(hb3.cell (p:=⟨w.heap.size,1,none⟩) hs2).trans (hcell 1 _ rfl);have e2:=(hb3.cell (p:=⟨w.heap.size,2,none⟩) hs2).trans (hcell 2 _ rfl);have e3:=(hb3.cell (p:=⟨w.heap.size,3,none⟩) hs2).trans (hcell 3 _ rfl);have e4:=(hb3.cell (p:=⟨w.heap.size,4,none⟩) hs2).trans (hcell 4 _ rfl);have e5:=(hb3.cell (p:=⟨w.heap.size,5,none⟩) hs2).trans (hcell 5 _ rfl);have e6:=(hb3.cell (p:=⟨w.heap.size,6,none⟩) hs2).trans (hcell 6 _ rfl);clear hcell hb3;cases b with
 | false=>(
 go_wp2_with fail;go_ret;exact⟨rfl,hB3⟩)
 | true=>(
 go_wp2_with fail;refine (HF.out w3 hB3).mono ?_;rintro e w4 ⟨rfl,hb4⟩;go_wp2_with fail;go_ret;exact⟨rfl,hB3.trans (hb4.mono hB3.size)⟩)
theorem juo(k n m:Int)(sA:Option Addr)(sc a:Nat)(cA:Option Addr)(cc b:Nat)(vA:Option Addr)(vc d:Nat)(w:World):Calls Tryz.prog 72 #[.int .i64 k,.agg #[.int .u64 n,.int .u64 m,.slice sA a sc,.slice cA b cc,.slice vA d vc]] w (jnz w (jwj k n m a b d)):=by
 unfold jwj;by_cases h1:k=1
 ·subst h1;exact jt8 n m sA sc a cA cc b vA vc d w
 rw[if_neg h1];by_cases h2:k=2
 ·subst h2;exact jt7 n m sA sc a cA cc b vA vc d w
 rw[if_neg h2];by_cases h3:k=3
 ·subst h3;exact jt6 n m sA sc a cA cc b vA vc d w
 rw[if_neg h3];by_cases h4:k=4
 ·subst h4;exact jt5 n m sA sc a cA cc b vA vc d w
 rw[if_neg h4];by_cases h5:k=5
 ·subst h5;exact jp5 n m sA sc a cA cc b vA vc d w
 rw[if_neg h5];by_cases h6:k=6
 ·subst h6;exact jt4 n m sA sc a cA cc b vA vc d w
 rw[if_neg h6];by_cases h7:k=7
 ·subst h7;exact jt3 n m sA sc a cA cc b vA vc d w
 rw[if_neg h7];by_cases h8:k=8
 ·subst h8;exact jt2 n m sA sc a cA cc b vA vc d w
 rw[if_neg h8];exact jt9 k (by omega) n m sA sc a cA cc b vA vc d w
def jvd(k n m:Int)(a b d:Nat):Bool:=if k=5 then jqa n m a b d false false false false true && decide (d=2) else jqa n m a b d false false false false false
def jkk(x:Sc×Vl):Bool:=jvd x.1.k x.2.n x.2.m x.2.ss.length x.2.cs.length x.2.vs.length
theorem jo3(x:Sc×Vl)(w:World):Calls Tryz.prog 161 #[jwz x] w (jqd w (.bool (jkk x))):=by
 obtain⟨⟨k,A,c,il⟩,n,m,sA,sc,ss,cA,cc,cs,vA,vc,vs⟩:=x;simp only[jwz,jzv,jkk,Sc.k,Sc.v1,Vl.n,Vl.m,Vl.s1,Vl.c1,Vl.v1,Vl.ss,Vl.cs,Vl.vs];unfold jvd;have hB:Below w.heap.size w (w.alloc (.cells #[.int .i64 k,.slice A il.length c,.int .u64 n,.int .u64 m,.slice sA ss.length sc,.slice cA cs.length cc,.slice vA vs.length vc] 76)):=jzf w _;by_cases h5:k=5
 ·(
 subst h5;rw[if_pos rfl];have HR:=Lh (jlr 5 A c il n m sA sc ss cA cc cs vA vc vs (w.alloc (.cells #[.int .i64 5,.slice A il.length c,.int .u64 n,.int .u64 m,.slice sA ss.length sc,.slice cA cs.length cc,.slice vA vs.length vc] 76)) _ _
   (fun Z=>jp5 n m sA sc ss.length cA cc cs.length vA vc vs.length Z) (fun Z _=>jti A c il n m sA sc ss cA cc cs vA vc vs Z))
 go_enter Tryz.func161,Tryz.ntmps161;go_wp2_with fail;refine HR.out.mono ?_;rintro e w' ⟨rfl,hb⟩;go_wp2_with fail;go_ret;exact⟨rfl,hB.trans (hb.mono hB.size)⟩)
 ·(
 rw[if_neg h5];have k5:(k == 5)=false:=jo2 h5;clear h5;go_enter Tryz.func161,Tryz.ntmps161;go_wp2_with fail;refine (jpc n m sA sc ss.length cA cc cs.length vA vc vs.length _).mono ?_;rintro e w' ⟨rfl,hb⟩;go_wp2_with fail;go_ret;exact⟨rfl,hB.trans (hb.mono hB.size)⟩)
end V4
namespace V4
open Go.RowKit Go.Shelf
open S2 (Sc isT jzf jzx)
open C3 (isC jzj)
attribute [local go_sem] Oper.semAt_some
def OkS(s:Sc):Prop:=(∃ n,isT n s.er=true)\/(s.k=0/\s.ins=[])
theorem okS_at{s:Sc}(h:OkS s)(i:Nat):OkS (scAt s.ins i):=by
 unfold scAt;cases hx:s.ins[min i (s.ins.length - 1)]? with
 | none=>exact .inr ⟨rfl,rfl⟩
 | some y=>(
 rcases h with ⟨n,hn⟩ | ⟨_,h⟩
 ·(
 cases n with
 | zero=>simp[isT] at hn
 | succ n=>(
 obtain⟨k,A,c,l⟩:=s;rw[S2.jzt] at hn;exact .inl ⟨n,jj8 hn _ (List.mem_map.2 ⟨y,List.mem_of_getElem? hx,rfl⟩)⟩))
 ·rw[h] at hx;simp at hx)
theorem jhf{s:Sc}(h:OkS s)(hk:s.k≠0):(s.ins.length:Int)=S2.arI s.k:=by
 rcases h with ⟨n,hn⟩ | ⟨h0,_⟩
 ·(
 obtain⟨k,A,c,l⟩:=s;rw[S2.jzt] at hn;have:=jg1 hn;rw[List.length_map] at this;exact this)
 ·exact absurd h0 hk
theorem jdk{s:Sc}(h:OkS s)(hk:s.k=4\/s.k=5\/s.k=8):s.ins≠[]:=by
 intro e;have h1:=jhf h (by omega);rw[e] at h1;rcases hk with hk | hk | hk <;> rw[hk] at h1 <;> simp[S2.arI] at h1
theorem okT:∀ (v:Vl) (s:Sc),OkS s->∀ x∈(jjl v s).pre,OkS x.1:=by
 intro v;induction v using Vl.ind with
 | h n m sA sc ss cA cc cs vA vc vs ih=>(
 intro s hs x hx;rw[jbt,Nd.pre] at hx;rcases List.mem_cons.1 hx with rfl | hx
 ·exact hs
 ·(
 obtain⟨t,ht,hx⟩:=jmt hx;obtain⟨i,hi⟩:=List.getElem?_of_mem ht;rw[jkb] at hi;obtain⟨y,hy,rfl⟩:=Option.map_eq_some_iff.1 hi;exact ih y (List.mem_of_getElem? hy) _ (okS_at hs _) x hx))
theorem jh5{w:World}:∀ (v:Vl) (s:Sc),InT w (s,v)->∀ x∈(jjl v s).pre,InT w x:=fun v s h x hx=>by
  have hg:=goodT (D:=w.heap.size) v s (h.2.bar (Nat.le_refl _)) (jlp h.1 (Nat.le_refl _))
  have:=hg.all x hx
  exact⟨sc_inn this.1,this.2.inn⟩
theorem jdv{x:Sc×Vl}(h:OkS x.1)(hx:jkk x=true):jwp x:=by
 unfold jkk jvd at hx;by_cases h5:x.1.k=5
 ·exact .inr (jdk h (.inr (.inl h5)))
 ·(
 rw[if_neg h5] at hx;simp[jqa] at hx
 exact .inl (by simpa using hx.2.2.2.2))
def jpr(x:Sc×Vl):Bool:=(jjl x.2 x.1).pre.all jkk
theorem none_any(x:Sc×Vl)(w:World)(hin:InT w x)(hok:OkS x.1):Calls Tryz.prog 144 #[jwz x] w (jqd w (.bool (jpr x))):=by
 have hB:Below w.heap.size w (w.alloc (.cells (jzv x) 76)):=jzf w _;have hin1:=hin.later hB;have HN:=Lh (jl4 (jjl x.2 x.1) (w.alloc (.cells (jzv x) 76)) (fun D hD=>goodT x.2 x.1 (hin1.2.bar hD) (jlp hin1.1 hD)));have HE:Hid (∀ (b1 b2:Nat) (w':World),Below (w.alloc (.cells (jzv x) 76)).heap.size (w.alloc (.cells (jzv x) 76)) w' ->
     (∀ D w2,Below w'.heap.size w' w2->(w.alloc (.cells (jzv x) 76)).heap.size<=D->D<w2.heap.size->jtu Tryz.prog 68 #[.pointer (some ⟨b1,0,none⟩),.pointer (some ⟨b2,0,none⟩)] jjb D jwp (jjl x.2 x.1).pre w2) ->
     Calls Tryz.prog 36 #[.func (.func 68) #[] #[.pointer (some ⟨b1,0,none⟩),.pointer (some ⟨b2,0,none⟩)],.func (.func 161) #[] #[]] w' (jqd w' (.bool (jpr x)))):=fun b1 b2 w' hb hs =>
   jcp jkk (jjl x.2 x.1).pre (fun y _ W _=>jo3 y W) jwp (fun y hy h=>jdv (okT x.2 x.1 hok y hy) h) _ _ (enters_of Tryz.func68 (by kernel_rfl) rfl) w'
     (fun D w2 hb2 hD hD2=>hs D w2 hb2 (leT hb.size hD) hD2) (fun y hy=>jh5 x.2 x.1 (hin1.later hb) y hy)
 rw[jvp] at HN;have HB:=Lh hB;clear hin hin1 hok hB;obtain⟨⟨k,A,c,il⟩,n,m,sA,sc,ss,cA,cc,cs,vA,vc,vs⟩:=x;simp only[jwz,jzv,Sc.k,Sc.v1,Vl.n,Vl.m,Vl.s1,Vl.c1,Vl.v1] at HN HE HB ⊢;go_enter Tryz.func144,Tryz.ntmps144;go_wp2_with fail;refine HN.out.mono ?_;clear HN;rintro e w2 ⟨b1,b2,rfl,hb2,hseq⟩;have HC:=Lh (HE.out b1 b2 w2 hb2 hseq);clear hseq HE;go_wp2_with fail;refine HC.out.mono ?_;rintro e w3 ⟨rfl,hb3⟩;go_wp2_with fail;go_ret;exact⟨rfl,HB.out.trans ((hb2.trans (hb3.mono hb2.size)).mono HB.out.size)⟩
end V4
namespace V4
open Go.RowKit Go.Shelf
open S2 (Sc isT jzf jzx)
open C3 (isC jzj)
attribute [local go_sem] Oper.semAt_some
def jj9(x:Sc×Vl):Bool:=(jxc x).all fun y=>!jpr y
theorem inT_kid{w:World}{x y:Sc×Vl}(h:InT w x)(hy:y∈jxc x):InT w y:=by
 obtain⟨i,hi⟩:=List.getElem?_of_mem hy;rw[jv0] at hi;obtain⟨v,hv,rfl⟩:=Option.map_eq_some_iff.1 hi;exact⟨sc_at h.1 i,Vl.Inp.kid h.2 (List.mem_of_getElem? hv)⟩
theorem okS_kid{x y:Sc×Vl}(h:OkS x.1)(hy:y∈jxc x):OkS y.1:=by
 obtain⟨i,hi⟩:=List.getElem?_of_mem hy;rw[jv0] at hi;obtain⟨v,hv,rfl⟩:=Option.map_eq_some_iff.1 hi;exact okS_at h i
theorem jo6(x:Sc×Vl)(w:World)(hin:InT w x)(hok:OkS x.1)(hsafe:jwp x):Calls Tryz.prog 112 #[jwz x] w (jqd w (.bool (jj9 x))):=by
 obtain⟨V,hV⟩:=exq ((w.alloc (.cells (jzv x) 76)).alloc (.cells #[.bool false] 4));have hB0:Below w.heap.size w V:=by rw[<- hV];exact jzj (jzf w _)
 have hsz:V.heap.size=w.heap.size+2:=by rw[<- hV];simp
 have bR:Boxed V (w.heap.size+1) 4 (.bool false):=by (
 have:=Boxed.new (w.alloc (.cells (jzv x) 76)) 4 (.bool false);rw[World.size_alloc,hV] at this;exact this)
 have hcell:∀ i v,(jzv x)[i]?=some v->V.cell? ⟨w.heap.size,i,none⟩=some v:=fun i v h=>by (
 rw[<- hV];exact ((jju (Below.refl (w.heap.size+1) (w.alloc (.cells (jzv x) 76))) (by simp)).cell (p:=⟨w.heap.size,i,none⟩) (by simp)).trans (jz0 i v h))
 have hm:jc4 (w.heap.size+1) V x:=⟨jlp (hin.1.keep hB0) (by omega),(Vl.Inp.keep hin.2 fun b hlt=>hB0.block b hlt).mono fun b hb=>by unfold Bar;omega⟩;have HG:=Lh (jbg x (w.heap.size+1) V hm hsafe);have HM:Hid (∀ y∈jxc x,InT w y/\OkS y.1):=fun y hy=>⟨inT_kid hin hy,okS_kid hok hy⟩
 obtain⟨x0,hx0⟩:∃ x0,x0=x:=⟨_,rfl⟩
 have HX0:Hid (jj9 x=(jxc x0).all fun y=>!jpr y):=by rw[hx0];rfl
 rw[<- hx0] at HM;have hg2:=HG.out;rw[show jxc x=jxc x0 by rw[hx0]] at hg2;have HG2:=Lh hg2;clear hm hin hok hsafe HG hg2 hx0;obtain⟨⟨k,A,c,il⟩,n,m,sA,sc,ss,cA,cc,cs,vA,vc,vs⟩:=x;have e0:=hcell 0 _ rfl;have e1:=hcell 1 _ rfl;have e2:=hcell 2 _ rfl;have e3:=hcell 3 _ rfl;have e4:=hcell 4 _ rfl;have e5:=hcell 5 _ rfl;have e6:=hcell 6 _ rfl;simp only[jwz,jzv,Sc.k,Sc.v1,Vl.n,Vl.m,Vl.s1,Vl.c1,Vl.v1] at e0 e1 e2 e3 e4 e5 e6 HG2 hV ⊢;clear hcell;refine (callsIn_wide (n:=6)).1 (callsIn_of_wp_marks Tryz.func112 rfl trivial ?_ rfl);simp only[Tryz.ntmps112,List.size_toArray,List.length_cons,List.length_nil,Nat.reduceAdd,Nat.reduceSub,Array.replicate_succ,Array.replicate_zero,List.push_toArray,List.append_toArray,List.nil_append,List.cons_append];gi_wp2_with fail
 clear hV;refine⟨trivial,(callsIn_wide.2 HG2.out).mono ?_⟩;clear HG2 e0 e1 e2 e3 e4 e5 e6;rintro e W4 ⟨bt,rfl,hb4,hseq⟩;have HSQ:=Lh hseq;have hs4:=hb4.size;have hB4:Below w.heap.size w W4:=hB0.trans (hb4.mono hB0.size);have bR4:Boxed W4 (w.heap.size+1) 4 (.bool false):=(hb4.block _ (by omega)).trans bR;clear hseq bR hb4 hB0;gi_wp2_with fail
 refine jwf rfl (enters_of Tryz.func70 (by kernel_rfl) rfl) HSQ.out (fun _=>rfl)
   (fun k X=>(Boxed X (w.heap.size+1) 4 (.bool false)/\Below w.heap.size w X)/\((jxc x0).take k).all (fun y=>!jpr y)=true)
   (fun c _ X=>(Boxed X (w.heap.size+1) 4 (.bool false)/\Below w.heap.size w X)/\c = .ret/\(jxc x0).all (fun y=>!jpr y)=false)
   (fun k X Y ⟨⟨h1,h2⟩,h3⟩ hb=>⟨⟨(hb.block _ (by omega)).trans h1,h2.trans (hb.mono (by omega))⟩,h3⟩)
   (fun c k X Y ⟨⟨h1,h2⟩,h3⟩ hb=>⟨⟨(hb.block _ (by omega)).trans h1,h2.trans (hb.mono (by omega))⟩,h3⟩)
   ⟨⟨bR4,hB4⟩,rfl⟩
   (fun y a' X=>∃ bp,a'={ tmps:=#[.agg #[.int .i64 k,.slice A il.length c,.int .u64 n,.int .u64 m,.slice sA ss.length sc,.slice cA cs.length cc,.slice vA vs.length vc],.pointer (some ⟨w.heap.size,0,none⟩),.pointer (some ⟨w.heap.size+1,0,none⟩),.pointer (some ⟨bp,0,none⟩),.agg #[.int .i64 k,.slice A il.length c,.int .u64 n,.int .u64 m,.slice sA ss.length sc,.slice cA cs.length cc,.slice vA vs.length vc],
       .func (.func 70) #[] #[.pointer (some ⟨bt,0,none⟩)],jwz y,undef,undef],defers:=[] }/\∀ i v,(jzv y)[i]?=some v->X.cell? ⟨bp,i,none⟩=some v)
   ?ax ?assign ?body ?done ?stop
 case ax=>(
 rintro y a' _ X Y row ⟨bp,h1,h2⟩ hg hr;exact⟨bp,h1,fun i v h=>cell_kept (h2 i v h) hg (fun r e=>(hr r e).2)⟩)
 case assign=>(
 intro l2 k y X K _ _ hK;obtain⟨⟨yk,yA,yc,yl⟩,yn,ym,yK,yL,yN,yO,yP,yQ,yR,yS,yT⟩:=y;unfold jjb;simp only[jwz,jzv,Sc.k,Sc.v1,Vl.n,Vl.m,Vl.s1,Vl.c1,Vl.v1];gi_wp2
 exact hK _ _ (jzf _ _) ⟨X.heap.size,rfl,fun i v h=>jz0 i v h⟩)
 case body=>(
 rintro l2 k y a' X hXs hx ⟨⟨h1,h2⟩,h4⟩ ⟨bp,rfl,hc⟩;have HX:=Lh hx;have hm:=HM.out y (List.mem_of_getElem? hx);have HR:=Lh (none_any y X (hm.1.later h2) hm.2);obtain⟨q,hq⟩:=exq (jpr y);have HQ:=Lh hq;have HP:=Lh h4;rw[hq] at HR;clear hx hq h4 hm;obtain⟨⟨yk,yA,yc,yl⟩,yn,ym,yK,yL,yN,yO,yP,yQ,yR,yS,yT⟩:=y;have e0:=hc 0 _ rfl;have e1:=hc 1 _ rfl;have e2:=hc 2 _ rfl;have e3:=hc 3 _ rfl;have e4:=hc 4 _ rfl;have e5:=hc 5 _ rfl;have e6:=hc 6 _ rfl;simp only[jwz,jzv,Sc.k,Sc.v1,Vl.n,Vl.m,Vl.s1,Vl.c1,Vl.v1] at e0 e1 e2 e3 e4 e5 e6 HR ⊢;clear hc;gi_wp2_with fail
 refine⟨trivial,rfl,(CallsIn.inRound l2 (callsIn_wide.2 HR.out)).mono ?_⟩;clear HR e0 e1 e2 e3 e4 e5 e6;rintro e X5 ⟨rfl,hb5⟩;have g1:Boxed X5 (w.heap.size+1) 4 (.bool false):=(hb5.block _ (by omega)).trans h1;have hB5:Below w.heap.size w X5:=h2.trans (hb5.mono h2.size);cases q with
 | false=>(
 gi_wp2_with fail
 exact⟨KN.of_below hb5,⟨⟨g1,hB5⟩,by rw[jqx HX.out,HP.out,HQ.out];rfl⟩,trivial⟩)
 | true=>(
 have hcl5:=g1.cell;have hcf5:=g1.frozen;gi_wp2_with fail
 exact⟨(KF.of_below hb5).trans (KF.set (by omega) _),⟨g1.set _,hB5.setCell (by first | omega | (simp;omega) | simp) _⟩,rfl,jwn HX.out (by rw[HQ.out];rfl)⟩))
 case done=>(
 rintro E X hE ⟨⟨hR,hB⟩,hp⟩ hK;have hcl:=hR.cell;have hcf:=hR.frozen;rw[List.take_length] at hp;have HP:=Lh hp;clear hp;gi_wp2
 have hne:w.heap.size+1≠E:=by omega
 have hK2:(X.setCell ⟨w.heap.size+1,0,none⟩ (.bool true)).heap[E]?=some (.deferred (some [])):=(Below.heap_setCell _ _ _ _ (Ne.symm hne)).trans hK;refine⟨by simp,.inl ⟨_,_,rfl,run_takeDeferred hK2,?_⟩⟩;refine⟨_,jzx rfl rfl _ _ (w.heap.size+1) (.bool true) rfl ((World.cell?_of_block (World.putObj_heap_other hne)).trans (hR.set (.bool true)).cell),?_⟩;rw[HX0.out,HP.out];exact⟨rfl,(hB.setCell (by first | omega | (simp;omega) | simp) _).trans ⟨rfl,rfl,rfl,by simp,fun q hq=>World.putObj_heap_other (by omega)⟩⟩)
 case stop=>(
 rintro E c k X hE hk ⟨⟨hR,hB⟩,rfl,hp⟩ hK;have hcl:=hR.cell;have HP:=Lh hp;clear hp;gi_wp2
 have hne:w.heap.size+1≠E:=by omega
 refine⟨by simp,.inl ⟨_,_,rfl,run_takeDeferred hK,?_⟩⟩;refine⟨_,jzx rfl rfl _ _ (w.heap.size+1) (.bool false) rfl ((World.cell?_of_block (World.putObj_heap_other hne)).trans hcl),?_⟩;rw[HX0.out,HP.out];exact⟨rfl,hB.trans ⟨rfl,rfl,rfl,by simp,fun q hq=>World.putObj_heap_other (by omega)⟩⟩)
end V4
namespace S2
open Go.RowKit
theorem jrt{d:Int}(h0:0<=d)(h1:d<=1000):wrap64 (d+1)=d+1:=by
 unfold wrap64;omega
theorem good_pre:∀ (s:Sc) (n:Nat) (d:Int),d=17 - n->n<=16->(jpl s d).all jg3=isT n s.er:=by
 intro s;induction s using Sc.ind with
 | h k A c l ih=>(
 intro n d hd hn;rw[jpl,List.all_cons];cases n with
 | zero=>(
 have:d=17:=by omega
 subst this;rfl)
 | succ n=>(
 have hl:∀ l':List Sc,(∀ x∈l',x∈l)->(preL l' (wrap64 (d+1))).all jg3=l'.all fun x=>isT n x.er:=by (
 intro l';induction l' with
 | nil=>intro _;rfl
 | cons x l' ih'=>(
 intro hm;rw[preL,List.all_append,List.all_cons,ih' (fun y hy=>hm y (List.mem_cons_of_mem _ hy)),jrt (by omega) (by omega),ih x (hm x (List.mem_cons_self ..)) n (d+1) (by omega) (by omega)]))
 rw[hl l (fun _ h=>h),jv2];have e1:jg3 (d,Sc.mk k A c l)=decide ((l.length:Int)=arI k):=by (
 show (decide (d<=16) && decide ((l.length:Int)=arI k))=_
 rw[decide_eq_true (by omega),Bool.true_and])
 rw[e1]))
def dpD:Int->List (Int×Sc)->Int
  | m,[]=>m
  | m,x :: r=>if 16<max m x.1 then max m x.1 else dpD (max m x.1) r
def jpn(e m:Int)(r:List (Int×Sc)):Int:=if 16<e then e else dpD (max m e) r
theorem deep_pre:∀ (s:Sc) (n:Nat) (d m:Int) (r:List (Int×Sc)),d=17 - n->n<=16->d - 1<=m->m<=16->dpD m (jpl s d++r)=jpn (d - 1+jje (n+1) s.er) m r:=by
 intro s;induction s using Sc.ind with
 | h k A c l ih=>(
 intro n d m r hd hn hm0 hm1;rw[jpl,List.cons_append,dpD];cases n with
 | zero=>(
 have:d=17:=by omega
 subst this;have h1:jje 1 (Sc.mk k A c l).er=1:=by (
 rw[jje];have:(((Sc.mk k A c l).er.ins).map (jje 0)).foldl max 0<=0:=jq6.2 ⟨Nat.le_refl _,fun x hx=>by (
 obtain⟨y,_,rfl⟩:=List.mem_map.1 hx;exact Nat.le_refl _)⟩
 omega)
 show (if 16<max m 17 then max m 17 else _)=jpn (17 - 1+(jje 1 (Sc.mk k A c l).er:Nat)) m r
 rw[h1,if_pos (by omega),jpn,if_pos (by omega)];omega)
 | succ n=>(
 show (if 16<max m d then max m d else dpD (max m d) (preL l (wrap64 (d+1))++r))=_
 rw[if_neg (by omega),jrt (by omega) (by omega)];have hl:∀ (l':List Sc),(∀ x∈l',x∈l)->∀ (m':Int),d<=m'->m'<=16->dpD m' (preL l' (d+1)++r)=jpn (d+(((l'.map fun x=>jje (n+1) x.er).foldl max 0:Nat):Int)) m' r:=by (
 intro l';induction l' with
 | nil=>(
 intro _ m' h1 h2;show dpD m' r=jpn (d+((0:Nat):Int)) m' r
 rw[jpn,if_neg (by omega)];congr 1
 omega)
 | cons x l' ih'=>(
 intro hm m' h1 h2;have hmx:∀ y∈l',y∈l:=fun y hy=>hm y (List.mem_cons_of_mem _ hy)
 have hdx:=jm7 (n+1) x.er;have hdl:(l'.map fun x=>jje (n+1) x.er).foldl max 0<=n+1:=jq6.2 ⟨by omega,fun y hy=>by (
 obtain⟨z,_,rfl⟩:=List.mem_map.1 hy;exact jm7 _ _)⟩
 rw[preL,List.append_assoc,ih x (hm x (List.mem_cons_self ..)) n (d+1) m' _ (by omega) (by omega) (by omega) h2];rw[List.map_cons,List.foldl_cons,jcm];unfold jpn;by_cases hx:16<d+1 - 1+(jje (n+1) x.er:Int)
 ·(
 rw[if_pos hx,if_pos (by omega)];omega)
 ·(
 rw[if_neg hx,ih' hmx _ (by omega) (by omega)];unfold jpn;by_cases hy:16<d+(((l'.map fun x=>jje (n+1) x.er).foldl max 0:Nat):Int)
 ·(
 rw[if_pos hy,if_pos (by omega)];omega)
 ·(
 rw[if_neg hy,if_neg (by omega)];congr 1
 omega))))
 rw[hl l (fun _ h=>h) (max m d) (by omega) (by omega)];have e:jje (n+1+1) (Sc.mk k A c l).er=(l.map fun x=>jje (n+1) x.er).foldl max 0+1:=by (
 rw[jje,er_ins,List.map_map];rfl)
 rw[e];unfold jpn;by_cases hx:16<d+(((l.map fun x=>jje (n+1) x.er).foldl max 0:Nat):Int)
 ·(
 rw[if_pos hx,if_pos (by omega)];omega)
 ·(
 rw[if_neg hx,if_neg (by omega)];congr 1
 omega)))
theorem deep_all(s:Sc):dpD 0 (jpl s 1)=jje 17 s.er:=by
 have:=deep_pre s 16 1 0 [] (by omega) (by omega) (by omega) (by omega);rw[List.append_nil] at this;rw[this];have hd:=jm7 17 s.er;have hd1:1<=jje 17 s.er:=by rw[jje];omega
 unfold jpn;by_cases h:16<(1:Int) - 1+(jje (16+1) s.er:Nat)
 ·rw[if_pos h];show (1:Int) - 1+(jje 17 s.er:Nat)=_;omega
 ·rw[if_neg h];show max 0 ((1:Int) - 1+(jje 17 s.er:Nat))=_;omega
theorem jv9(s:Sc)(w:World)(hin:s.In w.heap.size w):Calls Tryz.prog 24 #[s.val] w (jqd w (.bool (isT 16 s.er))):=by
 rw[<- good_pre s 16 1 (by omega) (by omega)];exact Is_pre s w hin
end S2
namespace V4
open Go.RowKit Go.Shelf
open S2 (Sc isT jzf)
open C3 (isC jzj)
theorem formed_4(A:Option Addr)(c:Nat)(il:List Sc)(n m:Int)(sA:Option Addr)(sc:Nat)(ss:List Str)(cA:Option Addr)(cc:Nat)(cs:List Ck)(vA:Option Addr)(vc:Nat)(vs:List Vl)(w:World)(hin:InT w (Sc.mk 4 A c il,Vl.mk n m sA sc ss cA cc cs vA vc vs))(hok:OkS (Sc.mk 4 A c il)):Calls Tryz.prog 73 #[.agg #[.int .i64 4,.slice A il.length c,.int .u64 n,.int .u64 m,.slice sA ss.length sc,.slice cA cs.length cc,.slice vA vs.length vc]] w (jqd w (.bool (jw1 ss && (decide (vs.length=ss.length) && jj9 (Sc.mk 4 A c il,Vl.mk n m sA sc ss cA cc cs vA vc vs))))):=by
 obtain⟨V,hV⟩:=exq (((w.alloc (.cells #[.int .i64 4,.slice A il.length c,.int .u64 n,.int .u64 m,.slice sA ss.length sc,.slice cA cs.length cc,.slice vA vs.length vc] 76)).alloc (.cells #[.int .u64 n,.int .u64 m,.slice sA ss.length sc,.slice cA cs.length cc,.slice vA vs.length vc] 30)));have hB0:Below w.heap.size w V:=by rw[<- hV];exact jzj (jzj (Below.refl _ _))
 have hsz:V.heap.size=w.heap.size+2:=by rw[<- hV];simp
 have hcT:∀ i v,(jzv (Sc.mk 4 A c il,Vl.mk n m sA sc ss cA cc cs vA vc vs))[i]?=some v->V.cell? ⟨w.heap.size,i,none⟩=some v:=fun i v h=>by (
 rw[<- hV];exact ((jju (Below.refl (w.heap.size+1) (w.alloc (.cells (jzv (Sc.mk 4 A c il,Vl.mk n m sA sc ss cA cc cs vA vc vs)) 76))) (by simp)).cell (p:=⟨w.heap.size,i,none⟩) (by simp)).trans (jz0 i v h))
 have hcV:∀ i v,(#[.int .u64 n,.int .u64 m,.slice sA ss.length sc,.slice cA cs.length cc,.slice vA vs.length vc]:Array Value)[i]?=some v->V.cell? ⟨w.heap.size+1,i,none⟩=some v:=fun i v h=>by (
 rw[<- hV];exact jxj i v h)
 have hp:=(hin.2.later hB0).out;have HC:=Lh (jum sA sc ss V hp.sl (by have:=hp.sb;omega) hp.st);have HF:Hid (∀ Z,Below V.heap.size V Z->Calls Tryz.prog 112 #[jwz (Sc.mk 4 A c il,Vl.mk n m sA sc ss cA cc cs vA vc vs)] Z (jqd Z (.bool (jj9 (Sc.mk 4 A c il,Vl.mk n m sA sc ss cA cc cs vA vc vs))))):=fun Z hZ =>
   jo6 _ Z ((hin.later hB0).later hZ) hok (.inr (jdk hok (.inl rfl)))
 obtain⟨fl,hfl⟩:=exq (jj9 (Sc.mk 4 A c il,Vl.mk n m sA sc ss cA cc cs vA vc vs));obtain⟨q,hq⟩:=exq (jw1 ss);rw[hfl] at HF ⊢;rw[hq] at HC ⊢;clear hp hin hok hfl hq;have t0:=hcT 0 _ rfl;have t1:=hcT 1 _ rfl;have t2:=hcT 2 _ rfl;have t3:=hcT 3 _ rfl;have t4:=hcT 4 _ rfl;have t5:=hcT 5 _ rfl;have t6:=hcT 6 _ rfl;have g2:=hcV 2 _ rfl;have g4:=hcV 4 _ rfl;simp only[jwz,jzv,Sc.k,Sc.v1,Vl.n,Vl.m,Vl.s1,Vl.c1,Vl.v1] at t0 t1 t2 t3 t4 t5 t6 HF;clear hcV hcT;go_enter Tryz.func73,Tryz.ntmps73;go_wp2_with fail;clear hV;refine HC.out.mono ?_;clear HC;rintro e w3 ⟨rfl,hb⟩;have HF3:=Lh (HF.out w3 hb);clear HF;have hB3:=hB0.trans (hb.mono hB0.size);replace t0:=(hb.cell (p:=⟨w.heap.size,0,none⟩) (by simp only;omega)).trans t0;replace t1:=(hb.cell (p:=⟨w.heap.size,1,none⟩) (by simp only;omega)).trans t1;replace t2:=(hb.cell (p:=⟨w.heap.size,2,none⟩) (by simp only;omega)).trans t2;replace t3:=(hb.cell (p:=⟨w.heap.size,3,none⟩) (by simp only;omega)).trans t3;replace t4:=(hb.cell (p:=⟨w.heap.size,4,none⟩) (by simp only;omega)).trans t4;replace t5:=(hb.cell (p:=⟨w.heap.size,5,none⟩) (by simp only;omega)).trans t5;replace t6:=(hb.cell (p:=⟨w.heap.size,6,none⟩) (by simp only;omega)).trans t6;replace g2:=(hb.cell (p:=⟨w.heap.size+1,2,none⟩) (by simp only;omega)).trans g2;replace g4:=(hb.cell (p:=⟨w.heap.size+1,4,none⟩) (by simp only;omega)).trans g4;clear hb hB0 hsz;cases q with
 | false=>(
 go_wp2_with fail;go_ret;exact⟨rfl,hB3⟩)
 | true=>(
 by_cases hl:vs.length=ss.length
 ·(
 have kl:((vs.length:Int) == (ss.length:Int))=true:=ibeq (by omega);have HLL:=Lh hl;clear hl;go_wp2_with fail;refine HF3.out.mono ?_;rintro e w4 ⟨rfl,hb4⟩;go_wp2_with fail;go_ret;exact⟨jzi (by rw[decide_eq_true HLL.out];rfl),hB3.trans (hb4.mono hB3.size)⟩)
 ·(
 have kl:((vs.length:Int) == (ss.length:Int))=false:=jo2 (by omega);have HLL:=Lh hl;clear hl;go_wp2_with fail;go_ret;exact⟨jzi (by rw[decide_eq_false HLL.out];rfl),hB3⟩))
def jy5(x:Sc×Vl):Bool:=jwj x.1.k x.2.n x.2.m x.2.ss.length x.2.cs.length x.2.vs.length && jbn x.1.k x.2.n x.2.m x.2.ss x.2.cs x.2.vs.length (jj9 x)
theorem jo4(k:Int)(A:Option Addr)(c:Nat)(il:List Sc)(n m:Int)(sA:Option Addr)(sc:Nat)(ss:List Str)(cA:Option Addr)(cc:Nat)(cs:List Ck)(vA:Option Addr)(vc:Nat)(vs:List Vl)(w:World)(hin:InT w (Sc.mk k A c il,Vl.mk n m sA sc ss cA cc cs vA vc vs))(hok:OkS (Sc.mk k A c il))(fl:Bool)(hfl:jj9 (Sc.mk k A c il,Vl.mk n m sA sc ss cA cc cs vA vc vs)=fl):Calls Tryz.prog 73 #[.agg #[.int .i64 k,.slice A il.length c,.int .u64 n,.int .u64 m,.slice sA ss.length sc,.slice cA cs.length cc,.slice vA vs.length vc]] w (jqd w (.bool (jbn k n m ss cs vs.length fl))):=by
 unfold jbn;by_cases h1:k=1
 ·subst h1;exact formed_1 A c il n m sA sc ss cA cc cs vA vc vs w
 rw[if_neg h1];by_cases h2:k=2
 ·subst h2;exact formed_2 A c il n m sA sc ss cA cc cs vA vc vs w hin.2
 rw[if_neg h2];by_cases h3:k=3
 ·subst h3;exact formed_3 A c il n m sA sc ss cA cc cs vA vc vs w hin.2
 rw[if_neg h3];by_cases h4:k=4
 ·(
 subst h4;have:=formed_4 A c il n m sA sc ss cA cc cs vA vc vs w hin hok;rw[hfl] at this;exact this)
 rw[if_neg h4];by_cases h5:k=5
 ·subst h5;exact jti A c il n m sA sc ss cA cc cs vA vc vs w
 rw[if_neg h5];by_cases h6:k=6
 ·subst h6;exact formed_6 A c il n m sA sc ss cA cc cs vA vc vs w hin.2
 rw[if_neg h6];by_cases h7:k=7
 ·subst h7;exact formed_7 A c il n m sA sc ss cA cc cs vA vc vs w hin.2
 rw[if_neg h7];by_cases h8:k=8
 ·subst h8;exact formed_8 A c il n m sA sc ss cA cc cs vA vc vs w hin.2
 rw[if_neg h8];exact formed_0 k (by omega) A c il n m sA sc ss cA cc cs vA vc vs w
theorem jr7(x:Sc×Vl)(w:World)(hin:InT w x)(hok:OkS x.1):Calls Tryz.prog 39 #[jwz x] w (jqd w (.bool (jy5 x))):=by
 obtain⟨⟨k,A,c,il⟩,n,m,sA,sc,ss,cA,cc,cs,vA,vc,vs⟩:=x;exact jlr k A c il n m sA sc ss cA cc cs vA vc vs w _ _ (fun Z=>juo k n m sA sc ss.length cA cc cs.length vA vc vs.length Z)
   (fun Z hZ=>jo4 k A c il n m sA sc ss cA cc cs vA vc vs Z (hin.later hZ) hok _ rfl)
theorem jog{x:Sc×Vl}(h:OkS x.1)(hx:jy5 x=true):jwp x:=by
 by_cases hk:x.1.k=4\/x.1.k=5\/x.1.k=8
 ·exact .inr (jdk h hk)
 ·(
 refine .inl ?_;unfold jy5 jwj at hx;rw[Bool.and_eq_true] at hx;have h0:=hx.1;simp only[show ¬ x.1.k=4 by omega,show ¬ x.1.k=5 by omega,show ¬ x.1.k=8 by omega,if_false] at h0;have:∀ (p q r s:Bool),jqa x.2.n x.2.m x.2.ss.length x.2.cs.length x.2.vs.length p q r s false=true->x.2.vs=[]:=fun p q r s h=>by (
 unfold jqa at h;simp only[Bool.and_eq_true,Bool.false_or,decide_eq_true_eq] at h;exact List.eq_nil_of_length_eq_zero h.2.2.2.2)
 split at h0
 ·exact this _ _ _ _ h0
 split at h0
 ·exact this _ _ _ _ h0
 split at h0
 ·exact this _ _ _ _ h0
 split at h0
 ·exact this _ _ _ _ h0
 split at h0
 ·exact this _ _ _ _ h0
 ·exact this _ _ _ _ h0)
def jws(x:Sc×Vl):Bool:=(jjl x.2 x.1).pre.all jy5
theorem jpz(x:Sc×Vl)(w:World)(hin:InT w x)(hok:OkS x.1)(b1 b2:Nat)(w':World)(hb:Below w.heap.size w w')
    (hs:∀ D w2,Below w'.heap.size w' w2->w.heap.size<=D->D<w2.heap.size->jtu Tryz.prog 68 #[.pointer (some ⟨b1,0,none⟩),.pointer (some ⟨b2,0,none⟩)] jjb D jwp (jjl x.2 x.1).pre w2) :
    Calls Tryz.prog 36 #[.func (.func 68) #[] #[.pointer (some ⟨b1,0,none⟩),.pointer (some ⟨b2,0,none⟩)],.func (.func 39) #[] #[]] w' (jqd w' (.bool (jws x))) :=
  jdx jy5 (jjl x.2 x.1).pre (fun y hy W hW=>jr7 y W hW (okT x.2 x.1 hok y hy)) jwp (fun y hy h=>jog (okT x.2 x.1 hok y hy) h) _ _ (enters_of Tryz.func68 (by kernel_rfl) rfl) w'
    (fun D w2 hb2 hD hD2=>hs D w2 hb2 (leT hb.size hD) hD2) (fun y hy=>jh5 x.2 x.1 (hin.later hb) y hy)
theorem jdm(x:Sc×Vl)(w:World)(hin:InT w x):Calls Tryz.prog 37 #[jwz x,.func (.func 38) #[] #[]] w (jn1 (jjl x.2 x.1) w):=by
 have:=jl4 (jjl x.2 x.1) w (fun D hD=>goodT x.2 x.1 (hin.2.bar hD) (jlp hin.1 hD));rw[jvp] at this;exact this
theorem Is_walk(s:Sc)(v:Vl)(w:World)(hs:s.In w.heap.size w)(hv:v.In w):Calls Tryz.prog 20 #[s.val,v.val] w (jqd w (.bool (isT 16 s.er && jws (s,v)))):=by
 obtain⟨V,hV⟩:=exq (((w.alloc (.cells #[.int .i64 s.k,s.v1] 24)).alloc (.cells #[.int .u64 v.n,.int .u64 v.m,v.s1,v.c1,v.v1] 30)));have hB0:Below w.heap.size w V:=by rw[<- hV];exact jzj (jzj (Below.refl _ _))
 have hsz:V.heap.size=w.heap.size+2:=by rw[<- hV];simp
 have hcS:∀ i u,(#[.int .i64 s.k,s.v1]:Array Value)[i]?=some u->V.cell? ⟨w.heap.size,i,none⟩=some u:=fun i u h=>by (
 rw[<- hV];exact ((jju (Below.refl (w.heap.size+1) (w.alloc (.cells #[.int .i64 s.k,s.v1] 24))) (by simp)).cell (p:=⟨w.heap.size,i,none⟩) (by simp)).trans (jz0 i u h))
 have hcV:∀ i u,(#[.int .u64 v.n,.int .u64 v.m,v.s1,v.c1,v.v1]:Array Value)[i]?=some u->V.cell? ⟨w.heap.size+1,i,none⟩=some u:=fun i u h=>by (
 rw[<- hV];exact jxj i u h)
 have hin:InT w (s,v):=⟨hs,hv⟩;have HI:=Lh (S2.jv9 s V (hin.later hB0).1);obtain⟨q,hq⟩:=exq (isT 16 s.er);have HQ:=Lh hq;have HN:Hid (∀ Z,Below V.heap.size V Z->Calls Tryz.prog 37 #[jwz (s,v),.func (.func 38) #[] #[]] Z (jn1 (jjl v s) Z)):=fun Z hZ=>jdm (s,v) Z ((hin.later hB0).later hZ)
 have HE:Hid (q=true->∀ (Z:World),Below V.heap.size V Z->∀ (b1 b2:Nat) (w':World),Below Z.heap.size Z w'->(∀ D w2,Below w'.heap.size w' w2->Z.heap.size<=D->D<w2.heap.size->jtu Tryz.prog 68 #[.pointer (some ⟨b1,0,none⟩),.pointer (some ⟨b2,0,none⟩)] jjb D jwp (jjl v s).pre w2) ->
     Calls Tryz.prog 36 #[.func (.func 68) #[] #[.pointer (some ⟨b1,0,none⟩),.pointer (some ⟨b2,0,none⟩)],.func (.func 39) #[] #[]] w' (jqd w' (.bool (jws (s,v))))):=fun hq1 Z hZ b1 b2 w' hb hs =>
   jpz (s,v) Z ((hin.later hB0).later hZ) (.inl ⟨16,hq.trans hq1⟩) b1 b2 w' hb hs
 rw[hq] at HI ⊢;obtain⟨R,hR⟩:=exq (jws (s,v));rw[hR] at HE ⊢;clear hin hs hv hq hR;have a0:=hcS 0 _ rfl;have a1:=hcS 1 _ rfl;have g0:=hcV 0 _ rfl;have g1:=hcV 1 _ rfl;have g2:=hcV 2 _ rfl;have g3:=hcV 3 _ rfl;have g4:=hcV 4 _ rfl;clear hcS hcV;obtain⟨k,A,c,il⟩:=s;obtain⟨n,m,sA,sc,ss,cA,cc,cs,vA,vc,vs⟩:=v;simp only[jzh,S2.jzh,jwz,jzv,Sc.k,Sc.v1,Vl.n,Vl.m,Vl.s1,Vl.c1,Vl.v1] at a0 a1 g0 g1 g2 g3 g4 HI HN hV ⊢;go_enter Tryz.func20,Tryz.ntmps20;go_wp2_with fail;clear hV;refine HI.out.mono ?_;clear HI;rintro e w3 ⟨rfl,hb⟩;have hB3:=hB0.trans (hb.mono hB0.size);replace a0:=(hb.cell (p:=⟨w.heap.size,0,none⟩) (by simp only;omega)).trans a0;replace a1:=(hb.cell (p:=⟨w.heap.size,1,none⟩) (by simp only;omega)).trans a1;replace g0:=(hb.cell (p:=⟨w.heap.size+1,0,none⟩) (by simp only;omega)).trans g0;replace g1:=(hb.cell (p:=⟨w.heap.size+1,1,none⟩) (by simp only;omega)).trans g1;replace g2:=(hb.cell (p:=⟨w.heap.size+1,2,none⟩) (by simp only;omega)).trans g2;replace g3:=(hb.cell (p:=⟨w.heap.size+1,3,none⟩) (by simp only;omega)).trans g3;replace g4:=(hb.cell (p:=⟨w.heap.size+1,4,none⟩) (by simp only;omega)).trans g4;have HN3:=Lh (HN.out w3 hb);have HE3:=Lh fun h=>HE.out h w3 hb
 clear hb hB0 HN HE hsz;cases q with
 | false=>(
 go_wp2_with fail;go_ret;exact⟨rfl,hB3⟩)
 | true=>(
 go_wp2_with fail;refine HN3.out.mono ?_;clear HN3;rintro e w4 ⟨b1,b2,rfl,hb4,hseq⟩;have HE4:=Lh (HE3.out (by trivial) b1 b2 w4 hb4 hseq);clear HE3 hseq;go_wp2_with fail;refine HE4.out.mono ?_;rintro e w5 ⟨rfl,hb5⟩;go_wp2_with fail;go_ret;exact⟨rfl,hB3.trans ((hb4.trans (hb5.mono hb4.size)).mono hB3.size)⟩)
end V4
end Go.Proofs.YtobggoephhjofaaGreatDoor
