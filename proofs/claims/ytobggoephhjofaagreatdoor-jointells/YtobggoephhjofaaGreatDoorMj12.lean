/- A part. No condition. -/
import Derived.Test.YtobggoephhjofaaGreatDoorMj11
set_option maxRecDepth 100000
set_option maxHeartbeats 16000000
namespace Go.Proofs.YtobggoephhjofaaGreatDoor
namespace V4
open Go.RowKit
theorem jpc(n m:Int)(sA:Option Addr)(sc a:Nat)(cA:Option Addr)(cc b:Nat)(vA:Option Addr)(vc d:Nat)(w:World):Calls Tryz.prog 71 #[.agg #[.int .u64 n,.int .u64 m,.slice sA a sc,.slice cA b cc,.slice vA d vc]] w (jqd w (.bool (jqa n m a b d false false false false false))):=by
 have belB:Below w.heap.size w (w.alloc (.cells #[.int .u64 n,.int .u64 m,.slice sA a sc,.slice cA b cc,.slice vA d vc] 30)):=C3.jzj (Below.refl _ _);by_cases h0:n=0
 case neg=>(
 have HR:Hid (jqa n m a b d false false false false false=false):=by show jqa _ _ _ _ _ _ _ _ _ _=_;simp[jqa,h0]
 have k0:(n == 0)=false:=by simp;omega
 clear h0;go_enter Tryz.func71,Tryz.ntmps71;go_wp2_with fail;go_ret;exact⟨jzi HR.out.symm,belB⟩)
 by_cases h1:m=0
 case neg=>(
 have HR:Hid (jqa n m a b d false false false false false=false):=by show jqa _ _ _ _ _ _ _ _ _ _=_;simp[jqa,h0,h1]
 have k0:(n == 0)=true:=by simp[h0]
 have k1:(m == 0)=false:=by simp;omega
 clear h0 h1;go_enter Tryz.func71,Tryz.ntmps71;go_wp2_with fail;go_ret;exact⟨jzi HR.out.symm,belB⟩)
 by_cases h2:a=0
 case neg=>(
 have HR:Hid (jqa n m a b d false false false false false=false):=by show jqa _ _ _ _ _ _ _ _ _ _=_;simp[jqa,h0,h1,h2]
 have k0:(n == 0)=true:=by simp[h0]
 have k1:(m == 0)=true:=by simp[h1]
 have k2:((a:Int) == 0)=false:=by simp;omega
 clear h0 h1 h2;go_enter Tryz.func71,Tryz.ntmps71;go_wp2_with fail;go_ret;exact⟨jzi HR.out.symm,belB⟩)
 by_cases h3:b=0
 case neg=>(
 have HR:Hid (jqa n m a b d false false false false false=false):=by show jqa _ _ _ _ _ _ _ _ _ _=_;simp[jqa,h0,h1,h2,h3]
 have k0:(n == 0)=true:=by simp[h0]
 have k1:(m == 0)=true:=by simp[h1]
 have k2:((a:Int) == 0)=true:=by simp;omega
 have k3:((b:Int) == 0)=false:=by simp;omega
 clear h0 h1 h2 h3;go_enter Tryz.func71,Tryz.ntmps71;go_wp2_with fail;go_ret;exact⟨jzi HR.out.symm,belB⟩)
 by_cases h4:d=0
 case neg=>(
 have HR:Hid (jqa n m a b d false false false false false=false):=by show jqa _ _ _ _ _ _ _ _ _ _=_;simp[jqa,h0,h1,h2,h3,h4]
 have k0:(n == 0)=true:=by simp[h0]
 have k1:(m == 0)=true:=by simp[h1]
 have k2:((a:Int) == 0)=true:=by simp;omega
 have k3:((b:Int) == 0)=true:=by simp;omega
 have k4:((d:Int) == 0)=false:=by simp;omega
 clear h0 h1 h2 h3 h4;go_enter Tryz.func71,Tryz.ntmps71;go_wp2_with fail;go_ret;exact⟨jzi HR.out.symm,belB⟩)
 have HR:Hid (jqa n m a b d false false false false false=true):=by show jqa _ _ _ _ _ _ _ _ _ _=_;simp[jqa,h0,h1,h2,h3,h4]
 have k0:(n == 0)=true:=by simp[h0]
 have k1:(m == 0)=true:=by simp[h1]
 have k2:((a:Int) == 0)=true:=by simp[h2]
 have k3:((b:Int) == 0)=true:=by simp[h3]
 have k4:((d:Int) == 0)=true:=by simp[h4]
 clear h0 h1 h2 h3 h4;go_enter Tryz.func71,Tryz.ntmps71;go_wp2_with fail;go_ret;exact⟨jzi HR.out.symm,belB⟩
def jnz(w:World)(v:Bool)(e:Ending)(w':World):Prop:=∃ (n m:Int) (sA:Option Addr) (sc a:Nat) (cA:Option Addr) (cc b:Nat) (vA:Option Addr) (vc d:Nat),e = .returned (.agg #[.int .u64 n,.int .u64 m,.slice sA a sc,.slice cA b cc,.slice vA d vc])/\jqa n m a b d false false false false false=v/\Below w.heap.size w w'
theorem jt8(n m:Int)(sA:Option Addr)(sc a:Nat)(cA:Option Addr)(cc b:Nat)(vA:Option Addr)(vc d:Nat)(w:World):Calls Tryz.prog 72 #[.int .i64 1,.agg #[.int .u64 n,.int .u64 m,.slice sA a sc,.slice cA b cc,.slice vA d vc]] w (jnz w (jqa n m a b d true false false false false)):=by
 go_enter Tryz.func72,Tryz.ntmps72;go_wp2_with fail;refine bodyPost_ret (jzq rfl _ _ (w.heap.size+1) (.int .u64 0) (.int .u64 m) (.slice sA a sc) (.slice cA b cc) (.slice vA d vc) rfl (by go_simp) (by go_simp) (by go_simp) (by go_simp) (by go_simp)) rfl ?_;refine⟨_,_,_,_,_,_,_,_,_,_,_,rfl,by simp[jqa],?_⟩;exact C3.jzj (C3.jzj (Below.refl _ _))
theorem jt7(n m:Int)(sA:Option Addr)(sc a:Nat)(cA:Option Addr)(cc b:Nat)(vA:Option Addr)(vc d:Nat)(w:World):Calls Tryz.prog 72 #[.int .i64 2,.agg #[.int .u64 n,.int .u64 m,.slice sA a sc,.slice cA b cc,.slice vA d vc]] w (jnz w (jqa n m a b d true false false false false)):=by
 go_enter Tryz.func72,Tryz.ntmps72;go_wp2_with fail;refine bodyPost_ret (jzq rfl _ _ (w.heap.size+1) (.int .u64 0) (.int .u64 m) (.slice sA a sc) (.slice cA b cc) (.slice vA d vc) rfl (by go_simp) (by go_simp) (by go_simp) (by go_simp) (by go_simp)) rfl ?_;refine⟨_,_,_,_,_,_,_,_,_,_,_,rfl,by simp[jqa],?_⟩;exact C3.jzj (C3.jzj (Below.refl _ _))
theorem jt6(n m:Int)(sA:Option Addr)(sc a:Nat)(cA:Option Addr)(cc b:Nat)(vA:Option Addr)(vc d:Nat)(w:World):Calls Tryz.prog 72 #[.int .i64 3,.agg #[.int .u64 n,.int .u64 m,.slice sA a sc,.slice cA b cc,.slice vA d vc]] w (jnz w (jqa n m a b d false false true false false)):=by
 go_enter Tryz.func72,Tryz.ntmps72;go_wp2_with fail;refine bodyPost_ret (jzq rfl _ _ (w.heap.size+1) (.int .u64 n) (.int .u64 m) (.slice none 0 0) (.slice cA b cc) (.slice vA d vc) rfl (by go_simp) (by go_simp) (by go_simp) (by go_simp) (by go_simp)) rfl ?_;refine⟨_,_,_,_,_,_,_,_,_,_,_,rfl,by simp[jqa],?_⟩;exact C3.jzj (C3.jzj (Below.refl _ _))
theorem jt5(n m:Int)(sA:Option Addr)(sc a:Nat)(cA:Option Addr)(cc b:Nat)(vA:Option Addr)(vc d:Nat)(w:World):Calls Tryz.prog 72 #[.int .i64 4,.agg #[.int .u64 n,.int .u64 m,.slice sA a sc,.slice cA b cc,.slice vA d vc]] w (jnz w (jqa n m a b d false false true false true)):=by
 go_enter Tryz.func72,Tryz.ntmps72;go_wp2_with fail;refine bodyPost_ret (jzq rfl _ _ (w.heap.size+1) (.int .u64 n) (.int .u64 m) (.slice none 0 0) (.slice cA b cc) (.slice none 0 0) rfl (by go_simp) (by go_simp) (by go_simp) (by go_simp) (by go_simp)) rfl ?_;refine⟨_,_,_,_,_,_,_,_,_,_,_,rfl,by simp[jqa],?_⟩;exact C3.jzj (C3.jzj (Below.refl _ _))
theorem jp5(n m:Int)(sA:Option Addr)(sc a:Nat)(cA:Option Addr)(cc b:Nat)(vA:Option Addr)(vc d:Nat)(w:World):Calls Tryz.prog 72 #[.int .i64 5,.agg #[.int .u64 n,.int .u64 m,.slice sA a sc,.slice cA b cc,.slice vA d vc]] w (jnz w (jqa n m a b d false false false false true)):=by
 go_enter Tryz.func72,Tryz.ntmps72;go_wp2_with fail;refine bodyPost_ret (jzq rfl _ _ (w.heap.size+1) (.int .u64 n) (.int .u64 m) (.slice sA a sc) (.slice cA b cc) (.slice none 0 0) rfl (by go_simp) (by go_simp) (by go_simp) (by go_simp) (by go_simp)) rfl ?_;refine⟨_,_,_,_,_,_,_,_,_,_,_,rfl,by simp[jqa],?_⟩;exact C3.jzj (C3.jzj (Below.refl _ _))
theorem jt4(n m:Int)(sA:Option Addr)(sc a:Nat)(cA:Option Addr)(cc b:Nat)(vA:Option Addr)(vc d:Nat)(w:World):Calls Tryz.prog 72 #[.int .i64 6,.agg #[.int .u64 n,.int .u64 m,.slice sA a sc,.slice cA b cc,.slice vA d vc]] w (jnz w (jqa n m a b d true true true false false)):=by
 go_enter Tryz.func72,Tryz.ntmps72;go_wp2_with fail;refine bodyPost_ret (jzq rfl _ _ (w.heap.size+1) (.int .u64 0) (.int .u64 0) (.slice none 0 0) (.slice cA b cc) (.slice vA d vc) rfl (by go_simp) (by go_simp) (by go_simp) (by go_simp) (by go_simp)) rfl ?_;refine⟨_,_,_,_,_,_,_,_,_,_,_,rfl,by simp[jqa],?_⟩;exact C3.jzj (C3.jzj (Below.refl _ _))
theorem jt3(n m:Int)(sA:Option Addr)(sc a:Nat)(cA:Option Addr)(cc b:Nat)(vA:Option Addr)(vc d:Nat)(w:World):Calls Tryz.prog 72 #[.int .i64 7,.agg #[.int .u64 n,.int .u64 m,.slice sA a sc,.slice cA b cc,.slice vA d vc]] w (jnz w (jqa n m a b d false false false true false)):=by
 go_enter Tryz.func72,Tryz.ntmps72;go_wp2_with fail;refine bodyPost_ret (jzq rfl _ _ (w.heap.size+1) (.int .u64 n) (.int .u64 m) (.slice sA a sc) (.slice none 0 0) (.slice vA d vc) rfl (by go_simp) (by go_simp) (by go_simp) (by go_simp) (by go_simp)) rfl ?_;refine⟨_,_,_,_,_,_,_,_,_,_,_,rfl,by simp[jqa],?_⟩;exact C3.jzj (C3.jzj (Below.refl _ _))
theorem jt2(n m:Int)(sA:Option Addr)(sc a:Nat)(cA:Option Addr)(cc b:Nat)(vA:Option Addr)(vc d:Nat)(w:World):Calls Tryz.prog 72 #[.int .i64 8,.agg #[.int .u64 n,.int .u64 m,.slice sA a sc,.slice cA b cc,.slice vA d vc]] w (jnz w (jqa n m a b d false false false true true)):=by
 go_enter Tryz.func72,Tryz.ntmps72;go_wp2_with fail;refine bodyPost_ret (jzq rfl _ _ (w.heap.size+1) (.int .u64 n) (.int .u64 m) (.slice sA a sc) (.slice none 0 0) (.slice none 0 0) rfl (by go_simp) (by go_simp) (by go_simp) (by go_simp) (by go_simp)) rfl ?_;refine⟨_,_,_,_,_,_,_,_,_,_,_,rfl,by simp[jqa],?_⟩;exact C3.jzj (C3.jzj (Below.refl _ _))
theorem jt9(k:Int)(h:¬ (1<=k/\k<=8))(n m:Int)(sA:Option Addr)(sc a:Nat)(cA:Option Addr)(cc b:Nat)(vA:Option Addr)(vc d:Nat)(w:World):Calls Tryz.prog 72 #[.int .i64 k,.agg #[.int .u64 n,.int .u64 m,.slice sA a sc,.slice cA b cc,.slice vA d vc]] w (jnz w (jqa n m a b d false false false false false)):=by
 have k1:(k == 1)=false:=by simp;omega
 have k2:(k == 2)=false:=by simp;omega
 have k3:(k == 3)=false:=by simp;omega
 have k4:(k == 4)=false:=by simp;omega
 have k5:(k == 5)=false:=by simp;omega
 have k6:(k == 6)=false:=by simp;omega
 have k7:(k == 7)=false:=by simp;omega
 have k8:(k == 8)=false:=by simp;omega
 clear h;go_enter Tryz.func72,Tryz.ntmps72;go_wp2_with fail;refine bodyPost_ret (jzq rfl _ _ (w.heap.size+1) (.int .u64 n) (.int .u64 m) (.slice sA a sc) (.slice cA b cc) (.slice vA d vc) rfl (by go_simp) (by go_simp) (by go_simp) (by go_simp) (by go_simp)) rfl ?_;refine⟨_,_,_,_,_,_,_,_,_,_,_,rfl,by simp[jqa],?_⟩;exact C3.jzj (C3.jzj (Below.refl _ _))
open C3 (jud Tk isC)
def jxd(n m:Int)(ss:List Str):Bool:=match ss with
  | [s]=>!jvy s && (decide (n≠0) || (decide (m≠0) || decide (s≠[])))
  | _=>false
theorem ibeq{a b:Int}(h:a=b):(a == b)=true:=beq_iff_eq.2 h
theorem jo2{a b:Int}(h:a≠b):(a == b)=false:=beq_eq_false_iff_ne.2 h
theorem ibnn{a b:Int}(h:a≠b):(a != b)=true:=by simp[h]
theorem jtn(s:Str):(s == [])=decide (s=[]):=by cases s <;> rfl
theorem jc5(n m:Int)(sA:Option Addr)(sc:Nat)(ss:List Str)(cA:Option Addr)(cc b:Nat)(vA:Option Addr)(vc d:Nat)(w:World)(hn:0<=n)(hm:0<=m)(hl:jqs w sA ss)(hlm:ss.length<=maxLen)(ht:∀ s∈ss,s.length<=maxLen):Calls Tryz.prog 113 #[.agg #[.int .u64 n,.int .u64 m,.slice sA ss.length sc,.slice cA b cc,.slice vA d vc]] w (jqd w (.bool (jxd n m ss))):=by
 have belB:Below w.heap.size w (w.alloc (.cells #[.int .u64 n,.int .u64 m,.slice sA ss.length sc,.slice cA b cc,.slice vA d vc] 30)):=C3.jzj (Below.refl _ _);by_cases h1:ss.length=1
 ·(
 obtain⟨s,rfl⟩:∃ s,ss=[s]:=List.length_eq_one_iff.1 h1
 clear h1;obtain⟨bb,off,rfl,hb,hc⟩:=hl.get (k:=0) (by simp);have hc0:=hc 0 s rfl;rw[Nat.add_zero] at hc0;have hs:s.length<=maxLen:=ht s (by simp);clear hc hl ht hlm;have HL:=Lh (jl8 s (w.alloc (.cells #[.int .u64 n,.int .u64 m,.slice (some ⟨bb,off,none⟩) [s].length sc,.slice cA b cc,.slice vA d vc] 30)) hs);simp only[List.length_cons,List.length_nil,Nat.zero_add] at HL belB ⊢;obtain⟨q,hq⟩:=exq (jvy s);have hw:jxd n m [s]=(!q && (decide (n≠0) || (decide (m≠0) || decide (s≠[])))):=by simp only[jxd,hq]
 rw[hw];rw[hq] at HL;clear hw hq hs;go_enter Tryz.func113,Tryz.ntmps113;go_wp2_with fail;refine HL.out.mono ?_;clear HL;rintro e w' ⟨rfl,hb2⟩;have hbb:=belB.trans (hb2.mono belB.size);have e0:=(hb2.cell (p:=⟨w.heap.size,0,none⟩) (by simp)).trans (jz0 0 _ rfl);have e1:=(hb2.cell (p:=⟨w.heap.size,1,none⟩) (by simp)).trans (jz0 1 _ rfl);have e2:=(hb2.cell (p:=⟨w.heap.size,2,none⟩) (by simp)).trans (jz0 2 _ rfl);have f0:=(hbb.cell (p:=⟨bb,off,none⟩) hb).trans hc0;have hbl:=World.block_lt_of_cell? w' _ f0;simp only at hbl;clear hb2 belB hc0;cases q with
 | true=>(
 go_wp2_with fail;go_ret;exact⟨rfl,hbb⟩)
 | false=>(
 by_cases hn0:n=0
 ·(
 have kn:decide (0<n)=false:=decide_eq_false (by omega);by_cases hm0:m=0
 ·(
 have km:decide (0<m)=false:=decide_eq_false (by omega);have HR:Hid ((!decide (s=[]))=(!false && (decide (n≠0) || (decide (m≠0) || decide (s≠[]))))):=by show _=_;simp[hn0,hm0]
 by_cases hs0:s=[]
 ·(
 have ks:(s == [])=true:=by rw[jtn];exact decide_eq_true hs0
 clear hn0 hm0 hn hm;go_wp2_with fail;go_ret;refine⟨jzi ?_,hbb⟩;rw[<- HR.out,decide_eq_true hs0];rfl)
 ·(
 have ks:(s == [])=false:=by rw[jtn];exact decide_eq_false hs0
 clear hn0 hm0 hn hm;go_wp2_with fail;go_ret;refine⟨jzi ?_,hbb⟩;rw[<- HR.out,decide_eq_false hs0];rfl))
 ·(
 have km:0<m:=by omega
 have HR:Hid (true=(!false && (decide (n≠0) || (decide (m≠0) || decide (s≠[]))))):=by show _=_;simp[hn0,hm0]
 clear hn0 hm0 hn hm;go_wp2_with fail;go_ret;exact⟨jzi HR.out,hbb⟩))
 ·(
 have kn:0<n:=by omega
 have HR:Hid (true=(!false && (decide (n≠0) || (decide (m≠0) || decide (s≠[]))))):=by show _=_;simp[hn0]
 clear hn0 hn hm;go_wp2_with fail;go_ret;exact⟨jzi HR.out,hbb⟩)))
 ·(
 have hw:jxd n m ss=false:=by (
 unfold jxd;split
 ·simp at h1
 ·rfl)
 rw[hw];have k1:((ss.length:Int) != 1)=true:=ibnn (by omega);clear h1 hw hl ht hlm;go_enter Tryz.func113,Tryz.ntmps113;go_wp2_with fail;go_ret;exact⟨rfl,belB⟩)
def jm4(c:Ck):Bool:=decide (c.l.length=0) || !isC c.l
theorem idle_any(c:Ck)(w:World)(h:InC w c):Calls Tryz.prog 115 #[c.v] w (jqd w (.bool (jm4 c))):=by
 have HI:=Lh (C3.jv9 c.A c.c c.l w (Ck.Inp.inn h));unfold jm4;clear h;obtain⟨A,cp,l⟩:=c;simp only[Ck.v] at HI ⊢;by_cases h0:l.length=0
 ·(
 have k0:((l.length:Int) == 0)=true:=ibeq (by omega);rw[decide_eq_true h0];clear h0;go_enter Tryz.func115,Tryz.ntmps115;go_wp2_with fail;go_ret;exact⟨rfl,Below.refl _ _⟩)
 ·(
 have k0:((l.length:Int) == 0)=false:=jo2 (by omega);rw[decide_eq_false h0];clear h0;go_enter Tryz.func115,Tryz.ntmps115;go_wp2_with fail;refine HI.out.mono ?_;rintro e w' ⟨rfl,hb⟩;go_wp2_with fail;go_ret;exact⟨rfl,hb⟩)
theorem jm3(A:Option Addr)(c:Nat)(cs:List Ck)(w:World)(hl:jzr (fun b=>b<w.heap.size) w A (jzm cs))(hn:cs.length<=maxLen)(ht:∀ k∈cs,InC w k):Calls Tryz.prog 145 #[.slice A cs.length c,.func (.func 115) #[] #[]] w (jud w (cs.any jm4)):=by
 have hlm:cs.length<=9223372036854775807:=by unfold maxLen at hn;omega
 clear hn;have HT:=Lh ht;clear ht;go_enter Tryz.func145,Tryz.ntmps145;go_wp2_with fail;go_loopw [8] (fun iv wr=>∃ k:Nat,k<=cs.length/\iv = .int .i64 k/\Hid ((cs.take k).any jm4=false)/\Below w.heap.size w wr) (fun iv _=>cs.length - (intOf iv).toNat)
 case atStart=>exact⟨0,Nat.zero_le _,rfl,by simp[Hid],Below.refl _ _⟩
 case round=>(
 obtain⟨k,hk,rfl,h0,hbw⟩:=hrel;by_cases hlt:k<cs.length
 ·(
 obtain⟨x,hx⟩:∃ x,cs[k]?=some x:=⟨_,List.getElem?_eq_getElem hlt⟩
 obtain⟨b,off,rfl,hb,hc⟩:=jqn (hl.below hbw) hx;have hc0:=hc;have HX:=Lh hx;clear hx hc hl;obtain⟨q,hq⟩:=exq (jm4 x);have HQ:=Lh hq;clear hq;go_wp2_with fail;refine (idle_any x wr ((HT.out x (List.mem_of_getElem? HX.out)).later hbw)).mono ?_;rintro e w' ⟨rfl,hb2⟩;have hb3:Below w.heap.size w w':=hbw.trans (hb2.mono hbw.size);rw[HQ.out];cases q with
 | true=>(
 go_wp2_with fail;go_ret;exact⟨_,rfl,(by rw[jvj HX.out HQ.out];exact decide_eq_true (by omega)),hb3⟩)
 | false=>(
 go_wp2_with fail;go_roundw
 case rel=>exact⟨k+1,by omega,by go_num,jwx h0.out HX.out HQ.out,hb3⟩
 case measure=>simp[intOf];omega))
 ·(
 go_wp2_with fail;go_ret;exact⟨_,rfl,(by rw[jvk h0.out (by omega)];rfl),hbw⟩))
theorem jbq(A:Option Addr)(c:Nat)(cs:List Ck)(w:World)(hl:jzr (fun b=>b<w.heap.size) w A (jzm cs))(hn:cs.length<=maxLen)(ht:∀ k∈cs,InC w k):Calls Tryz.prog 114 #[.slice A cs.length c,.func (.func 115) #[] #[]] w (jqd w (.bool (cs.any jm4))):=by
 have HA:=Lh (jm3 A c cs w hl hn ht);clear hl hn ht;go_enter Tryz.func114,Tryz.ntmps114;go_wp2_with fail;refine HA.out.mono ?_;rintro e w' ⟨i,rfl,hi,hb⟩;have HI:=Lh hi;clear hi;go_wp2_with fail;go_ret;exact⟨jzi HI.out,hb⟩
open C3 (Tk In jx9 jxt jx4 jx5 jjt jzj jzf)
theorem jyr(x:Int)(w:World):Calls Tryz.prog 154 #[.int .u64 x] w fun e w'=>e = .returned (.bool false)/\w=w':=by
 go_enter Tryz.func154,Tryz.ntmps154;go_wp2
 go_ret;exact⟨rfl,rfl⟩
theorem jxm(x y:Int)(w:World):Calls Tryz.prog 123 #[.int .u64 x,.int .u64 y] w fun e w'=>e = .returned (.int .i64 (jx9 x y))/\w=w':=by
 rcases Int.lt_trichotomy x y with h | h | h
 ·(
 rw[jxt h];go_enter Tryz.func123,Tryz.ntmps123;go_wp2_with (go_at_call 154;refine (jyr _ _).mono ?_;rintro e w' ⟨rfl,rfl⟩)
 go_ret;exact⟨rfl,rfl⟩)
 ·(
 subst h;rw[jx5];go_enter Tryz.func123,Tryz.ntmps123;go_wp2_with (go_at_call 154;refine (jyr _ _).mono ?_;rintro e w' ⟨rfl,rfl⟩)
 go_ret;exact⟨rfl,rfl⟩)
 ·(
 rw[jx4 h];have h1:¬ x<y:=by omega
 go_enter Tryz.func123,Tryz.ntmps123;go_wp2_with (go_at_call 154;refine (jyr _ _).mono ?_;rintro e w' ⟨rfl,rfl⟩)
 go_ret;exact⟨rfl,rfl⟩)
def orI(x y:Int):Int:=if x=0 then y else x
theorem jhd(b:Nat)(x y:Int)(w:World)(h0:w.cell? ⟨b,0,none⟩=some (.int .i64 x))(h1:w.cell? ⟨b,1,none⟩=some (.int .i64 y)):Calls Tryz.prog 122 #[.slice (some ⟨b,0,none⟩) 2 2] w fun e w'=>e = .returned (.int .i64 (orI x y))/\w=w':=by
 go_enter Tryz.func122,Tryz.ntmps122;go_wp2_with fail;go_loopw [8] (fun iv wr=>∃ k:Nat,k<=2/\iv = .int .i64 k/\wr=w/\Hid (1<=k->x=0)/\Hid (2<=k->y=0)) (fun iv _=>2 - (intOf iv).toNat)
 case atStart=>exact⟨0,Nat.zero_le _,rfl,rfl,fun h=>by omega,fun h=>by omega⟩
 case round=>(
 obtain⟨k,hk,rfl,rfl,g0,g1⟩:=hrel;rcases (by omega:k=0\/k=1\/k=2) with rfl | rfl | rfl
 ·(
 by_cases hx:x=0
 ·(
 have k1:(x != 0)=false:=by simp[hx]
 go_wp2_with fail;go_roundw
 case rel=>exact⟨1,by omega,by go_num,trivial,fun _=>hx,fun h=>by omega⟩
 case measure=>simp[intOf])
 ·(
 have k1:(x != 0)=true:=by simp[hx]
 go_wp2_with fail;go_ret;exact⟨by rw[orI,if_neg hx];rfl,rfl⟩))
 ·(
 have hx:x=0:=g0.out (by omega);by_cases hy:y=0
 ·(
 have k1:(y != 0)=false:=by simp[hy]
 have HX:=Lh hx;clear hx;go_wp2_with fail;go_roundw
 case rel=>exact⟨2,by omega,by go_num,trivial,fun _=>HX.out,fun _=>hy⟩
 case measure=>simp[intOf])
 ·(
 have k1:(y != 0)=true:=by simp[hy]
 have HX:=Lh hx;clear hx;go_wp2_with fail;go_ret;exact⟨by rw[orI,if_pos HX.out];rfl,rfl⟩))
 ·(
 have HX:=Lh (g0.out (by omega));have HY:=Lh (g1.out (by omega));go_wp2_with fail;go_ret;exact⟨by rw[orI,if_pos HX.out,HY.out];rfl,rfl⟩))
def jx1(x y:Tk):Int:=orI (jx9 x.k y.k) (jx9 x.n y.n)
theorem jre(xk xn yk yn:Int)(w:World):Calls Tryz.prog 150 #[.agg #[.int .i64 xk,.int .u64 xn],.agg #[.int .i64 yk,.int .u64 yn]] w (jqd w (.int .i64 (jx1 ⟨xk,xn⟩ ⟨yk,yn⟩))):=by
 obtain⟨p,hp⟩:=exq (jx9 xk yk);obtain⟨q,hq⟩:=exq (jx9 xn yn);have HP:=Lh hp;have HQ:=Lh hq;have HR:Hid (jx1 ⟨xk,xn⟩ ⟨yk,yn⟩=orI p q):=by show jx1 _ _=_;unfold jx1;rw[<- hp,<- hq]
 clear hp hq;go_enter Tryz.func150,Tryz.ntmps150;go_wp2_with fail;have e0:((w.alloc (.cells #[.int .i64 xk,.int .u64 xn] 53)).alloc (.cells #[.int .i64 yk,.int .u64 yn] 53)).cell? ⟨w.heap.size,0,none⟩=some (.int .i64 xk):=by simp[World.cell?_alloc_past]
 have e1:((w.alloc (.cells #[.int .i64 xk,.int .u64 xn] 53)).alloc (.cells #[.int .i64 yk,.int .u64 yn] 53)).cell? ⟨w.heap.size,1,none⟩=some (.int .u64 xn):=by simp[World.cell?_alloc_past]
 have e2:((w.alloc (.cells #[.int .i64 xk,.int .u64 xn] 53)).alloc (.cells #[.int .i64 yk,.int .u64 yn] 53)).cell? ⟨w.heap.size+1,0,none⟩=some (.int .i64 yk):=by simp
 have e3:((w.alloc (.cells #[.int .i64 xk,.int .u64 xn] 53)).alloc (.cells #[.int .i64 yk,.int .u64 yn] 53)).cell? ⟨w.heap.size+1,1,none⟩=some (.int .u64 yn):=by simp
 have hB0:Below w.heap.size w ((w.alloc (.cells #[.int .i64 xk,.int .u64 xn] 53)).alloc (.cells #[.int .i64 yk,.int .u64 yn] 53)):=jzj (jzj (Below.refl _ _));have hsz:w.heap.size+2<=((w.alloc (.cells #[.int .i64 xk,.int .u64 xn] 53)).alloc (.cells #[.int .i64 yk,.int .u64 yn] 53)).heap.size:=by simp
 have hs0:w.heap.size<((w.alloc (.cells #[.int .i64 xk,.int .u64 xn] 53)).alloc (.cells #[.int .i64 yk,.int .u64 yn] 53)).heap.size:=by omega
 have hs1:w.heap.size+1<((w.alloc (.cells #[.int .i64 xk,.int .u64 xn] 53)).alloc (.cells #[.int .i64 yk,.int .u64 yn] 53)).heap.size:=by omega
 generalize ((w.alloc (.cells #[.int .i64 xk,.int .u64 xn] 53)).alloc (.cells #[.int .i64 yk,.int .u64 yn] 53))=W0 at *;go_region_held3 (fun w'=>w'.cell? ⟨w.heap.size,0,none⟩=some (.int .i64 xk)/\w'.cell? ⟨w.heap.size,1,none⟩=some (.int .u64 xn)/\w'.cell? ⟨w.heap.size+1,0,none⟩=some (.int .i64 yk)/\w'.cell? ⟨w.heap.size+1,1,none⟩=some (.int .u64 yn))
   (first
     | with_reducible exact⟨e0,e1,e2,e3⟩
     | (refine⟨?_,?_,?_,?_⟩ <;> go_simp))
   (first
     | (go_at_call 156;refine (jjt xk yk _).mono ?_;rintro e w4 ⟨rfl,rfl⟩;rw[HP.out])
     | (go_at_call 123;refine (jxm xn yn _).mono ?_;rintro e w4 ⟨rfl,rfl⟩;rw[HQ.out])
     | (go_at_call 122;refine (jhd _ p q _ (by simp) (by simp)).mono ?_;rintro e w4 ⟨rfl,rfl⟩))
 all_goals (
   go_wp2_with fail
   go_ret
   exact⟨by rw[HR.out];rfl,(jzj hB0).drew⟩)
theorem jmc{x y:Tk}(h:x.k<y.k):jx1 x y = -1:=by unfold jx1;rw[jxt h];rfl
theorem jmd{x y:Tk}(h:y.k<x.k):jx1 x y=1:=by unfold jx1;rw[jx4 h];rfl
theorem jc9{x y:Tk}(h:x.k=y.k):jx1 x y=jx9 x.n y.n:=by unfold jx1;rw[h,jx5];rfl
theorem tickI_ne{x y:Tk}{a b:List Tk}{i:Nat}(hx:a[i]?=some x)(hy:b[i]?=some y)(h:jx1 x y≠0):decide (0<=jx1 x y)=!jzz (a.drop i) (b.drop i):=by
 rw[jvl hx hy];rcases Int.lt_trichotomy x.k y.k with hk | hk | hk
 ·(
 have h1:¬ x.k=y.k:=by omega
 rw[jmc hk,if_neg h1,decide_eq_true hk];rfl)
 ·(
 rw[jc9 hk] at h ⊢;rw[if_pos hk];rcases Int.lt_trichotomy x.n y.n with hn | hn | hn
 ·(
 have h1:¬ x.n=y.n:=by omega
 rw[jxt hn,if_neg h1,decide_eq_true hn];rfl)
 ·exact absurd (by rw[hn,jx5]) h
 ·(
 have h1:¬ x.n=y.n:=by omega
 have h2:¬ x.n<y.n:=by omega
 rw[jx4 hn,if_neg h1,decide_eq_false h2];rfl))
 ·(
 have h1:¬ x.k=y.k:=by omega
 have h2:¬ x.k<y.k:=by omega
 rw[jmd hk,if_neg h1,decide_eq_false h2];rfl)
theorem tickI_eq{x y:Tk}{a b:List Tk}{i:Nat}(hx:a[i]?=some x)(hy:b[i]?=some y)(h:jx1 x y=0):jzz (a.drop i) (b.drop i)=jzz (a.drop (i+1)) (b.drop (i+1)):=by
 rw[jvl hx hy];rcases Int.lt_trichotomy x.k y.k with hk | hk | hk
 ·rw[jmc hk] at h;omega
 ·(
 rw[jc9 hk] at h;rw[if_pos hk];rcases Int.lt_trichotomy x.n y.n with hn | hn | hn
 ·rw[jxt hn] at h;omega
 ·rw[if_pos hn]
 ·rw[jx4 hn] at h;omega)
 ·rw[jmd hk] at h;omega
theorem jg7(A A':Option Addr)(c c':Nat)(l l':List Tk)(w:World)(h:In w A c l)(h':In w A' c' l'):Calls Tryz.prog 132 #[.slice A l.length c,.slice A' l'.length c',.func (.func 150) #[] #[]] w (C3.jud w (!jzz l l')):=by
 obtain⟨hl,hcap,htop,-⟩:=h;obtain⟨hl',hcap',htop',-⟩:=h';have hlm:l.length<=9223372036854775807:=by unfold maxLen at htop;omega
 have hlm':l'.length<=9223372036854775807:=by unfold maxLen at htop';omega
 clear hcap htop hcap' htop';go_enter Tryz.func132,Tryz.ntmps132;go_wp2_with fail;go_loopw [13] (fun iv wr=>∃ k:Nat,k<=l.length/\k<=l'.length/\iv = .int .i64 k/\Hid (jzz l l'=jzz (l.drop k) (l'.drop k))/\Below w.heap.size w wr) (fun iv _=>l.length - (intOf iv).toNat)
 case atStart=>exact⟨0,Nat.zero_le _,Nat.zero_le _,rfl,rfl,Below.refl _ _⟩
 case round=>(
 obtain⟨k,hk,hk',rfl,h0,hbw⟩:=hrel;by_cases hlt:k<l.length
 ·(
 obtain⟨b,off,rfl,hb,hc⟩:=(hl.below hbw).get hlt;obtain⟨x,hx⟩:∃ x,l[k]?=some x:=⟨_,List.getElem?_eq_getElem hlt⟩
 obtain⟨hc0,hc1⟩:=hc k x hx;have HX:=Lh hx;clear hx hc hl;obtain⟨xk,xn⟩:=x;dsimp only at hc0 hc1
 by_cases hlt':k<l'.length
 ·(
 obtain⟨b',off',rfl,hb',hc'⟩:=(hl'.below hbw).get hlt';obtain⟨y,hy⟩:∃ y,l'[k]?=some y:=⟨_,List.getElem?_eq_getElem hlt'⟩
 obtain⟨hd0,hd1⟩:=hc' k y hy;have HY:=Lh hy;clear hy hc' hl';obtain⟨yk,yn⟩:=y;dsimp only at hd0 hd1
 have hbb:b<wr.heap.size:=World.block_lt_of_cell? wr _ hc0;have hbb':b'<wr.heap.size:=World.block_lt_of_cell? wr _ hd0;have d1:¬ (l'.length<=k):=by omega
 obtain⟨q,hq⟩:=exq (jx1 ⟨xk,xn⟩ ⟨yk,yn⟩);have HQ:=Lh hq;clear hq;have f0:(wr.alloc (.cells #[.int .i64 xk,.int .u64 xn] 53)).cell? ⟨b',off'+k*2,none⟩=some (.int .i64 yk):=(World.cell?_alloc_past _ _ _ hbb').trans hd0;have f1:(wr.alloc (.cells #[.int .i64 xk,.int .u64 xn] 53)).cell? ⟨b',off'+k*2+1,none⟩=some (.int .u64 yn):=(World.cell?_alloc_past _ _ _ hbb').trans hd1;go_wp2_with fail;refine (jre xk xn yk yn _).mono ?_;rintro e w' ⟨rfl,hb2⟩;rw[HQ.out];have hb3:Below w.heap.size w w':=hbw.trans (((jzj (jzj (Below.refl _ _))).trans (hb2.mono (by simp;omega))).mono hbw.size);by_cases hq0:q=0
 ·(
 have k0:(q != 0)=false:=by simp[hq0]
 clear hb2;go_wp2_with fail;go_roundw
 case rel=>exact⟨k+1,by omega,by omega,by go_num,by show _=_;rw[h0.out];exact tickI_eq HX.out HY.out (HQ.out.trans hq0),hb3⟩
 case measure=>simp[intOf];omega)
 ·(
 have k0:(q != 0)=true:=by simp[hq0]
 clear hb2;go_wp2_with fail;go_ret;refine⟨_,rfl,?_,hb3⟩;rw[h0.out,<- tickI_ne HX.out HY.out (by rw[HQ.out];exact hq0),HQ.out]))
 ·(
 have d1:l'.length<=k:=by omega
 have HNL:Hid (¬ l.length<l'.length):=by show ¬ _;omega
 go_wp2_with fail;go_ret;refine⟨_,rfl,?_,jzj hbw⟩;rw[h0.out,jwo (.inr d1) hk hk',decide_eq_false HNL.out];rfl))
 ·(
 by_cases hll:l.length<l'.length
 ·(
 go_wp2_with fail;go_ret;refine⟨_,rfl,?_,hbw⟩;rw[h0.out,jwo (.inl (by omega)) hk hk',decide_eq_true hll];rfl)
 ·(
 go_wp2_with fail;go_ret;refine⟨_,rfl,?_,hbw⟩;rw[h0.out,jwo (.inl (by omega)) hk hk',decide_eq_false hll];rfl)))
end V4
namespace V4
open Go.RowKit Go.Shelf
open C3 (Tk In jzj)
attribute [local go_sem] Oper.semAt_some
def jb9(l:List Ck)(i:Nat):List (Ck×Ck):=match l[i]? with
  | some b=>(l.take i).map fun a=>(a,b)
  | none=>[]
def jqy(l:List Ck)(i:Nat):List (Ck×Ck):=(List.range i).flatMap (jb9 l)
theorem jwr(l:List Ck)(i:Nat):jqy l (i+1)=jqy l i++jb9 l i:=by unfold jqy;rw[List.range_succ,List.flatMap_append];simp
theorem jp3(l:List Ck){i m:Nat}(h:i<=m):jqy l i <+: jqy l m:=by
 induction m with
 | zero=>rw[show i=0 by omega];exact List.prefix_rfl
 | succ m ih=>(
 by_cases h1:i<=m
 ·rw[jwr];exact (ih h1).trans (List.prefix_append _ _)
 ·rw[show i=m+1 by omega];exact List.prefix_rfl)
theorem jyf{l:List Ck}{i:Nat}(h:i<l.length):(jb9 l i).length=i:=by
 unfold jb9;rw[List.getElem?_eq_getElem h];simp;omega
theorem jrw{l:List Ck}{i j:Nat}{a b:Ck}(hb:l[i]?=some b)(ha:l[j]?=some a)(hj:j<i):(jqy l l.length)[(jqy l i).length+j]?=some (a,b):=by
 have hi:=(List.getElem?_eq_some_iff.1 hb).1;obtain⟨r,hr⟩:=jp3 l (show i+1<=l.length by omega);rw[<- hr,jwr,List.append_assoc,List.getElem?_append_right (by omega),Nat.add_sub_cancel_left,List.getElem?_append_left (by rw[jyf hi];exact hj)];unfold jb9;rw[hb];simp only[List.getElem?_map];rw[List.getElem?_take_of_lt hj,ha];rfl
theorem jrx{l:List Ck}{i j:Nat}(hi:i<l.length)(hj:j<i):(jqy l i).length+j<(jqy l l.length).length:=by
 obtain⟨r,hr⟩:=jp3 l (show i+1<=l.length by omega);rw[<- hr,jwr,List.length_append,List.length_append,jyf hi];omega
def encTw(x:Ck×Ck):Array Value:=#[x.1.v,x.2.v]
theorem twos_any(A:Option Addr)(c:Nat)(l:List Ck)(w:World):Calls Tryz.prog 149 #[.slice A l.length c] w fun e w'=>e = .returned (.func (.func 166) #[] #[.pointer (some ⟨w.heap.size,0,none⟩)])/\w.alloc (.cells #[.slice A l.length c] 27)=w':=by
 go_enter Tryz.func149,Tryz.ntmps149;go_wp2_with fail;go_ret;exact⟨rfl,rfl⟩
theorem twos_seq(Bt D:Nat)(A:Option Addr)(c:Nat)(vs:List Ck)(w:World)(hl:jzr (Bar D) w A (jzm vs))(hcap:vs.length<=c)(hctop:c<=9223372036854775807)(hBD:Bt≠D)(hBt:w.cell? ⟨Bt,0,none⟩=some (.slice A vs.length c)):jtu Tryz.prog 166 #[.pointer (some ⟨Bt,0,none⟩)] encTw D (fun _=>True) (jqy vs vs.length) w:=by
 intro l J Jx W hW hJ hJx hY h0;have hB:W.cell? ⟨Bt,0,none⟩=some (.slice A vs.length c):=(hW.cell (p:=⟨Bt,0,none⟩) (World.block_lt_of_cell? w _ hBt)).trans hBt;have hlW:jzr (Bar D) W A (jzm vs):=hl.kn (B:=0) (KN.of_below hW);have HY:=Lh hY;have HL:=Lh hlW;clear hY hJ hJx hBt hl hlW hW;refine (callsIn_wide (n:=6)).1 (callsIn_of_wp Tryz.func166 rfl trivial ?_ rfl);simp only[Tryz.ntmps166,List.size_toArray,List.length_cons,List.length_nil,Nat.reduceAdd,Nat.reduceSub,Array.replicate_succ,Array.replicate_zero,List.push_toArray,List.append_toArray,List.nil_append,List.cons_append];gi_wp2_with fail
 gi_loopw [9] (fun iv wr=>∃ (i:Nat),i<=vs.length/\iv = .int .i64 i/\J (jqy vs i).length wr/\KN D W.heap.size W wr) (fun iv _=>vs.length - (intOf iv).toNat)
 case atStart=>exact⟨0,Nat.zero_le _,rfl,h0,KN.refl _ _ _⟩
 case round=>(
 obtain⟨i,hi,rfl,hJr,hkr⟩:=hrel;clear h0;by_cases hlt:i<vs.length
 ·(
 obtain⟨x,hx⟩:∃ x,vs[i]?=some x:=⟨_,List.getElem?_eq_getElem hlt⟩
 obtain⟨b,off,rfl,hb,c0⟩:=jqn HL.out hx;replace c0:=hkr.cell hb c0;have hbb:=World.block_lt_of_cell? wr _ c0;simp only at hbb;have HX:=Lh hx;have hB2:=hkr.cell hBD hB;clear hx;obtain⟨xA,xc,xl⟩:=x;simp only[Ck.v] at c0;gi_wp2_with fail
 clear c0 hB2;gi_loopw [18] (fun jv wj=>∃ (j:Nat),j<=i/\jv = .int .i64 j/\J ((jqy vs i).length+j) wj/\KN D W.heap.size W wj) (fun jv _=>i - (intOf jv).toNat)
 case atStart=>exact⟨0,Nat.zero_le _,rfl,hJr,hkr⟩
 case round=>(
 obtain⟨j,hj,rfl,hJj,hkj⟩:=hrel;clear hJr hkr;by_cases hjl:j<i
 ·(
 obtain⟨y,hy0⟩:∃ y,vs[j]?=some y:=⟨_,List.getElem?_eq_getElem (by omega)⟩
 obtain⟨b2,off2,hA2,-,d0⟩:=jqn HL.out hy0;cases hA2
 replace d0:=hkj.cell hb d0;have hbj:=World.block_lt_of_cell? _ _ d0;simp only at hbj;obtain⟨fn,tmps,assign,body,hy,hR⟩:=jql (m':=5) (HY.out _ _ _ (jrw HX.out hy0 hjl) hJj hkj.size);unfold encTw at hy;clear hy0;obtain⟨yA,yc,yl⟩:=y;simp only[Ck.v] at hy d0;gi_wp2_with fail
 refine hR.mono ?_;clear hR hy d0;rintro e W5 (⟨rfl,hJ5,hk5,-⟩ | ⟨rfl,hJx5,-⟩)
 ·(
 have hk6:KN D W.heap.size W W5:=hkj.trans hk5;clear hk5 hkj hJj;gi_wp2_with fail
 go_roundw
 case rel=>exact⟨j+1,by omega,by go_num,hJ5,hk6⟩
 case measure=>simp[intOf];omega)
 ·(
 gi_wp2_with fail
 refine bodyPost_ret (results_none rfl _ _ _) rfl ?_;exact⟨⟨_,rfl⟩,.inr ⟨_,jrx hlt hjl,hJx5⟩⟩))
 ·(
 have hje:j=i:=by omega
 have hJ6:=hJj;rw[hje,show (jqy vs i).length+i=(jqy vs (i+1)).length by rw[jwr,List.length_append,jyf hlt]] at hJ6;clear hje hJj;gi_wp2_with fail
 go_roundw
 case rel=>exact⟨i+1,by omega,by go_num,hJ6,hkj⟩
 case measure=>simp[intOf];omega)))
 ·(
 gi_wp2_with fail
 go_end0
 have hke:i=vs.length:=by omega
 exact⟨⟨_,rfl⟩,.inl (hke▸hJr)⟩))
end V4
namespace V4
open Go.RowKit Go.Shelf
open C3 (Tk In isC Asc jxo jzj)
open S2 (jzx)
attribute [local go_sem] Oper.semAt_some
def jwm(x:Ck×Ck):Bool:=jzz x.1.l x.2.l && decide (jxo x.1.l x.2.l=2)
def jge(cs:List Ck):Bool:=decide (cs.length<=40) && (cs.all (fun c=>isC c.l) && (jqy cs cs.length).all jwm)
theorem mem_twos{l:List Ck}{x:Ck×Ck}(h:x∈jqy l l.length):x.1∈l/\x.2∈l:=by
 unfold jqy at h;obtain⟨i,_,hi⟩:=List.mem_flatMap.1 h;unfold jb9 at hi;split at hi
 ·(
 rename_i b hb
 obtain⟨a,ha,rfl⟩:=List.mem_map.1 hi;exact⟨List.mem_of_mem_take ha,List.mem_of_getElem? hb⟩)
 ·cases hi
theorem jh0{l:List Tk}(h:isC l=true):Asc l/\l.length<=1000:=by
 unfold isC at h;simp at h
 exact⟨h.2.1,by omega⟩
theorem jus(A:Option Addr)(c:Nat)(cs:List Ck)(w:World)(hl:jzr (fun b=>b<w.heap.size) w A (jzm cs))(hcap:cs.length<=c)(hctop:c<=maxLen)(hn:cs.length*24<=140737488351232)(hck:∀ k∈cs,InC w k):Calls Tryz.prog 116 #[.slice A cs.length c] w (jqd w (.bool (jge cs))):=by
 have hct:c<=9223372036854775807:=by unfold maxLen at hctop;omega
 have HL:=Lh hl;have HK:=Lh hck;have HN:=Lh hn;have HC:=Lh (And.intro hcap hct);clear hl hck hn hctop;have bR:Boxed (w.alloc (.cells #[.bool false] 4)) w.heap.size 4 (.bool false):=Boxed.new w 4 (.bool false);have hB0:Below w.heap.size w (w.alloc (.cells #[.bool false] 4)):=jzj (Below.refl _ _);refine (callsIn_wide (n:=6)).1 (callsIn_of_wp_marks Tryz.func116 rfl trivial ?_ rfl);simp only[Tryz.ntmps116,List.size_toArray,List.length_cons,List.length_nil,Nat.reduceAdd,Nat.reduceSub,Array.replicate_succ,Array.replicate_zero,List.push_toArray,List.append_toArray,List.nil_append,List.cons_append];by_cases h40:cs.length<=40
 ·(
 have k40:decide (40<(cs.length:Int))=false:=decide_eq_false (by omega);obtain⟨q,hq⟩:=exq ((cs.all fun c=>isC c.l));have HQ:=Lh hq;have HS:Hid (jge cs=(q && (jqy cs cs.length).all jwm)):=by show jge cs=_;unfold jge;rw[decide_eq_true h40,hq];rfl
 clear hq h40;gi_wp2_with fail
 refine⟨trivial,(callsIn_wide.2 (jd2 A c cs _)).mono ?_⟩;rintro e w1 ⟨rfl,rfl⟩;obtain⟨w1,hw1⟩:=exq ((w.alloc (.cells #[.bool false] 4)).alloc (.cells #[.slice A cs.length c] 27));have hB1:Below w.heap.size w w1:=by rw[<- hw1];exact jzj hB0
 have hs1:w1.heap.size=w.heap.size+2:=by rw[<- hw1];simp
 have bR1:Boxed w1 w.heap.size 4 (.bool false):=by rw[<- hw1];exact bR.alloc _
 have cB1:w1.cell? ⟨w.heap.size+1,0,none⟩=some (.slice A cs.length c):=by (
 rw[<- hw1];have:=jz0 (w:=w.alloc (.cells #[.bool false] 4)) (cs:=#[.slice A cs.length c]) (t:=27) 0 _ rfl;rw[World.size_alloc] at this;exact this)
 gi_wp2_with fail
 clear hw1 bR hB0;have HE:=Lh (jdy (fun c=>isC c.l) cs (fun x _ W hx=>C3.jv9 x.A x.c x.l W (Ck.Inp.inn hx)) (fun _=>True) (fun _ _ _=>trivial) 165 #[.pointer (some ⟨w.heap.size+1,0,none⟩)] (enters_of Tryz.func165 (by kernel_rfl) rfl) w1
   (fun D w2 hb hD hD2=>jd1 (w.heap.size+1) D A c cs w2 ((HL.out.below (hB1.trans (hb.mono hB1.size))).mono fun b hb=>by unfold Bar;omega) HN.out ((hb.cell (p:=⟨w.heap.size+1,0,none⟩) (by simp only;omega)).trans cB1))
   (fun x hx=>(HK.out x hx).later hB1))
 refine⟨trivial,(callsIn_wide.2 HE.out).mono ?_⟩;clear HE;rintro e w2 ⟨rfl,hb2⟩;rw[HQ.out];have hB2:Below w.heap.size w w2:=hB1.trans (hb2.mono hB1.size);have hs2:w.heap.size+2<=w2.heap.size:=by have:=hb2.size;omega
 have bR2:Boxed w2 w.heap.size 4 (.bool false):=(hb2.block _ (by omega)).trans bR1;clear hb2 bR1 cB1 hB1;cases q with
 | false=>(
 have hcl:=bR2.cell;have hcf:=bR2.frozen;gi_wp2_with fail
 refine⟨_,jzx rfl rfl _ _ w.heap.size (.bool false) rfl (bR2.set (.bool false)).cell,?_⟩;rw[HS.out];exact⟨rfl,hB2.setCell (by simp) _⟩)
 | true=>(
 gi_wp2_with fail
 refine⟨trivial,(callsIn_wide.2 (twos_any A c cs _)).mono ?_⟩;rintro e w3 ⟨rfl,rfl⟩;obtain⟨w3,hw3⟩:=exq (w2.alloc (.cells #[.slice A cs.length c] 27));have hB3:Below w.heap.size w w3:=by rw[<- hw3];exact jzj hB2
 have hs3:w.heap.size+2<w3.heap.size:=by rw[<- hw3];simp;omega
 have bR3:Boxed w3 w.heap.size 4 (.bool false):=by rw[<- hw3];exact bR2.alloc _
 have cB3:w3.cell? ⟨w2.heap.size,0,none⟩=some (.slice A cs.length c):=by rw[<- hw3];exact jz0 0 _ rfl
 gi_wp2_with fail
 clear hw3 bR2 hB2;have HSQ:=Lh (twos_seq w2.heap.size w.heap.size A c cs w3 ((HL.out.below hB3).mono fun b hb=>by unfold Bar;omega) HC.out.1 HC.out.2 (by omega) cB3);refine jwf rfl (enters_of Tryz.func166 (by kernel_rfl) rfl) HSQ.out (fun _=>rfl)
   (fun k X=>(Boxed X w.heap.size 4 (.bool false)/\Below w.heap.size w X)/\((jqy cs cs.length).take k).all jwm=true)
   (fun c _ X=>(Boxed X w.heap.size 4 (.bool false)/\Below w.heap.size w X)/\c = .ret/\(jqy cs cs.length).all jwm=false)
   (fun k X Y ⟨⟨h1,h2⟩,h3⟩ hb=>⟨⟨(hb.block _ (by omega)).trans h1,h2.trans (hb.mono (by omega))⟩,h3⟩)
   (fun c k X Y ⟨⟨h1,h2⟩,h3⟩ hb=>⟨⟨(hb.block _ (by omega)).trans h1,h2.trans (hb.mono (by omega))⟩,h3⟩)
   ⟨⟨bR3,hB3⟩,rfl⟩
   (fun y a' _=>a'={ tmps:=#[.slice A cs.length c,undef,.pointer (some ⟨w.heap.size,0,none⟩),y.1.v,y.2.v,.slice A cs.length c,.int .i64 cs.length,.bool false,.bool false,.slice A cs.length c,
       .func (.func 165) #[] #[.pointer (some ⟨w.heap.size+1,0,none⟩)],.bool true,.bool false,.bool false,.slice A cs.length c,.func (.func 166) #[] #[.pointer (some ⟨w2.heap.size,0,none⟩)],y.1.v,y.2.v,undef,undef,undef,undef,undef,undef,undef,undef,undef,undef],defers:=[] })
   ?ax ?assign ?body ?done ?stop
 case ax=>(
 rintro y a' _ X Y row h1 hg hr;exact h1)
 case assign=>(
 intro l2 k y X K _ _ hK;unfold encTw;gi_wp2
 exact hK _ _ (Below.refl _ _) rfl)
 case body=>(
 rintro l2 k y a' X hXs hx ⟨⟨h1,h2⟩,h4⟩ rfl;have hm:=mem_twos (List.mem_of_getElem? hx);have HX:=Lh hx;have HP:=Lh h4;have i1:=Ck.Inp.inn ((HK.out y.1 hm.1).later h2);have i2:=Ck.Inp.inn ((HK.out y.2 hm.2).later h2);have j1:=jh0 (List.all_eq_true.1 HQ.out y.1 hm.1);have j2:=jh0 (List.all_eq_true.1 HQ.out y.2 hm.2);have HCF:=Lh (jg7 _ _ _ _ _ _ X i1 i2);have HCM:Hid (∀ Z,Below X.heap.size X Z->Calls Tryz.prog 136 #[.slice y.1.A y.1.l.length y.1.c,.slice y.2.A y.2.l.length y.2.c] Z (jqd Z (.int .i64 (jxo y.1.l y.2.l)))):=fun Z hZ=>C3.jn5 _ _ _ _ _ _ Z (i1.later hZ) (i2.later hZ) j1.1 j2.1 j1.2 j2.2
 clear hm hx h4 i1 i2 j1 j2;have hcl:=h1.cell;have hcf:=h1.frozen;obtain⟨⟨yA,yc,yl⟩,⟨zA,zc,zl⟩⟩:=y;simp only[Ck.v] at HCF HCM ⊢;obtain⟨g,hg⟩:=exq (jzz yl zl);have HG:=Lh hg;rw[hg] at HCF;clear hg;gi_wp2_with fail
 refine⟨trivial,rfl,(CallsIn.inRound l2 (callsIn_wide.2 HCF.out)).mono ?_⟩;clear HCF;rintro e X5 ⟨i,rfl,hi,hb5⟩;have hB5:Below w.heap.size w X5:=h2.trans (hb5.mono h2.size);have g1:Boxed X5 w.heap.size 4 (.bool false):=(hb5.block _ (by omega)).trans h1;clear hcl hcf;cases g with
 | false=>(
 have hcl:=g1.cell;have hcf:=g1.frozen;have HF:Hid ((jqy cs cs.length).all jwm=false):=jwn HX.out (by unfold jwm;simp only[HG.out,Bool.false_and]);have hi0:decide (0<=i)=true:=hi;have hi1:0<=i:=of_decide_eq_true hi;gi_wp2_with fail
 refine⟨trivial,?_⟩;gi_wp2_with fail
 exact⟨(KF.of_below hb5).trans (KF.set (by omega) _),⟨g1.set _,hB5.setCell (by first | omega | (simp;omega) | simp) _⟩,rfl,HF.out⟩)
 | true=>(
 have hi0:decide (0<=i)=false:=hi;have hi1:¬ 0<=i:=of_decide_eq_false hi;obtain⟨z,hz⟩:=exq (jxo yl zl);have HZ:=Lh hz;have HCM2:=Lh (HCM.out X5 hb5);rw[hz] at HCM2;clear hz hi;gi_wp2_with fail
 refine⟨trivial,rfl,(CallsIn.inRound l2 (callsIn_wide.2 HCM2.out)).mono ?_⟩;clear HCM HCM2;rintro e X6 ⟨rfl,hb6⟩;have hb56:Below X.heap.size X X6:=hb5.trans (hb6.mono hb5.size);have hB6:Below w.heap.size w X6:=h2.trans (hb56.mono h2.size);have g6:Boxed X6 w.heap.size 4 (.bool false):=(hb56.block _ (by omega)).trans h1;have hcl:=g6.cell;have hcf:=g6.frozen;by_cases hz2:z=2
 ·(
 have kz:(z != 2)=false:=by simp[hz2]
 have HF:Hid (((jqy cs cs.length).take (k+1)).all jwm=true):=by (
 show List.all _ _=_
 rw[jqx HX.out,HP.out];unfold jwm;simp only[HG.out,HZ.out,hz2];rfl)
 gi_wp2_with fail
 exact⟨KN.of_below hb56,⟨⟨g6,hB6⟩,HF.out⟩,trivial⟩)
 ·(
 have kz:(z != 2)=true:=by simp[hz2]
 have HF:Hid ((jqy cs cs.length).all jwm=false):=jwn HX.out (by unfold jwm;simp only[HG.out,HZ.out,decide_eq_false hz2];rfl);gi_wp2_with fail
 exact⟨(KF.of_below hb56).trans (KF.set (by omega) _),⟨g6.set _,hB6.setCell (by first | omega | (simp;omega) | simp) _⟩,rfl,HF.out⟩)))
 case done=>(
 rintro E X hE ⟨⟨hR,hB⟩,hp⟩ hK;have hcl:=hR.cell;have hcf:=hR.frozen;rw[List.take_length] at hp;have HP:=Lh hp;clear hp;gi_wp2
 have hne:w.heap.size≠E:=by omega
 have hK2:(X.setCell ⟨w.heap.size,0,none⟩ (.bool true)).heap[E]?=some (.deferred (some [])):=(Below.heap_setCell _ _ _ _ (Ne.symm hne)).trans hK;refine⟨by simp,.inl ⟨_,_,rfl,run_takeDeferred hK2,?_⟩⟩;refine⟨_,jzx rfl rfl _ _ w.heap.size (.bool true) rfl ((World.cell?_of_block (World.putObj_heap_other hne)).trans (hR.set (.bool true)).cell),?_⟩;rw[HS.out,HP.out];exact⟨rfl,(hB.setCell (by first | omega | (simp;omega) | simp) _).trans ⟨rfl,rfl,rfl,by simp,fun q hq=>World.putObj_heap_other (by omega)⟩⟩)
 case stop=>(
 rintro E c k X hE hk ⟨⟨hR,hB⟩,rfl,hp⟩ hK;have hcl:=hR.cell;have HP:=Lh hp;clear hp;gi_wp2
 have hne:w.heap.size≠E:=by omega
 refine⟨by simp,.inl ⟨_,_,rfl,run_takeDeferred hK,?_⟩⟩;refine⟨_,jzx rfl rfl _ _ w.heap.size (.bool false) rfl ((World.cell?_of_block (World.putObj_heap_other hne)).trans hcl),?_⟩;rw[HS.out,HP.out];exact⟨rfl,hB.trans ⟨rfl,rfl,rfl,by simp,fun q hq=>World.putObj_heap_other (by omega)⟩⟩)))
 ·(
 have k40:decide (40<(cs.length:Int))=true:=decide_eq_true (by omega);have HS:Hid (jge cs=false):=by show jge cs=_;unfold jge;rw[decide_eq_false h40];rfl
 have hcl:=bR.cell;have hcf:=bR.frozen;clear h40;gi_wp2_with fail
 refine⟨trivial,?_⟩;gi_wp2_with fail
 refine⟨trivial,?_⟩;gi_wp2_with fail
 refine⟨_,jzx rfl rfl _ _ w.heap.size (.bool false) rfl bR.cell,?_⟩;rw[HS.out];exact⟨rfl,hB0⟩)
end V4
end Go.Proofs.YtobggoephhjofaaGreatDoor
