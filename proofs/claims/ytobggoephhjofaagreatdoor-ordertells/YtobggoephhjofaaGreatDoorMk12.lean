/- A part. No condition. -/
import Derived.Test.YtobggoephhjofaaGreatDoorMk11
set_option maxRecDepth 100000
set_option maxHeartbeats 16000000
namespace Go.Proofs.YtobggoephhjofaaGreatDoor
namespace C3
open Go.RowKit
def juh(w:World)(b:Bool)(e:Ending)(w':World):Prop:=∃ i:Int,e = .returned (.int .i64 i)/\decide (0<=i)=b/\Below w.heap.size w w'
theorem jw7{p:Tk->Bool}{l:List Tk}{k:Nat}{x:Tk}(h0:(l.take k).any p=false)(hx:l[k]?=some x)(h:p x=false):(l.take (k+1)).any p=false:=by
 obtain⟨hi,he⟩:=List.getElem?_eq_some_iff.1 hx;rw[List.take_succ_eq_append_getElem hi,List.any_append,h0,he];simp[h]
theorem jvt{p:Tk->Bool}{l:List Tk}{k:Nat}(h0:(l.take k).any p=false)(h:l.length<=k):l.any p=false:=by rwa [List.take_of_length_le h] at h0
theorem jvs{p:Tk->Bool}{l:List Tk}{k:Nat}{x:Tk}(hx:l[k]?=some x)(h:p x=true):l.any p=true:=List.any_eq_true.2 ⟨x,List.mem_of_getElem? hx,h⟩
theorem jp1(A:Option Addr)(c:Nat)(l:List Tk)(w:World)(h:In w A c l):Calls Tryz.prog 171 #[.slice A l.length c,.func (.func 164) #[] #[]] w (juh w (l.any bad)):=by
 obtain⟨hl,bD,bC,-⟩:=h;have eI:l.length<=9223372036854775807:=by unfold maxLen at bC;omega
 clear bD bC;go_enter Tryz.func171,Tryz.ntmps171;go_wp2_with fail;go_loopw [8] (fun iv wr=>∃ k:Nat,k<=l.length/\iv = .int .i64 k/\Hid ((l.take k).any bad=false)/\Below w.heap.size w wr) (fun iv _=>l.length - (intOf iv).toNat)
 case atStart=>exact⟨0,Nat.zero_le _,rfl,by simp[Hid],Below.refl _ _⟩
 case round=>(
 obtain⟨k,hk,rfl,h0,ar⟩:=hrel;by_cases hlt:k<l.length
 ·(
 obtain⟨b,off,rfl,hb,hc⟩:=(hl.below ar).get hlt;obtain⟨x,hx⟩:∃ x,l[k]?=some x:=⟨_,List.getElem?_eq_getElem hlt⟩
 obtain⟨cq,cB⟩:=hc k x hx;have HX:=Lh hx;clear hx hc hl;obtain⟨xk,xn⟩:=x;dsimp only at cq cB
 obtain⟨q,hq⟩:=exq (bad ⟨xk,xn⟩);have HQ:=Lh hq;clear hq;go_wp2_with fail;refine (jr3 xk xn wr).mono ?_;rintro e w' ⟨rfl,ab⟩;have bj:Below w.heap.size w w':=ar.trans (ab.mono ar.size);rw[HQ.out];cases q with
 | true=>(go_wp2_with fail;go_ret;exact⟨_,rfl,(by rw[jvs HX.out HQ.out];exact decide_eq_true (by omega)),bj⟩)
 | false=>(
 go_wp2_with fail;go_roundw
 case rel=>exact⟨k+1,by omega,by go_num,jw7 h0.out HX.out HQ.out,bj⟩
 case measure=>simp[intOf];omega))
 ·(go_wp2_with fail;go_ret;exact⟨_,rfl,(by rw[jvt h0.out (by omega)];rfl),ar⟩))
theorem jy2(A:Option Addr)(c:Nat)(l:List Tk)(w:World)(h:In w A c l):Calls Tryz.prog 163 #[.slice A l.length c,.func (.func 164) #[] #[]] w (jz6 w (.bool (l.any bad))):=by
 have HA:=Lh h;clear h;go_enter Tryz.func163,Tryz.ntmps163;go_wp2_with fail;refine (jp1 A c l w HA.out).mono ?_;rintro e w' ⟨i,rfl,hi,hb⟩;have HI:=Lh hi;clear hi;go_wp2_with fail;go_ret;exact⟨jzi HI.out,hb⟩
theorem jpl(A:Option Addr)(c:Nat)(l:List Tk)(w:World)(h:In w A c l):Calls Tryz.prog 146 #[.slice A l.length c] w (jz6 w (.bool (isC l))):=by
 have HA:=Lh h;have eI:l.length<=9223372036854775807:=by have:=h.cap;have:=h.top;unfold maxLen at this;omega
 clear h;by_cases c1:l.length<=40
 ·(
 obtain⟨p,hp⟩:=exq (decide (Asc l));obtain⟨q,hq⟩:=exq (l.any bad);have HR:Hid (isC l=(p && !q)):=by show isC l=_;unfold isC;rw[decide_eq_true c1,hp,hq];rfl
 rw[HR.out];have HP:=Lh hp;have HQ:=Lh hq;clear hp hq;go_enter Tryz.func146,Tryz.ntmps146;go_wp2_with fail;refine (jgk A c l w HA.out).mono ?_;rintro e w1 ⟨rfl,af⟩;rw[HP.out];cases p with
 | false=>(go_wp2_with fail;go_ret;exact⟨rfl,af⟩)
 | true=>(go_wp2_with fail;refine (jy2 A c l w1 (HA.out.later af)).mono ?_;rintro e w2 ⟨rfl,ab⟩;rw[HQ.out];go_wp2_with fail;go_ret;exact⟨by simp,af.trans (ab.mono af.size)⟩))
 ·(
 have HR:Hid (isC l=false):=by show isC l=_;unfold isC;rw[decide_eq_false c1];rfl
 rw[HR.out];have d1:decide ((l.length:Int)<=40)=false:=decide_eq_false (by omega);go_enter Tryz.func146,Tryz.ntmps146;go_wp2_with fail;go_ret;exact⟨rfl,Below.refl _ _⟩)
theorem jnr(A A':Option Addr)(c c':Nat)(l l':List Tk)(w:World)(h:In w A c l)(h':In w A' c' l'):Calls Tryz.prog 140 #[.slice A l.length c,.slice A' l'.length c'] w (jz6 w (.bool (decide (l=l')))):=by
 obtain⟨hl,bD,bC,-⟩:=h;obtain⟨cR,-,-,-⟩:=h';have eI:l.length<=9223372036854775807:=by unfold maxLen at bC;omega
 clear bD bC;by_cases aq:l.length=l'.length
 ·(
 have fF:=Lh aq;have hle:l'.length=l.length:=aq.symm;clear aq;rw[hle];clear hle;go_enter Tryz.func140,Tryz.ntmps140;go_wp2_with fail;go_loopw [13] (fun iv wr=>∃ k:Nat,k<=l.length/\iv = .int .i64 k/\Hid (l.take k=l'.take k)/\Below w.heap.size w wr) (fun iv _=>l.length - (intOf iv).toNat)
 case atStart=>exact⟨0,Nat.zero_le _,rfl,by simp[Hid],Below.refl _ _⟩
 case round=>(
 obtain⟨k,hk,rfl,h0,ar⟩:=hrel;by_cases hlt:k<l.length
 ·(
 have cJ:k<l'.length:=by have:=fF.out;omega
 obtain⟨b,off,rfl,hb,hc⟩:=(hl.below ar).get hlt;obtain⟨x,hx⟩:∃ x,l[k]?=some x:=⟨_,List.getElem?_eq_getElem hlt⟩
 obtain⟨cq,cB⟩:=hc k x hx;have HX:=Lh hx;obtain⟨b',off',rfl,ct,cP⟩:=(cR.below ar).get cJ;obtain⟨y,hy⟩:∃ y,l'[k]?=some y:=⟨_,List.getElem?_eq_getElem cJ⟩
 obtain⟨fI,fM⟩:=cP k y hy;have HY:=Lh hy;clear hx hc hl hy cP cR;obtain⟨xk,xn⟩:=x;obtain⟨yk,yn⟩:=y;dsimp only at cq cB fI fM
 have lj:(k:Int)<(l.length:Int):=by omega
 by_cases he:xk=yk/\xn=yn
 ·(
 obtain⟨rfl,rfl⟩:=he;go_wp2_with fail;go_quiet (fail)
 go_wp2_with fail;go_roundw
 case rel=>exact⟨k+1,by omega,by go_num,jj7 h0.out HX.out HY.out,jzq ar _⟩
 case measure=>simp[intOf];omega)
 ·(
 have HE:=Lh he;have cQ:Hid (Tk.mk xk xn≠Tk.mk yk yn):=by intro e;cases e;exact HE.out ⟨rfl,rfl⟩
 by_cases jC:xk=yk
 ·(
 have eo:¬ xn=yn:=fun e=>he ⟨jC,e⟩
 have fC:(xk == yk)=true:=by simp[jC]
 have ji:(xn == yn)=false:=by simp[eo]
 clear he jC eo;go_wp2_with fail;go_quiet (fail)
 go_wp2_with fail;go_ret;exact⟨jzi (jox HX.out HY.out cQ.out).symm,jzq ar _⟩)
 ·(
 have fC:(xk == yk)=false:=by simp[jC]
 clear he jC;go_wp2_with fail;go_quiet (fail)
 go_wp2_with fail;go_ret;exact⟨jzi (jox HX.out HY.out cQ.out).symm,jzq ar _⟩)))
 ·(go_wp2_with fail;go_ret;exact⟨jzi (jtr h0.out (by omega) (by have:=fF.out;omega)).symm,ar⟩)))
 ·(
 rw[jta aq];have hne:¬ ((l.length:Int)=l'.length):=by omega
 clear aq;go_enter Tryz.func140,Tryz.ntmps140;go_wp2_with fail;go_ret;exact⟨rfl,Below.refl _ _⟩)
theorem jb7(A A':Option Addr)(c c':Nat)(l l':List Tk)(w:World)(h:In w A c l)(h':In w A' c' l'):Calls Tryz.prog 110 #[.slice A l.length c,.slice A' l'.length c'] w (jz6 w (.bool (decide (l=l')))):=by
 have HE:=Lh (jnr A A' c c' l l' w h h');clear h h';go_enter Tryz.func110,Tryz.ntmps110;go_wp2_with fail;refine HE.out.mono ?_;rintro e w' ⟨rfl,hb⟩;go_wp2_with fail;go_ret;exact⟨rfl,hb⟩
theorem jhb{xs:List Tk}{q:Int}{m:Nat}{y:Tk}(h:Asc xs)(hy:xs[m]?=some y)(hlt:y.k<q):∀ x∈xs.take (m+1),x.k<q:=by
 intro x hx;obtain⟨hm,he⟩:=List.getElem?_eq_some_iff.1 hy;obtain⟨i,hi,rfl⟩:=List.mem_iff_getElem.1 hx;simp only[List.getElem_take];have nU:i<m+1:=by simp at hi;omega
 rcases Nat.lt_or_ge i m with h1 | h1
 ·(have:=List.pairwise_iff_getElem.1 h i m (by omega) hm h1;rw[he] at this;exact Int.lt_trans this hlt)
 ·(
 have:i=m:=by omega
 subst this;rw[he];exact hlt)
theorem jcy{xs:List Tk}{q:Int}{m:Nat}{y:Tk}(h:Asc xs)(hy:xs[m]?=some y)(hge:q<=y.k):∀ x∈xs.drop m,q<=x.k:=by
 intro x hx;obtain⟨hm,he⟩:=List.getElem?_eq_some_iff.1 hy;rw[List.drop_eq_getElem_cons hm,he] at hx;rcases List.mem_cons.1 hx with e | e
 ·rw[e];exact hge
 ·(have hp:Asc (xs.drop m):=List.Pairwise.drop h;rw[List.drop_eq_getElem_cons hm,he] at hp;have:=(List.pairwise_cons.1 hp).1 x e;omega)
theorem jtn{xs:List Tk}{q:Int}{m:Nat}(h:Asc xs)(h1:∀ x∈xs.take m,x.k<q)(h2:∀ y,xs[m]?=some y->q<y.k):∀ x∈xs,x.k≠q:=by
 intro s hs e;rw[<- List.take_append_drop m xs] at hs;rcases List.mem_append.1 hs with k | k
 ·(have:=h1 s k;omega)
 ·(
 cases hx:xs[m]? with
 | none=>(rw[List.getElem?_eq_none_iff] at hx;rw[List.drop_eq_nil_of_le hx] at k;cases k)
 | some y=>(have hlt:=h2 y hx;have:=jcy (q:=y.k) h hx (Int.le_refl _) s k;omega))
def RetPos(l:List Tk)(q:Int)(w:World)(e:Ending)(w':World):Prop :=
  ∃ (m:Nat) (b:Bool),e = .returned (.tuple #[.int .i64 m,.bool b])/\(b=true->∃ x,l[m]?=some x/\x.k=q)/\(b=false->∀ x∈l,x.k≠q)/\Below w.heap.size w w'
theorem jok(A:Option Addr)(c:Nat)(l:List Tk)(q tn:Int)(w:World)(h:In w A c l)(ha:Asc l)(aq:l.length<=1000):Calls Tryz.prog 173 #[.slice A l.length c,.agg #[.int .i64 q,.int .u64 tn],.func (.func 127) #[] #[]] w (RetPos l q w):=by
 obtain⟨hl,-,-,-⟩:=h;have HS:=Lh ha;clear ha;go_enter Tryz.func173,Tryz.ntmps173;go_wp2_with fail;go_loopw [9,10] (fun i j wr=>∃ lo hi:Nat,lo<=hi/\hi<=l.length/\i = .int .i64 lo/\j = .int .i64 hi/\Hid (∀ x∈l.take lo,x.k<q)/\Hid (∀ x∈l.drop hi,q<=x.k)/\Below w.heap.size w wr /\
   wr.cell? ⟨w.heap.size,0,none⟩=some (.int .i64 q)/\wr.cell? ⟨w.heap.size,1,none⟩=some (.int .u64 tn)/\w.heap.size<wr.heap.size) (fun i j _=>(intOf j).toNat - (intOf i).toNat)
 case atStart=>exact⟨0,l.length,Nat.zero_le _,Nat.le_refl _,rfl,rfl,by simp[Hid],by simp[Hid],jzf _ _,by simp,by simp,by simp⟩
 case round=>(
 obtain⟨lo,hi,hlh,bx,rfl,rfl,h1,h2,ar,cU,eG,ae⟩:=hrel;by_cases hlt:lo<hi
 ·(
 have lM:(lo+hi) / 2<l.length:=by omega
 obtain⟨b,off,rfl,hb,hc⟩:=(hl.below ar).get lM;obtain⟨y,hy⟩:∃ y,l[(lo+hi) / 2]?=some y:=⟨_,List.getElem?_eq_getElem lM⟩
 obtain⟨cq,cB⟩:=hc _ y hy;have HY:=Lh hy;clear hy hc hl;obtain⟨yk,yn⟩:=y;dsimp only at cq cB
 have hmI:((lo:Int)+(hi:Int)) / 2<(l.length:Int):=by omega
 have hmN:(((lo:Int)+(hi:Int)) / 2).toNat=(lo+hi) / 2:=by omega
 have o7:0<=((lo:Int)+(hi:Int)) / 2:=by omega
 have hmE:((lo:Int)+(hi:Int)) / 2=(((lo+hi) / 2:Nat):Int):=by omega
 have HME:=Lh hmE;have eM:=Lh ar;clear hmE ar;go_wp2_with fail;go_still_tail 6,(by kernel_rfl)
 change wpList _ _ _ _ _ wr.drew;clear hmI hmN o7;go_wp2_with fail;refine (jkw yk yn q tn _).mono ?_;rintro e w4 ⟨rfl,ca⟩;have kb:Below w.heap.size w w4:=(eM.out.drew).trans (ca.mono eM.out.size);have cN:w4.cell? ⟨w.heap.size,0,none⟩=some (.int .i64 q):=(ca.cell (p:=⟨w.heap.size,0,none⟩) ae).trans cU;have eb:w4.cell? ⟨w.heap.size,1,none⟩=some (.int .u64 tn):=(ca.cell (p:=⟨w.heap.size,1,none⟩) ae).trans eG;have u6:w.heap.size<w4.heap.size:=ltl ae ca.size;clear ca cU eG ae cq cB;rw[HME.out];by_cases c4:yk<q
 ·(
 have HC:=Lh c4;rw[jxz c4];clear c4;go_wp2_with fail;go_roundw
 case rel=>exact⟨(lo+hi) / 2+1,hi,by omega,bx,by go_num,rfl,jhb HS.out HY.out HC.out,h2,kb,cN,eb,u6⟩
 case measure=>simp[intOf];omega)
 ·(
 have HC:Hid (q<=yk):=by show q<=yk;omega
 have c5:0<=jjd yk q:=by unfold jjd;rw[if_neg c4];split <;> omega
 generalize jjd yk q=z at *;clear c4;go_wp2_with fail;go_roundw
 case rel=>exact⟨lo,(lo+hi) / 2,by omega,by omega,rfl,by go_num,h1,jcy HS.out HY.out HC.out,kb,cN,eb,u6⟩
 case measure=>simp[intOf];omega))
 ·(
 obtain rfl:lo=hi:=by omega
 by_cases lM:lo<l.length
 ·(
 obtain⟨b,off,rfl,hb,hc⟩:=(hl.below ar).get lM;obtain⟨y,hy⟩:∃ y,l[lo]?=some y:=⟨_,List.getElem?_eq_getElem lM⟩
 obtain⟨cq,cB⟩:=hc _ y hy;have HY:=Lh hy;have HM:Hid (q<=y.k):=h2.out y (by rw[jg7 hy];simp);clear hy hc hl;obtain⟨yk,yn⟩:=y;dsimp only at cq cB HM
 have hli:(lo:Int)<(l.length:Int):=by omega
 have cD:b<wr.heap.size:=ltl hb ar.size;have eM:Hid (Below w.heap.size w wr.drew):=ar.drew;clear ar;by_cases c4:yk=q
 ·(
 have HC:=Lh c4;have HZ:Hid (jjd yk q=0):=by show jjd yk q=0;rw[c4,jjc]
 clear c4;go_wp2_with fail;go_region_held3 (fun w'=>w'.cell? ⟨b,off+lo*2,none⟩=some (.int .i64 yk)/\w'.cell? ⟨b,off+lo*2+1,none⟩=some (.int .u64 yn)/\w'.cell? ⟨w.heap.size,0,none⟩=some (.int .i64 q)/\w'.cell? ⟨w.heap.size,1,none⟩=some (.int .u64 tn))
   (first
     | exact⟨cq,cB,cU,eG⟩)
   (first
     | (go_at_call 127;refine (jkw yk yn q tn _).mono ?_;rintro e w4 ⟨rfl,ca⟩;(rw[HZ.out];replace cq:=(ca.cell (p:=⟨b,off+lo*2,none⟩) cD).trans cq;replace cB:=(ca.cell (p:=⟨b,off+lo*2+1,none⟩) cD).trans cB;replace cU:=(ca.cell (p:=⟨w.heap.size,0,none⟩) ae).trans cU;replace eG:=(ca.cell (p:=⟨w.heap.size,1,none⟩) ae).trans eG;replace eM:Hid (Below w.heap.size w w4):=eM.out.trans (ca.mono eM.out.size);clear ca)))
 go_wp2_with fail;go_ret2;exact⟨lo,true,rfl,fun _=>⟨_,HY.out,HC.out⟩,(fun h=>by cases h),eM.out⟩)
 ·(
 have HC:=Lh c4;have HZ:Hid (jjd yk q=1):=jjb (by have:=HM.out;omega);clear c4;go_wp2_with fail;go_region_held3 (fun w'=>w'.cell? ⟨b,off+lo*2,none⟩=some (.int .i64 yk)/\w'.cell? ⟨b,off+lo*2+1,none⟩=some (.int .u64 yn)/\w'.cell? ⟨w.heap.size,0,none⟩=some (.int .i64 q)/\w'.cell? ⟨w.heap.size,1,none⟩=some (.int .u64 tn))
   (first
     | exact⟨cq,cB,cU,eG⟩)
   (first
     | (go_at_call 127;refine (jkw yk yn q tn _).mono ?_;rintro e w4 ⟨rfl,ca⟩;(rw[HZ.out];replace cq:=(ca.cell (p:=⟨b,off+lo*2,none⟩) cD).trans cq;replace cB:=(ca.cell (p:=⟨b,off+lo*2+1,none⟩) cD).trans cB;replace cU:=(ca.cell (p:=⟨w.heap.size,0,none⟩) ae).trans cU;replace eG:=(ca.cell (p:=⟨w.heap.size,1,none⟩) ae).trans eG;replace eM:Hid (Below w.heap.size w w4):=eM.out.trans (ca.mono eM.out.size);clear ca)))
 go_wp2_with fail;go_ret2;refine⟨lo,false,rfl,(fun h=>by cases h),fun _=>jtn HS.out h1.out fun z hz=>?_,eM.out⟩;have e:=HY.out;rw[hz] at e;cases e
 have:=HM.out;have:=HC.out;show q<yk
 omega))
 ·(
 have d1:decide ((lo:Int)<(l.length:Int))=false:=decide_eq_false (by omega);go_wp2_with fail;go_quiet (fail)
 go_wp2_with fail;go_ret2;exact⟨lo,false,rfl,(fun h=>by cases h),fun _=>jtn HS.out h1.out fun z hz=>absurd (List.getElem?_eq_some_iff.1 hz).1 lM,jzq ar _⟩)))
@[go_sem] theorem run_field_n(k n:Int)(w:World):(Instr.field 53 (.agg #[.int .i64 k,.int .u64 n]) 1).run Tryz.prog w = .ok (.int .u64 n) w:=by
 have h:=run_underlying (P:=Tryz.prog) (w:=w) Tryz.underlying53;have h2:=run_underlying (P:=Tryz.prog) (w:=w) Tryz.underlying25;simp[Instr.field,h,h2,part,asAgg,isAgg]
def RetFn(w:World)(n:Int)(e:Ending)(w':World):Prop:=∃ k:Int,e = .returned (.agg #[.int .i64 k,.int .u64 n])/\Below w.heap.size w w'
theorem jnl(A:Option Addr)(c:Nat)(l:List Tk)(q:Int)(w:World)(h:In w A c l)(ha:Asc l)(aq:l.length<=1000):Calls Tryz.prog 172 #[.slice A l.length c,.agg #[.int .i64 q,.int .u64 0],.func (.func 127) #[] #[]] w (RetFn w (ofC l q)):=by
 have cE:Hid (Below w.heap.size w (((w.alloc (.cells #[.int .i64 q,.int .u64 0] 53)).alloc (.cells #[.int .i64 0,.int .u64 0] 53)).alloc (.cells #[.int .i64 0,.int .u64 0] 53))):=jzk (jzk (jzk (Below.refl _ _)));have HA:=Lh (h.later cE.out);have HS:=Lh ha;clear h ha;go_enter Tryz.func172,Tryz.ntmps172;go_wp2_with fail;refine (jok A c l q 0 _ HA.out HS.out aq).mono ?_;rintro e w4 ⟨m,p,rfl,hy,hn,ab⟩;have HB4:Hid (Below w.heap.size w w4):=cE.out.trans (ab.mono cE.out.size);have jY:w4.cell? ⟨w.heap.size+1,0,none⟩=some (.int .i64 0):=(ab.cell (p:=⟨w.heap.size+1,0,none⟩) (by simp)).trans (by go_simp);have jh:w4.cell? ⟨w.heap.size+1,1,none⟩=some (.int .u64 0):=(ab.cell (p:=⟨w.heap.size+1,1,none⟩) (by simp)).trans (by go_simp);have hp0:w4.cell? ⟨w.heap.size+1+1,0,none⟩=some (.int .i64 0):=(ab.cell (p:=⟨w.heap.size+1+1,0,none⟩) (by simp)).trans (by go_simp);have dC:w4.cell? ⟨w.heap.size+1+1,1,none⟩=some (.int .u64 0):=(ab.cell (p:=⟨w.heap.size+1+1,1,none⟩) (by simp)).trans (by go_simp);have hf0:w4.frozen? ⟨w.heap.size+1,0,none⟩=false:=(ab.frozen (p:=⟨w.heap.size+1,0,none⟩) (by simp)).trans (by go_simp);have hf1:w4.frozen? ⟨w.heap.size+1,1,none⟩=false:=(ab.frozen (p:=⟨w.heap.size+1,1,none⟩) (by simp)).trans (by go_simp);have o4:w.heap.size+1<w4.heap.size:=ltl (by simp) ab.size;cases p with
 | true=>(
 obtain⟨x,hx,he⟩:=hy rfl;have HV:Hid (ofC l q=x.n):=by show ofC l q=x.n;rw[<- he];exact jms HS.out (List.mem_of_getElem? hx)
 have hm:m<l.length:=(List.getElem?_eq_some_iff.1 hx).1;have wi:=HA.out.later ab;obtain⟨b,off,rfl,hb,hc⟩:=wi.lies.get hm;obtain⟨cq,cB⟩:=hc m x hx;obtain⟨xk,xn⟩:=x;dsimp only at cq cB HV
 clear hx he hy hn hc wi ab HA cE;go_wp2_with fail;refine bodyPost_ret (jjm rfl _ _ (w.heap.size+1) (.int .i64 xk) (.int .u64 xn) rfl (by go_simp) (by go_simp)) rfl ?_;exact⟨xk,by rw[HV.out],(HB4.out.setCell (by simp) _).setCell (by simp) _⟩)
 | false=>(have HV:Hid (ofC l q=0):=jmr (hn rfl);clear hy hn ab HA cE;go_wp2_with fail;refine bodyPost_ret (jjm rfl _ _ (w.heap.size+1) (.int .i64 0) (.int .u64 0) rfl (by go_simp) (by go_simp)) rfl ?_;exact⟨0,by rw[HV.out],(HB4.out.setCell (by simp) _).setCell (by simp) _⟩)
theorem Of_any(A:Option Addr)(c:Nat)(l:List Tk)(q:Int)(w:World)(h:In w A c l)(ha:Asc l)(aq:l.length<=1000):Calls Tryz.prog 170 #[.slice A l.length c,.int .i64 q] w (jz6 w (.int .u64 (ofC l q))):=by
 have HA:=Lh h;have HS:=Lh ha;clear h ha;go_enter Tryz.func170,Tryz.ntmps170;go_wp2_with fail;refine (jnl A c l q w HA.out HS.out aq).mono ?_;rintro e w' ⟨k,rfl,hb⟩;go_wp2_with fail;go_ret;exact⟨rfl,hb⟩
theorem jie(B:Nat)(A:Option Addr)(c:Nat)(l:List Tk)(xk xn:Int)(w:World)(hB:B<w.heap.size)(hc:w.cell? ⟨B,0,none⟩=some (.slice A l.length c))(h:In w A c l)(ha:Asc l)(aq:l.length<=1000):Calls Tryz.prog 169 #[.agg #[.int .i64 xk,.int .u64 xn],.pointer (some ⟨B,0,none⟩)] w (jz6 w (.bool (decide (ofC l xk<xn)))):=by
 have cE:Hid (Below w.heap.size w (w.alloc (.cells #[.int .i64 xk,.int .u64 xn] 53)).drew):=(jzf _ _).drew;have HA:=Lh (h.later cE.out);have HS:=Lh ha;clear h ha;go_enter Tryz.func169,Tryz.ntmps169;go_wp2_with fail;have e0:(w.alloc (.cells #[.int .i64 xk,.int .u64 xn] 53)).cell? ⟨w.heap.size,0,none⟩=some (.int .i64 xk):=by simp
 have e1:(w.alloc (.cells #[.int .i64 xk,.int .u64 xn] 53)).cell? ⟨w.heap.size,1,none⟩=some (.int .u64 xn):=by simp
 have e2:(w.alloc (.cells #[.int .i64 xk,.int .u64 xn] 53)).cell? ⟨B,0,none⟩=some (.slice A l.length c):=((jzf w _).cell (p:=⟨B,0,none⟩) hB).trans hc;generalize (w.alloc (.cells #[.int .i64 xk,.int .u64 xn] 53))=W0 at *;have iw:B<W0.heap.size:=World.block_lt_of_cell? W0 _ e2;have de:w.heap.size<W0.heap.size:=World.block_lt_of_cell? W0 _ e0;obtain⟨z,hz⟩:=exq (ofC l xk);have HZ:=Lh hz;clear hB hc hz;go_region_held3 (fun w'=>w'.cell? ⟨w.heap.size,0,none⟩=some (.int .i64 xk)/\w'.cell? ⟨w.heap.size,1,none⟩=some (.int .u64 xn)/\w'.cell? ⟨B,0,none⟩=some (.slice A l.length c))
   (first
     | exact⟨e0,e1,e2⟩)
   (first
     | (go_at_call 170;refine (Of_any A c l xk _ HA.out HS.out aq).mono ?_;rintro e w4 ⟨rfl,ca⟩;(rw[HZ.out];replace e0:=(ca.cell (p:=⟨w.heap.size,0,none⟩) de).trans e0;replace e1:=(ca.cell (p:=⟨w.heap.size,1,none⟩) de).trans e1;replace e2:=(ca.cell (p:=⟨B,0,none⟩) iw).trans e2;replace cE:Hid (Below w.heap.size w w4):=cE.out.trans (ca.mono cE.out.size);clear ca)))
 go_wp2_with fail;go_ret;exact⟨(by rw[HZ.out];rfl),cE.out⟩
def jz2(l':List Tk)(t:Tk):Bool:=decide (ofC l' t.k<t.n)
theorem jp2(B:Nat)(A A':Option Addr)(c c':Nat)(l l':List Tk)(w:World)(h:In w A c l)(h':In w A' c' l')(hB:B<w.heap.size)(ww:w.cell? ⟨B,0,none⟩=some (.slice A' l'.length c'))(ha:Asc l')(aq:l'.length<=1000):Calls Tryz.prog 171 #[.slice A l.length c,.func (.func 169) #[] #[.pointer (some ⟨B,0,none⟩)]] w (juh w (l.any (jz2 l'))):=by
 obtain⟨hl,bD,bC,-⟩:=h;have eI:l.length<=9223372036854775807:=by unfold maxLen at bC;omega
 have HA:=Lh h';have HS:=Lh ha;have HCB:=Lh ww;have HB:=Lh hB;clear bD bC h' ha ww hB;go_enter Tryz.func171,Tryz.ntmps171;go_wp2_with fail;go_loopw [8] (fun iv wr=>∃ k:Nat,k<=l.length/\iv = .int .i64 k/\Hid ((l.take k).any (jz2 l')=false)/\Below w.heap.size w wr) (fun iv _=>l.length - (intOf iv).toNat)
 case atStart=>exact⟨0,Nat.zero_le _,rfl,by simp[Hid],Below.refl _ _⟩
 case round=>(
 obtain⟨k,hk,rfl,h0,ar⟩:=hrel;by_cases hlt:k<l.length
 ·(
 obtain⟨b,off,rfl,hb,hc⟩:=(hl.below ar).get hlt;obtain⟨x,hx⟩:∃ x,l[k]?=some x:=⟨_,List.getElem?_eq_getElem hlt⟩
 obtain⟨cq,cB⟩:=hc k x hx;have HX:=Lh hx;clear hx hc hl;obtain⟨xk,xn⟩:=x;dsimp only at cq cB
 obtain⟨q,hq⟩:=exq (jz2 l' ⟨xk,xn⟩);have HQ:=Lh hq;have mr:Hid (decide (ofC l' xk<xn)=q):=hq;clear hq;go_wp2_with fail;refine (jie B A' c' l' xk xn wr (ltl HB.out ar.size) ((ar.cell (p:=⟨B,0,none⟩) HB.out).trans HCB.out) (HA.out.later ar) HS.out aq).mono ?_;rintro e w' ⟨rfl,ab⟩;have bj:Below w.heap.size w w':=ar.trans (ab.mono ar.size);rw[mr.out];cases q with
 | true=>(go_wp2_with fail;go_ret;exact⟨_,rfl,(by rw[jvs HX.out HQ.out];exact decide_eq_true (by omega)),bj⟩)
 | false=>(
 go_wp2_with fail;go_roundw
 case rel=>exact⟨k+1,by omega,by go_num,jw7 h0.out HX.out HQ.out,bj⟩
 case measure=>simp[intOf];omega))
 ·(go_wp2_with fail;go_ret;exact⟨_,rfl,(by rw[jvt h0.out (by omega)];rfl),ar⟩))
theorem jy3(B:Nat)(A A':Option Addr)(c c':Nat)(l l':List Tk)(w:World)(h:In w A c l)(h':In w A' c' l')(hB:B<w.heap.size)(ww:w.cell? ⟨B,0,none⟩=some (.slice A' l'.length c'))(ha:Asc l')(aq:l'.length<=1000):Calls Tryz.prog 163 #[.slice A l.length c,.func (.func 169) #[] #[.pointer (some ⟨B,0,none⟩)]] w (jz6 w (.bool (l.any (jz2 l')))):=by
 have HI0:=Lh (jp2 B A A' c c' l l' w h h' hB ww ha aq);clear h h' hB ww ha;go_enter Tryz.func163,Tryz.ntmps163;go_wp2_with fail;refine HI0.out.mono ?_;rintro e w' ⟨i,rfl,hi,hb⟩;have HI:=Lh hi;clear hi;go_wp2_with fail;go_ret;exact⟨jzi HI.out,hb⟩
theorem jr6(l l':List Tk):(!l.any (jz2 l'))=jqk l l':=by
 unfold jqk;induction l with
 | nil=>rfl
 | cons x l ih=>(
 rw[List.any_cons,List.all_cons,Bool.not_or,ih];congr 1
 unfold jz2;by_cases h:ofC l' x.k<x.n
 ·rw[decide_eq_true h,decide_eq_false (by omega)];rfl
 ·rw[decide_eq_false h,decide_eq_true (by omega)];rfl)
theorem jp7(A A':Option Addr)(c c':Nat)(l l':List Tk)(w:World)(h:In w A c l)(h':In w A' c' l')(ha:Asc l')(aq:l'.length<=1000):Calls Tryz.prog 157 #[.slice A l.length c,.slice A' l'.length c'] w (jz6 w (.bool (jqk l l'))):=by
 have cE:Hid (Below w.heap.size w (w.alloc (.cells #[.slice A' l'.length c'] 54))):=jzf _ _;have xB:=Lh (jy3 w.heap.size A A' c c' l l' _ (h.later cE.out) (h'.later cE.out) (by simp) (by simp) ha aq);clear h h' ha;go_enter Tryz.func157,Tryz.ntmps157;go_wp2_with fail;refine xB.out.mono ?_;rintro e w' ⟨rfl,hb⟩;go_wp2_with fail;go_ret;exact⟨jzi (jr6 l l'),cE.out.trans (hb.mono cE.out.size)⟩
theorem jpn(A A':Option Addr)(c c':Nat)(l l':List Tk)(w:World)(h:In w A c l)(h':In w A' c' l')(ha:Asc l)(sI:Asc l')(aq:l.length<=1000)(jA:l'.length<=1000):Calls Tryz.prog 136 #[.slice A l.length c,.slice A' l'.length c'] w (jz6 w (.int .i64 (jxt l l'))):=by
 have HA:=Lh h;have HB:=Lh h';have HS:=Lh ha;have HS':=Lh sI;clear h h' ha sI;obtain⟨p,hp⟩:=exq (jqk l l');obtain⟨q,hq⟩:=exq (jqk l' l);have HC:Hid (jxt l l'=cmpB p q):=by show jxt l l'=_;unfold jxt;rw[hp,hq]
 have HP:=Lh hp;have HQ:=Lh hq;clear hp hq;rw[HC.out];go_enter Tryz.func136,Tryz.ntmps136;go_wp2_with fail;refine (jp7 A A' c c' l l' w HA.out HB.out HS'.out jA).mono ?_;rintro e w1 ⟨rfl,af⟩;rw[HP.out];go_wp2_with fail;refine (jp7 A' A c' c l' l w1 (HB.out.later af) (HA.out.later af) HS.out aq).mono ?_;rintro e w2 ⟨rfl,ab⟩;rw[HQ.out];have bj:Below w.heap.size w w2:=af.trans (ab.mono af.size);cases p <;> cases q
 all_goals
   go_wp2_with fail
   go_ret
   exact⟨rfl,bj⟩
end C3
namespace V4
open Go.RowKit
open C3 (juh)
def jv6(s:Str):Bool:=decide (16<s.length)
theorem jw7{α:Type}{p:α->Bool}{l:List α}{k:Nat}{x:α}(h0:(l.take k).any p=false)(hx:l[k]?=some x)(h:p x=false):(l.take (k+1)).any p=false:=by
 obtain⟨hi,he⟩:=List.getElem?_eq_some_iff.1 hx;rw[List.take_succ_eq_append_getElem hi,List.any_append,h0,he];simp[h]
theorem jvt{α:Type}{p:α->Bool}{l:List α}{k:Nat}(h0:(l.take k).any p=false)(h:l.length<=k):l.any p=false:=by rwa [List.take_of_length_le h] at h0
theorem jvs{α:Type}{p:α->Bool}{l:List α}{k:Nat}{x:α}(hx:l[k]?=some x)(h:p x=true):l.any p=true:=List.any_eq_true.2 ⟨x,List.mem_of_getElem? hx,h⟩
theorem jtf(s:Str)(w:World)(hs:s.length<=maxLen):Calls Tryz.prog 143 #[.string (S s)] w (jz6 w (.bool (jv6 s))):=by
 have ae:=S_size s;have eI:s.length<=9223372036854775807:=by unfold maxLen at hs;omega
 clear hs;go_enter Tryz.func143,Tryz.ntmps143;go_wp2_with fail;go_ret;refine⟨jzi ?_,Below.refl _ _⟩;unfold jv6;rw[decide_eq_decide];omega
theorem jm6(A:Option Addr)(c:Nat)(ss:List Str)(w:World)(hl:jqr w A ss)(hn:ss.length<=maxLen)(ht:∀ s∈ss,s.length<=maxLen):Calls Tryz.prog 160 #[.slice A ss.length c,.func (.func 143) #[] #[]] w (juh w (ss.any jv6)):=by
 have eI:ss.length<=9223372036854775807:=by unfold maxLen at hn;omega
 clear hn;have HT:=Lh ht;clear ht;go_enter Tryz.func160,Tryz.ntmps160;go_wp2_with fail;go_loopw [8] (fun iv wr=>∃ k:Nat,k<=ss.length/\iv = .int .i64 k/\Hid ((ss.take k).any jv6=false)/\Below w.heap.size w wr) (fun iv _=>ss.length - (intOf iv).toNat)
 case atStart=>exact⟨0,Nat.zero_le _,rfl,by simp[Hid],Below.refl _ _⟩
 case round=>(
 obtain⟨k,hk,rfl,h0,ar⟩:=hrel;by_cases hlt:k<ss.length
 ·(
 obtain⟨b,off,rfl,hb,hc⟩:=(hl.below ar).get hlt;obtain⟨x,hx⟩:∃ x,ss[k]?=some x:=⟨_,List.getElem?_eq_getElem hlt⟩
 have cq:=hc k x hx;have HX:=Lh hx;clear hx hc hl;obtain⟨q,hq⟩:=exq (jv6 x);have HQ:=Lh hq;clear hq;go_wp2_with fail;refine (jtf x wr (HT.out x (List.mem_of_getElem? HX.out))).mono ?_;rintro e w' ⟨rfl,ab⟩;have bj:Below w.heap.size w w':=ar.trans (ab.mono ar.size);rw[HQ.out];cases q with
 | true=>(go_wp2_with fail;go_ret;exact⟨_,rfl,(by rw[jvs HX.out HQ.out];exact decide_eq_true (by omega)),bj⟩)
 | false=>(
 go_wp2_with fail;go_roundw
 case rel=>exact⟨k+1,by omega,by go_num,jw7 h0.out HX.out HQ.out,bj⟩
 case measure=>simp[intOf];omega))
 ·(go_wp2_with fail;go_ret;exact⟨_,rfl,(by rw[jvt h0.out (by omega)];rfl),ar⟩))
theorem jbs(A:Option Addr)(c:Nat)(ss:List Str)(w:World)(hl:jqr w A ss)(hn:ss.length<=maxLen)(ht:∀ s∈ss,s.length<=maxLen):Calls Tryz.prog 142 #[.slice A ss.length c,.func (.func 143) #[] #[]] w (jz6 w (.bool (ss.any jv6))):=by
 have HA:=Lh (jm6 A c ss w hl hn ht);clear hl hn ht;go_enter Tryz.func142,Tryz.ntmps142;go_wp2_with fail;refine HA.out.mono ?_;rintro e w' ⟨i,rfl,hi,hb⟩;have HI:=Lh hi;clear hi;go_wp2_with fail;go_ret;exact⟨jzi HI.out,hb⟩
def jkc(ss:List Str):Bool:=decide (ss.length<=40) && (decide (R1.Srt ss) && !ss.any jv6)
theorem jut(A:Option Addr)(c:Nat)(ss:List Str)(w:World)(hl:jqr w A ss)(hn:ss.length<=maxLen)(ht:∀ s∈ss,s.length<=maxLen):Calls Tryz.prog 111 #[.slice A ss.length c] w (jz6 w (.bool (jkc ss))):=by
 have HL:=Lh hl;have HN:=Lh hn;have HT:=Lh ht;have eI:ss.length<=9223372036854775807:=by unfold maxLen at hn;omega
 clear hl hn ht;by_cases fY:ss.length<=40
 ·(
 obtain⟨q,hq⟩:=exq (decide (R1.Srt ss));have HQ:=Lh hq;have hr:jkc ss=(q && !ss.any jv6):=by unfold jkc;rw[decide_eq_true fY,hq];rfl
 rw[hr];clear hq hr;have h41:(ss.length:Int)<=40:=by omega
 go_enter Tryz.func111,Tryz.ntmps111;go_wp2_with fail;refine (R1.jtj A c ss w HL.out HN.out).mono ?_;rintro e w' ⟨rfl,n,rfl⟩;rw[HQ.out];cases q with
 | true=>(go_wp2_with fail;refine (jbs A c ss _ (HL.out.drewN n) HN.out HT.out).mono ?_;rintro e w' ⟨rfl,hb⟩;go_wp2_with fail;go_ret;exact⟨rfl,(jzq (Below.refl _ _) n).trans hb⟩)
 | false=>(go_wp2_with fail;go_ret;exact⟨rfl,jzq (Below.refl _ _) n⟩))
 ·(
 have hr:jkc ss=false:=by unfold jkc;rw[decide_eq_false fY];rfl
 rw[hr];have h41:¬ (ss.length:Int)<=40:=by omega
 clear fY hr;go_enter Tryz.func111,Tryz.ntmps111;go_wp2_with fail;go_ret;exact⟨rfl,Below.refl _ _⟩)
theorem jpd(n m:Int)(sA:Option Addr)(sc a:Nat)(cA:Option Addr)(cc b:Nat)(vA:Option Addr)(vc d:Nat)(w:World):Calls Tryz.prog 71 #[.agg #[.int .u64 n,.int .u64 m,.slice sA a sc,.slice cA b cc,.slice vA d vc]] w (jz6 w (.bool (jqa n m a b d false false false false false))):=by
 have belB:Below w.heap.size w (w.alloc (.cells #[.int .u64 n,.int .u64 m,.slice sA a sc,.slice cA b cc,.slice vA d vc] 30)):=C3.jzk (Below.refl _ _);by_cases h0:n=0
 case neg=>(
 have HR:Hid (jqa n m a b d false false false false false=false):=by show jqa _ _ _ _ _ _ _ _ _ _=_;simp[jqa,h0]
 have k0:(n == 0)=false:=by simp;omega
 clear h0;go_enter Tryz.func71,Tryz.ntmps71;go_wp2_with fail;go_ret;exact⟨jzi HR.out.symm,belB⟩)
 by_cases h1:m=0
 case neg=>(
 have HR:Hid (jqa n m a b d false false false false false=false):=by show jqa _ _ _ _ _ _ _ _ _ _=_;simp[jqa,h0,h1]
 have k0:(n == 0)=true:=by simp[h0]
 have k1:(m == 0)=false:=by simp;omega
 clear h0 h1;go_enter Tryz.func71,Tryz.ntmps71;go_wp2_with fail;go_ret;exact⟨jzi HR.out.symm,belB⟩)
 by_cases h2:a=0
 case neg=>(
 have HR:Hid (jqa n m a b d false false false false false=false):=by show jqa _ _ _ _ _ _ _ _ _ _=_;simp[jqa,h0,h1,h2]
 have k0:(n == 0)=true:=by simp[h0]
 have k1:(m == 0)=true:=by simp[h1]
 have k2:((a:Int) == 0)=false:=by simp;omega
 clear h0 h1 h2;go_enter Tryz.func71,Tryz.ntmps71;go_wp2_with fail;go_ret;exact⟨jzi HR.out.symm,belB⟩)
 by_cases h3:b=0
 case neg=>(
 have HR:Hid (jqa n m a b d false false false false false=false):=by show jqa _ _ _ _ _ _ _ _ _ _=_;simp[jqa,h0,h1,h2,h3]
 have k0:(n == 0)=true:=by simp[h0]
 have k1:(m == 0)=true:=by simp[h1]
 have k2:((a:Int) == 0)=true:=by simp;omega
 have k3:((b:Int) == 0)=false:=by simp;omega
 clear h0 h1 h2 h3;go_enter Tryz.func71,Tryz.ntmps71;go_wp2_with fail;go_ret;exact⟨jzi HR.out.symm,belB⟩)
 by_cases h4:d=0
 case neg=>(
 have HR:Hid (jqa n m a b d false false false false false=false):=by show jqa _ _ _ _ _ _ _ _ _ _=_;simp[jqa,h0,h1,h2,h3,h4]
 have k0:(n == 0)=true:=by simp[h0]
 have k1:(m == 0)=true:=by simp[h1]
 have k2:((a:Int) == 0)=true:=by simp;omega
 have k3:((b:Int) == 0)=true:=by simp;omega
 have k4:((d:Int) == 0)=false:=by simp;omega
 clear h0 h1 h2 h3 h4;go_enter Tryz.func71,Tryz.ntmps71;go_wp2_with fail;go_ret;exact⟨jzi HR.out.symm,belB⟩)
 have HR:Hid (jqa n m a b d false false false false false=true):=by show jqa _ _ _ _ _ _ _ _ _ _=_;simp[jqa,h0,h1,h2,h3,h4]
 have k0:(n == 0)=true:=by simp[h0]
 have k1:(m == 0)=true:=by simp[h1]
 have k2:((a:Int) == 0)=true:=by simp[h2]
 have k3:((b:Int) == 0)=true:=by simp[h3]
 have k4:((d:Int) == 0)=true:=by simp[h4]
 clear h0 h1 h2 h3 h4;go_enter Tryz.func71,Tryz.ntmps71;go_wp2_with fail;go_ret;exact⟨jzi HR.out.symm,belB⟩
def jif(w:World)(v:Bool)(e:Ending)(w':World):Prop:=∃ (n m:Int) (sA:Option Addr) (sc a:Nat) (cA:Option Addr) (cc b:Nat) (vA:Option Addr) (vc d:Nat),e = .returned (.agg #[.int .u64 n,.int .u64 m,.slice sA a sc,.slice cA b cc,.slice vA d vc])/\jqa n m a b d false false false false false=v/\Below w.heap.size w w'
theorem jod(n m:Int)(sA:Option Addr)(sc a:Nat)(cA:Option Addr)(cc b:Nat)(vA:Option Addr)(vc d:Nat)(w:World):Calls Tryz.prog 72 #[.int .i64 1,.agg #[.int .u64 n,.int .u64 m,.slice sA a sc,.slice cA b cc,.slice vA d vc]] w (jif w (jqa n m a b d true false false false false)):=by
 go_enter Tryz.func72,Tryz.ntmps72;go_wp2_with fail;refine bodyPost_ret (jzv rfl _ _ (w.heap.size+1) (.int .u64 0) (.int .u64 m) (.slice sA a sc) (.slice cA b cc) (.slice vA d vc) rfl (by go_simp) (by go_simp) (by go_simp) (by go_simp) (by go_simp)) rfl ?_;refine⟨_,_,_,_,_,_,_,_,_,_,_,rfl,by simp[jqa],?_⟩;exact C3.jzk (C3.jzk (Below.refl _ _))
theorem joc(n m:Int)(sA:Option Addr)(sc a:Nat)(cA:Option Addr)(cc b:Nat)(vA:Option Addr)(vc d:Nat)(w:World):Calls Tryz.prog 72 #[.int .i64 2,.agg #[.int .u64 n,.int .u64 m,.slice sA a sc,.slice cA b cc,.slice vA d vc]] w (jif w (jqa n m a b d true false false false false)):=by
 go_enter Tryz.func72,Tryz.ntmps72;go_wp2_with fail;refine bodyPost_ret (jzv rfl _ _ (w.heap.size+1) (.int .u64 0) (.int .u64 m) (.slice sA a sc) (.slice cA b cc) (.slice vA d vc) rfl (by go_simp) (by go_simp) (by go_simp) (by go_simp) (by go_simp)) rfl ?_;refine⟨_,_,_,_,_,_,_,_,_,_,_,rfl,by simp[jqa],?_⟩;exact C3.jzk (C3.jzk (Below.refl _ _))
theorem job(n m:Int)(sA:Option Addr)(sc a:Nat)(cA:Option Addr)(cc b:Nat)(vA:Option Addr)(vc d:Nat)(w:World):Calls Tryz.prog 72 #[.int .i64 3,.agg #[.int .u64 n,.int .u64 m,.slice sA a sc,.slice cA b cc,.slice vA d vc]] w (jif w (jqa n m a b d false false true false false)):=by
 go_enter Tryz.func72,Tryz.ntmps72;go_wp2_with fail;refine bodyPost_ret (jzv rfl _ _ (w.heap.size+1) (.int .u64 n) (.int .u64 m) (.slice none 0 0) (.slice cA b cc) (.slice vA d vc) rfl (by go_simp) (by go_simp) (by go_simp) (by go_simp) (by go_simp)) rfl ?_;refine⟨_,_,_,_,_,_,_,_,_,_,_,rfl,by simp[jqa],?_⟩;exact C3.jzk (C3.jzk (Below.refl _ _))
theorem joa(n m:Int)(sA:Option Addr)(sc a:Nat)(cA:Option Addr)(cc b:Nat)(vA:Option Addr)(vc d:Nat)(w:World):Calls Tryz.prog 72 #[.int .i64 4,.agg #[.int .u64 n,.int .u64 m,.slice sA a sc,.slice cA b cc,.slice vA d vc]] w (jif w (jqa n m a b d false false true false true)):=by
 go_enter Tryz.func72,Tryz.ntmps72;go_wp2_with fail;refine bodyPost_ret (jzv rfl _ _ (w.heap.size+1) (.int .u64 n) (.int .u64 m) (.slice none 0 0) (.slice cA b cc) (.slice none 0 0) rfl (by go_simp) (by go_simp) (by go_simp) (by go_simp) (by go_simp)) rfl ?_;refine⟨_,_,_,_,_,_,_,_,_,_,_,rfl,by simp[jqa],?_⟩;exact C3.jzk (C3.jzk (Below.refl _ _))
theorem jfe(n m:Int)(sA:Option Addr)(sc a:Nat)(cA:Option Addr)(cc b:Nat)(vA:Option Addr)(vc d:Nat)(w:World):Calls Tryz.prog 72 #[.int .i64 5,.agg #[.int .u64 n,.int .u64 m,.slice sA a sc,.slice cA b cc,.slice vA d vc]] w (jif w (jqa n m a b d false false false false true)):=by
 go_enter Tryz.func72,Tryz.ntmps72;go_wp2_with fail;refine bodyPost_ret (jzv rfl _ _ (w.heap.size+1) (.int .u64 n) (.int .u64 m) (.slice sA a sc) (.slice cA b cc) (.slice none 0 0) rfl (by go_simp) (by go_simp) (by go_simp) (by go_simp) (by go_simp)) rfl ?_;refine⟨_,_,_,_,_,_,_,_,_,_,_,rfl,by simp[jqa],?_⟩;exact C3.jzk (C3.jzk (Below.refl _ _))
theorem jt9(n m:Int)(sA:Option Addr)(sc a:Nat)(cA:Option Addr)(cc b:Nat)(vA:Option Addr)(vc d:Nat)(w:World):Calls Tryz.prog 72 #[.int .i64 6,.agg #[.int .u64 n,.int .u64 m,.slice sA a sc,.slice cA b cc,.slice vA d vc]] w (jif w (jqa n m a b d true true true false false)):=by
 go_enter Tryz.func72,Tryz.ntmps72;go_wp2_with fail;refine bodyPost_ret (jzv rfl _ _ (w.heap.size+1) (.int .u64 0) (.int .u64 0) (.slice none 0 0) (.slice cA b cc) (.slice vA d vc) rfl (by go_simp) (by go_simp) (by go_simp) (by go_simp) (by go_simp)) rfl ?_;refine⟨_,_,_,_,_,_,_,_,_,_,_,rfl,by simp[jqa],?_⟩;exact C3.jzk (C3.jzk (Below.refl _ _))
theorem jt8(n m:Int)(sA:Option Addr)(sc a:Nat)(cA:Option Addr)(cc b:Nat)(vA:Option Addr)(vc d:Nat)(w:World):Calls Tryz.prog 72 #[.int .i64 7,.agg #[.int .u64 n,.int .u64 m,.slice sA a sc,.slice cA b cc,.slice vA d vc]] w (jif w (jqa n m a b d false false false true false)):=by
 go_enter Tryz.func72,Tryz.ntmps72;go_wp2_with fail;refine bodyPost_ret (jzv rfl _ _ (w.heap.size+1) (.int .u64 n) (.int .u64 m) (.slice sA a sc) (.slice none 0 0) (.slice vA d vc) rfl (by go_simp) (by go_simp) (by go_simp) (by go_simp) (by go_simp)) rfl ?_;refine⟨_,_,_,_,_,_,_,_,_,_,_,rfl,by simp[jqa],?_⟩;exact C3.jzk (C3.jzk (Below.refl _ _))
theorem jt7(n m:Int)(sA:Option Addr)(sc a:Nat)(cA:Option Addr)(cc b:Nat)(vA:Option Addr)(vc d:Nat)(w:World):Calls Tryz.prog 72 #[.int .i64 8,.agg #[.int .u64 n,.int .u64 m,.slice sA a sc,.slice cA b cc,.slice vA d vc]] w (jif w (jqa n m a b d false false false true true)):=by
 go_enter Tryz.func72,Tryz.ntmps72;go_wp2_with fail;refine bodyPost_ret (jzv rfl _ _ (w.heap.size+1) (.int .u64 n) (.int .u64 m) (.slice sA a sc) (.slice none 0 0) (.slice none 0 0) rfl (by go_simp) (by go_simp) (by go_simp) (by go_simp) (by go_simp)) rfl ?_;refine⟨_,_,_,_,_,_,_,_,_,_,_,rfl,by simp[jqa],?_⟩;exact C3.jzk (C3.jzk (Below.refl _ _))
theorem joe(k:Int)(h:¬ (1<=k/\k<=8))(n m:Int)(sA:Option Addr)(sc a:Nat)(cA:Option Addr)(cc b:Nat)(vA:Option Addr)(vc d:Nat)(w:World):Calls Tryz.prog 72 #[.int .i64 k,.agg #[.int .u64 n,.int .u64 m,.slice sA a sc,.slice cA b cc,.slice vA d vc]] w (jif w (jqa n m a b d false false false false false)):=by
 have k1:(k == 1)=false:=by simp;omega
 have k2:(k == 2)=false:=by simp;omega
 have k3:(k == 3)=false:=by simp;omega
 have k4:(k == 4)=false:=by simp;omega
 have k5:(k == 5)=false:=by simp;omega
 have k6:(k == 6)=false:=by simp;omega
 have k7:(k == 7)=false:=by simp;omega
 have k8:(k == 8)=false:=by simp;omega
 clear h;go_enter Tryz.func72,Tryz.ntmps72;go_wp2_with fail;refine bodyPost_ret (jzv rfl _ _ (w.heap.size+1) (.int .u64 n) (.int .u64 m) (.slice sA a sc) (.slice cA b cc) (.slice vA d vc) rfl (by go_simp) (by go_simp) (by go_simp) (by go_simp) (by go_simp)) rfl ?_;refine⟨_,_,_,_,_,_,_,_,_,_,_,rfl,by simp[jqa],?_⟩;exact C3.jzk (C3.jzk (Below.refl _ _))
open C3 (juh Tk isC)
def jxm(n m:Int)(ss:List Str):Bool:=match ss with
  | [s]=>!jv6 s && (decide (n≠0) || (decide (m≠0) || decide (s≠[])))
  | _=>false
theorem ibeq{a b:Int}(h:a=b):(a == b)=true:=beq_iff_eq.2 h
theorem jdc{a b:Int}(h:a≠b):(a == b)=false:=beq_eq_false_iff_ne.2 h
theorem ibnn{a b:Int}(h:a≠b):(a != b)=true:=by simp[h]
theorem jtu(s:Str):(s == [])=decide (s=[]):=by cases s <;> rfl
theorem jdf(n m:Int)(sA:Option Addr)(sc:Nat)(ss:List Str)(cA:Option Addr)(cc b:Nat)(vA:Option Addr)(vc d:Nat)(w:World)(hn:0<=n)(hm:0<=m)(hl:jqr w sA ss)(eI:ss.length<=maxLen)(ht:∀ s∈ss,s.length<=maxLen):Calls Tryz.prog 113 #[.agg #[.int .u64 n,.int .u64 m,.slice sA ss.length sc,.slice cA b cc,.slice vA d vc]] w (jz6 w (.bool (jxm n m ss))):=by
 have belB:Below w.heap.size w (w.alloc (.cells #[.int .u64 n,.int .u64 m,.slice sA ss.length sc,.slice cA b cc,.slice vA d vc] 30)):=C3.jzk (Below.refl _ _);by_cases h1:ss.length=1
 ·(
 obtain⟨s,rfl⟩:∃ s,ss=[s]:=List.length_eq_one_iff.1 h1
 clear h1;obtain⟨bb,off,rfl,hb,hc⟩:=hl.get (k:=0) (by simp);have cq:=hc 0 s rfl;rw[Nat.add_zero] at cq;have hs:s.length<=maxLen:=ht s (by simp);clear hc hl ht eI;have HL:=Lh (jtf s (w.alloc (.cells #[.int .u64 n,.int .u64 m,.slice (some ⟨bb,off,none⟩) [s].length sc,.slice cA b cc,.slice vA d vc] 30)) hs);simp only[List.length_cons,List.length_nil,Nat.zero_add] at HL belB ⊢;obtain⟨q,hq⟩:=exq (jv6 s);have hw:jxm n m [s]=(!q && (decide (n≠0) || (decide (m≠0) || decide (s≠[])))):=by simp only[jxm,hq]
 rw[hw];rw[hq] at HL;clear hw hq hs;go_enter Tryz.func113,Tryz.ntmps113;go_wp2_with fail;refine HL.out.mono ?_;clear HL;rintro e w' ⟨rfl,ab⟩;have cD:=belB.trans (ab.mono belB.size);have e0:=(ab.cell (p:=⟨w.heap.size,0,none⟩) (by simp)).trans (jzs 0 _ rfl);have e1:=(ab.cell (p:=⟨w.heap.size,1,none⟩) (by simp)).trans (jzs 1 _ rfl);have e2:=(ab.cell (p:=⟨w.heap.size,2,none⟩) (by simp)).trans (jzs 2 _ rfl);have f0:=(cD.cell (p:=⟨bb,off,none⟩) hb).trans cq;have hG:=World.block_lt_of_cell? w' _ f0;simp only at hG;clear ab belB cq;cases q with
 | true=>(go_wp2_with fail;go_ret;exact⟨rfl,cD⟩)
 | false=>(
 by_cases qe:n=0
 ·(
 have kn:decide (0<n)=false:=decide_eq_false (by omega);by_cases o7:m=0
 ·(
 have km:decide (0<m)=false:=decide_eq_false (by omega);have HR:Hid ((!decide (s=[]))=(!false && (decide (n≠0) || (decide (m≠0) || decide (s≠[]))))):=by show _=_;simp[qe,o7]
 by_cases bz:s=[]
 ·(
 have ks:(s == [])=true:=by rw[jtu];exact decide_eq_true bz
 clear qe o7 hn hm;go_wp2_with fail;go_ret;refine⟨jzi ?_,cD⟩;rw[<- HR.out,decide_eq_true bz];rfl)
 ·(
 have ks:(s == [])=false:=by rw[jtu];exact decide_eq_false bz
 clear qe o7 hn hm;go_wp2_with fail;go_ret;refine⟨jzi ?_,cD⟩;rw[<- HR.out,decide_eq_false bz];rfl))
 ·(
 have km:0<m:=by omega
 have HR:Hid (true=(!false && (decide (n≠0) || (decide (m≠0) || decide (s≠[]))))):=by show _=_;simp[qe,o7]
 clear qe o7 hn hm;go_wp2_with fail;go_ret;exact⟨jzi HR.out,cD⟩))
 ·(
 have kn:0<n:=by omega
 have HR:Hid (true=(!false && (decide (n≠0) || (decide (m≠0) || decide (s≠[]))))):=by show _=_;simp[qe]
 clear qe hn hm;go_wp2_with fail;go_ret;exact⟨jzi HR.out,cD⟩)))
 ·(
 have hw:jxm n m ss=false:=by (
 unfold jxm;split
 ·simp at h1
 ·rfl)
 rw[hw];have k1:((ss.length:Int) != 1)=true:=ibnn (by omega);clear h1 hw hl ht eI;go_enter Tryz.func113,Tryz.ntmps113;go_wp2_with fail;go_ret;exact⟨rfl,belB⟩)
def jm8(c:Ck):Bool:=decide (c.l.length=0) || !isC c.l
theorem idle_any(c:Ck)(w:World)(h:InC w c):Calls Tryz.prog 115 #[c.v] w (jz6 w (.bool (jm8 c))):=by
 have HI:=Lh (C3.jpl c.A c.c c.l w (Ck.Inp.inn h));unfold jm8;clear h;obtain⟨A,cp,l⟩:=c;simp only[Ck.v] at HI ⊢;by_cases h0:l.length=0
 ·(have k0:((l.length:Int) == 0)=true:=ibeq (by omega);rw[decide_eq_true h0];clear h0;go_enter Tryz.func115,Tryz.ntmps115;go_wp2_with fail;go_ret;exact⟨rfl,Below.refl _ _⟩)
 ·(have k0:((l.length:Int) == 0)=false:=jdc (by omega);rw[decide_eq_false h0];clear h0;go_enter Tryz.func115,Tryz.ntmps115;go_wp2_with fail;refine HI.out.mono ?_;rintro e w' ⟨rfl,hb⟩;go_wp2_with fail;go_ret;exact⟨rfl,hb⟩)
theorem jm7(A:Option Addr)(c:Nat)(cs:List Ck)(w:World)(hl:jzt (fun b=>b<w.heap.size) w A (jzl cs))(hn:cs.length<=maxLen)(ht:∀ k∈cs,InC w k):Calls Tryz.prog 145 #[.slice A cs.length c,.func (.func 115) #[] #[]] w (juh w (cs.any jm8)):=by
 have eI:cs.length<=9223372036854775807:=by unfold maxLen at hn;omega
 clear hn;have HT:=Lh ht;clear ht;go_enter Tryz.func145,Tryz.ntmps145;go_wp2_with fail;go_loopw [8] (fun iv wr=>∃ k:Nat,k<=cs.length/\iv = .int .i64 k/\Hid ((cs.take k).any jm8=false)/\Below w.heap.size w wr) (fun iv _=>cs.length - (intOf iv).toNat)
 case atStart=>exact⟨0,Nat.zero_le _,rfl,by simp[Hid],Below.refl _ _⟩
 case round=>(
 obtain⟨k,hk,rfl,h0,ar⟩:=hrel;by_cases hlt:k<cs.length
 ·(
 obtain⟨x,hx⟩:∃ x,cs[k]?=some x:=⟨_,List.getElem?_eq_getElem hlt⟩
 obtain⟨b,off,rfl,hb,hc⟩:=jqi (hl.below ar) hx;have cq:=hc;have HX:=Lh hx;clear hx hc hl;obtain⟨q,hq⟩:=exq (jm8 x);have HQ:=Lh hq;clear hq;go_wp2_with fail;refine (idle_any x wr ((HT.out x (List.mem_of_getElem? HX.out)).later ar)).mono ?_;rintro e w' ⟨rfl,ab⟩;have bj:Below w.heap.size w w':=ar.trans (ab.mono ar.size);rw[HQ.out];cases q with
 | true=>(go_wp2_with fail;go_ret;exact⟨_,rfl,(by rw[jvs HX.out HQ.out];exact decide_eq_true (by omega)),bj⟩)
 | false=>(
 go_wp2_with fail;go_roundw
 case rel=>exact⟨k+1,by omega,by go_num,jw7 h0.out HX.out HQ.out,bj⟩
 case measure=>simp[intOf];omega))
 ·(go_wp2_with fail;go_ret;exact⟨_,rfl,(by rw[jvt h0.out (by omega)];rfl),ar⟩))
theorem jbt(A:Option Addr)(c:Nat)(cs:List Ck)(w:World)(hl:jzt (fun b=>b<w.heap.size) w A (jzl cs))(hn:cs.length<=maxLen)(ht:∀ k∈cs,InC w k):Calls Tryz.prog 114 #[.slice A cs.length c,.func (.func 115) #[] #[]] w (jz6 w (.bool (cs.any jm8))):=by
 have HA:=Lh (jm7 A c cs w hl hn ht);clear hl hn ht;go_enter Tryz.func114,Tryz.ntmps114;go_wp2_with fail;refine HA.out.mono ?_;rintro e w' ⟨i,rfl,hi,hb⟩;have HI:=Lh hi;clear hi;go_wp2_with fail;go_ret;exact⟨jzi HI.out,hb⟩
end V4
end Go.Proofs.YtobggoephhjofaaGreatDoor
