/- A part. No condition. -/
import Derived.Test.YtobggoephhjofaaGreatDoorMk14
set_option maxRecDepth 100000
set_option maxHeartbeats 16000000
namespace Go.Proofs.YtobggoephhjofaaGreatDoor
namespace V4
open S2 (Sc Tr isT)
open C3 (Tk isC jxt)
theorem jwd:∀ (a b c:List Tk),jz2 a b=true->jz2 b c=true->jz2 a c=true
  | [],[],_,h,_=>by simp[jz2] at h
  | [],_ :: _,[],_,h=>by simp[jz2] at h
  | [],_ :: _,_ :: _,_,_=>by simp[jz2]
  | _ :: _,[],_,h,_=>by simp[jz2] at h
  | _ :: _,_ :: _,[],_,h=>by simp[jz2] at h
  | x :: a,y :: b,z :: c,h,h'=>by
    simp only[jz2] at h h' ⊢
    by_cases h1:x.k=y.k
    · rw[if_pos h1] at h
      by_cases h2:y.k=z.k
      · rw[if_pos h2] at h'
        rw[if_pos (h1.trans h2)]
        by_cases h3:x.n=y.n
        · rw[if_pos h3] at h
          by_cases h4:y.n=z.n
          · rw[if_pos h4] at h'
            rw[if_pos (h3.trans h4)]
            exact jwd a b c h h'
          · rw[if_neg h4] at h'
            rw[if_neg (by omega)]
            simp at h' ⊢;omega
        · rw[if_neg h3] at h
          by_cases h4:y.n=z.n
          · rw[if_neg (by omega)]
            simp at h ⊢;omega
          · rw[if_neg h4] at h'
            simp at h h'
            rw[if_neg (by omega)]
            simp;omega
      · rw[if_neg h2] at h'
        rw[if_neg (by omega)]
        simp at h' ⊢;omega
    · rw[if_neg h1] at h
      by_cases h2:y.k=z.k
      · rw[if_neg (by omega)]
        simp at h ⊢;omega
      · rw[if_neg h2] at h'
        simp at h h'
        rw[if_neg (by omega)]
        simp;omega
def ApR(a b:List Tk):Prop:=jz2 a b=true/\jxt a b=2
theorem jfw{pre:List (List Tk)}{c:List Tk}(hp:pre.Pairwise ApR):(jxk pre c=true/\∀ d∈pre,jxt d c=2)↔(pre++[c]).Pairwise ApR:=by
 rw[List.pairwise_append];constructor
 ·(
 rintro ⟨h1,h2⟩;refine⟨hp,List.pairwise_singleton _ _,fun d hd e he=>?_⟩;rw[List.mem_singleton] at he;subst he;refine⟨?_,h2 d hd⟩;obtain⟨l,hl⟩:∃ l,pre.getLast?=some l:=by (
 cases hl:pre.getLast? with
 | none=>rw[List.getLast?_eq_none_iff] at hl;subst hl;cases hd
 | some l=>exact⟨l,rfl⟩)
 unfold jxk at h1;rw[hl] at h1;obtain⟨p,rfl⟩:∃ p,pre=p++[l]:=by (obtain⟨p,hp⟩:=List.getLast?_eq_some_iff.1 hl;exact⟨p,hp⟩)
 rcases List.mem_append.1 hd with hd | hd
 ·exact jwd _ _ _ ((List.pairwise_append.1 hp).2.2 d hd l (by simp)).1 h1
 ·(rw[List.mem_singleton] at hd;subst hd;exact h1))
 ·(
 rintro ⟨_,_,h⟩;refine⟨?_,fun d hd=>(h d hd c (by simp)).2⟩;unfold jxk;cases hl:pre.getLast? with
 | none=>rfl
 | some l=>exact (h l (List.mem_of_getLast? hl) c (by simp)).1)
theorem jvz(p:Va->Bool):∀ (cs:List (List Tk)) (vs:List Va) (pre:List (List Tk)),cs.length=vs.length->pre.Pairwise ApR ->
    (jkj p pre cs vs=true↔(∀ c∈cs,isC c=true)/\(∀ v∈vs,p v=true)/\(pre++cs).Pairwise ApR)
  | [],[],pre,_,hp=>by simp[jkj,hp]
  | [],_ :: _,_,h,_=>by simp at h
  | _ :: _,[],_,h,_=>by simp at h
  | c :: cs,v :: vs,pre,hl,hp=>by
    rw[jkj]
    simp only[Bool.and_eq_true,List.all_eq_true,decide_eq_true_eq]
    have mD:pre++c :: cs=(pre++[c])++cs:=by simp
    constructor
    · rintro ⟨h1,h2,h3,h4,h5⟩
      have hq:=(jfw hp).1 ⟨h3,h4⟩
      obtain⟨i1,i2,i3⟩:=(jvz p cs vs _ (by simpa using hl) hq).1 h5
      refine⟨?_,?_,by rw[mD];exact i3⟩
      · intro d hd
        rcases List.mem_cons.1 hd with rfl | hd
        · exact h1
        · exact i1 d hd
      · intro d hd
        rcases List.mem_cons.1 hd with rfl | hd
        · exact h2
        · exact i2 d hd
    · rintro ⟨h1,h2,h3⟩
      rw[mD] at h3
      have hq:=(List.pairwise_append.1 h3).1
      obtain⟨j1,j2⟩:=(jfw hp).2 hq
      refine⟨h1 c (by simp),h2 v (by simp),j1,j2,?_⟩
      exact (jvz p cs vs _ (by simpa using hl) hq).2 ⟨fun d hd=>h1 d (List.mem_cons_of_mem _ hd),fun d hd=>h2 d (List.mem_cons_of_mem _ hd),h3⟩
theorem twos_iff(l:List Ck):(jq0 l l.length).all jwv=true↔(l.map Ck.l).Pairwise ApR:=by
 rw[List.all_eq_true,List.pairwise_map,List.pairwise_iff_getElem];constructor
 ·(
 intro h i j hi hj hij;have:=h _ (List.mem_of_getElem? (jr8 (List.getElem?_eq_getElem hj) (List.getElem?_eq_getElem hi) hij));unfold jwv at this;simp at this
 exact this)
 ·(
 rintro h ⟨a,b⟩ hx;unfold jq0 at hx;obtain⟨j,hj,hx⟩:=List.mem_flatMap.1 hx;have hj:=List.mem_range.1 hj;unfold jge at hx;rw[List.getElem?_eq_getElem hj] at hx;obtain⟨c,hc,he⟩:=List.mem_map.1 hx;cases he
 obtain⟨i,hi,rfl⟩:=List.getElem_of_mem hc;rw[List.length_take] at hi;rw[List.getElem_take];have:=h i j (by omega) hj (by omega);unfold jwv;simp[this.1,this.2])
theorem sibs_eq(p:Va->Bool)(cs:List Ck)(vs:List Va)(hl:cs.length=vs.length):(jgi cs && vs.all p)=(decide (cs.length<=40) && jkj p [] (cs.map Ck.l) vs):=by
 rw[Bool.eq_iff_iff];unfold jgi;simp only[Bool.and_eq_true,decide_eq_true_eq];rw[jvz p _ _ _ (by simpa using hl) List.Pairwise.nil,twos_iff];simp only[List.nil_append,List.all_eq_true,List.mem_map,forall_exists_index,and_imp,forall_apply_eq_imp_iff₂];constructor
 ·rintro ⟨⟨h1,h2,h3⟩,h4⟩;exact⟨h1,h2,h4,h3⟩
 ·rintro ⟨h1,h2,h4,h3⟩;exact⟨⟨h1,h2,h3⟩,h4⟩
theorem jyn(ss:List Str):jx3 ss=!ss.any jv6:=by
 unfold jx3 jv6;induction ss with
 | nil=>rfl
 | cons s ss ih=>(
 rw[List.all_cons,List.any_cons,ih,Bool.not_or];congr 1
 by_cases h:s.length<=16
 ·rw[decide_eq_true h,decide_eq_false (by omega)];rfl
 ·rw[decide_eq_false h,decide_eq_true (by omega)];rfl)
theorem jcq{n m:Int}{a b d:Nat}{p q s t:Bool}(h:jqa n m a b d p q false s t=true):a=0:=by
 unfold jqa at h;simp only[Bool.and_eq_true,Bool.false_or,decide_eq_true_eq] at h;exact h.2.2.1
theorem jfy{n m:Int}{a b d:Nat}{p q r s:Bool}(h:jqa n m a b d p q r s false=true):d=0:=by
 unfold jqa at h;simp only[Bool.and_eq_true,Bool.false_or,decide_eq_true_eq] at h;exact h.2.2.2.2
theorem jdj:decide (R1.Srt [])=true:=by simp[R1.Srt]
theorem rightK(k:Int)(A:Option Addr)(c:Nat)(l:List Sc)(n m:Int)(sA:Option Addr)(sc:Nat)(ss:List Str)(cA:Option Addr)(cc:Nat)(cs:List Ck)(vA:Option Addr)(vc:Nat)(vs:List Vl) :
    jbb (Sc.mk k A c l,Vl.mk n m sA sc ss cA cc cs vA vc vs)=(jws k n m ss.length cs.length vs.length && jbq k n m ss cs vs.length (jwi (Sc.mk k A c l,Vl.mk n m sA sc ss cA cc cs vA vc vs))):=rfl
theorem jxo(k n m:Int)(s:List Str)(c:List (List Tk))(v:List Va):jq5 k (.mk n m s c v)=(jql k (.mk n m s c v) && (decide (R1.Srt s) && decide (s.length<=40))):=rfl
theorem jhe(p:Va->Bool)(n m:Int)(s:List Str)(c:List (List Tk))(v:List Va):jmk p (.mk n m s c v)=(decide (c.length<=40) && jkj p [] c v):=rfl
theorem jwc{h a b:Bool}(e:h=true->a=b):(h && a)=(h && b):=by
 cases h with
 | false=>rfl
 | true=>rw[e rfl]
theorem ju7:∀ (v:Vl) (s:Sc) (n:Nat),n<=16->isT n s.er=true->jw2 (s,v)=isV s.er v.er:=by
 intro v;induction v using Vl.ind with
 | h n0 m0 sA sc ss cA cc cs vA vc vs ih=>(
 intro s n hn hs;unfold jw2;rw[jtz];obtain⟨k,A,c,l⟩:=s;have hl:(l.length:Int)=S2.arI k:=by (rw[S2.jzw] at hs;have:=jm3 hs;rw[List.length_map] at this;exact this)
 rw[rightK,jzw];rw[S2.jzw] at hs ⊢;have eI:(cs.map Ck.l).length=cs.length:=List.length_map _;have iB:(vs.map Vl.er).length=vs.length:=List.length_map _;by_cases k1:k=1
 ·(
 subst k1;have h0:l=[]:=by apply List.eq_nil_of_length_eq_zero;rw[show S2.arI 1=0 by decide] at hl;omega
 subst h0;rw[List.map_nil,isV,jxo,jnq,eI,iB,jws,if_pos rfl,jbq,if_pos rfl];rw[if_neg (show ¬ (1:Int)=7 by decide),Bool.and_true,Bool.and_true];refine jwc fun h=>?_
 have hv:vs=[]:=List.eq_nil_of_length_eq_zero (jfy h);have jf:ss=[]:=List.eq_nil_of_length_eq_zero (jcq h);subst hv jf;rw[jw4 rfl];simp)
 by_cases k2:k=2
 ·(
 subst k2;have h0:l=[]:=by apply List.eq_nil_of_length_eq_zero;rw[show S2.arI 2=0 by decide] at hl;omega
 subst h0;rw[List.map_nil,isV,jxo,jnp,eI,iB,jws,if_neg (by decide),if_pos rfl,jbq,if_neg (by decide),if_pos rfl];rw[if_neg (show ¬ (2:Int)=7 by decide),Bool.and_true,Bool.and_assoc,Bool.and_assoc];refine jwc fun h=>?_
 have hv:vs=[]:=List.eq_nil_of_length_eq_zero (jfy h);have jf:ss=[]:=List.eq_nil_of_length_eq_zero (jcq h);subst hv jf;rw[jw4 rfl];simp)
 by_cases k3:k=3
 ·(
 subst k3;have h0:l=[]:=by apply List.eq_nil_of_length_eq_zero;rw[show S2.arI 3=0 by decide] at hl;omega
 subst h0;rw[List.map_nil,isV,jxo,jno,eI,iB,jws,if_neg (by decide),if_neg (by decide),if_pos rfl,jbq,if_neg (by decide),if_neg (by decide),if_pos rfl];rw[if_neg (show ¬ (3:Int)=7 by decide),Bool.and_true,Bool.and_assoc,Bool.and_assoc];refine jwc fun h=>?_
 have hv:vs=[]:=List.eq_nil_of_length_eq_zero (jfy h);subst hv;rw[jw4 rfl,List.all_nil,Bool.and_true,jkc,jyn];cases (!ss.any jv6) <;> cases decide (R1.Srt ss) <;> cases decide (ss.length<=40) <;> rfl)
 by_cases k6:k=6
 ·(
 subst k6;have h0:l=[]:=by apply List.eq_nil_of_length_eq_zero;rw[show S2.arI 6=0 by decide] at hl;omega
 subst h0;rw[List.map_nil,isV,jxo,jtp,eI,iB,jws,if_neg (by decide),if_neg (by decide),if_neg (by decide),if_neg (by decide),if_neg (by decide),if_pos rfl,jbq,if_neg (by decide),if_neg (by decide),if_neg (by decide),if_neg (by decide),if_neg (by decide),if_pos rfl];rw[if_neg (show ¬ (6:Int)=7 by decide),Bool.and_true];by_cases bz:ss.length=0
 ·(
 have jf:ss=[]:=List.eq_nil_of_length_eq_zero bz;subst jf;rw[if_pos (show ([]:List Str).length=0 from rfl)];have hw:jxm n0 m0 []=false:=rfl;rw[hw,Bool.or_false];have hi:∀ (h:jqa n0 m0 ([]:List Str).length cs.length vs.length false false false false false=true),jqa n0 m0 ([]:List Str).length cs.length vs.length true true true false false=true/\vs=[]:=fun h=>by (have hv:=jfy h;unfold jqa at h ⊢;simp only[Bool.and_eq_true,Bool.false_or,Bool.true_or,decide_eq_true_eq] at h ⊢;exact⟨⟨trivial,trivial,trivial,h.2.2.2.1,h.2.2.2.2⟩,List.eq_nil_of_length_eq_zero hv⟩)
 cases hq:jqa n0 m0 ([]:List Str).length cs.length vs.length false false false false false with
 | false=>simp
 | true=>(obtain⟨h1,h2⟩:=hi hq;subst h2;rw[h1,jw4 rfl];simp))
 ·(
 rw[if_neg bz];have hq:jqa n0 m0 ss.length cs.length vs.length false false false false false=false:=by rw[jcr];exact decide_eq_false fun h=>bz h.2.2.1
 rw[hq,Bool.false_or,Bool.and_assoc,Bool.and_assoc];refine jwc fun h=>?_
 have hv:vs=[]:=List.eq_nil_of_length_eq_zero (jfy h);subst hv;rw[jw4 rfl,List.all_nil,Bool.and_true];by_cases h1:ss.length=1
 ·(
 obtain⟨s,rfl⟩:=jyu h1;have hr:decide (R1.Srt [s])=true:=by simp[R1.Srt]
 rw[hr,jyn];simp only[jxm];simp)
 ·(
 have hw:jxm n0 m0 ss=false:=by (
 unfold jxm;split
 ·simp at h1
 ·rfl)
 rw[hw,decide_eq_false h1];simp)))
 by_cases k7:k=7
 ·(
 subst k7;have h0:l=[]:=by apply List.eq_nil_of_length_eq_zero;rw[show S2.arI 7=0 by decide] at hl;omega
 subst h0;rw[List.map_nil,isV,jxo,jnm,eI,iB,jws,if_neg (by decide),if_neg (by decide),if_neg (by decide),if_neg (by decide),if_neg (by decide),if_neg (by decide),if_pos rfl,jbq,if_neg (by decide),if_neg (by decide),if_neg (by decide),if_neg (by decide),if_neg (by decide),if_neg (by decide),if_pos rfl];rw[if_pos rfl];simp only[Bool.and_assoc];refine jwc fun h=>?_
 have hv:vs=[]:=List.eq_nil_of_length_eq_zero (jfy h);have jf:ss=[]:=List.eq_nil_of_length_eq_zero (jcq h);subst hv jf;rw[jw4 rfl,List.all_nil,Bool.and_true];show _=(_ && (_ && (_ && jvb (cs.map Ck.l))))
 rw[jdj];match cs with
 | []=>rfl
 | [c]=>(
 have hd:decide (0<c.l.length)=!decide (c.l=[]):=by cases c.l <;> simp
 simp[jvb,jm8,Bool.and_comm]
 rw[hd])
 | _ :: _ :: _=>simp)
 by_cases k4:k=4
 ·(
 subst k4;obtain⟨a,rfl⟩:=jyu (show l.length=1 by rw[show S2.arI 4=1 by decide] at hl;omega);cases n with
 | zero=>simp[isT] at hs
 | succ n=>(
 have ha:isT n a.er=true:=jkt hs a.er (by simp);have wn:jwi (Sc.mk 4 A c [a],Vl.mk n0 m0 sA sc ss cA cc cs vA vc vs)=vs.all fun y=>!decide (y.er=jqv a.er):=by (
 unfold jwi;rw[jm1 rfl,List.all_map];refine jjq fun y _=>?_
 simp only[Function.comp];rw[jhs y a n (by omega) ha])
 have iL:((jxl (Sc.mk 4 A c [a],Vl.mk n0 m0 sA sc ss cA cc cs vA vc vs)).all fun y=>(jjv y.2 y.1).pre.all jbb)=vs.all fun y=>isV a.er y.er:=by (rw[jm1 rfl,List.all_map];exact jjq fun y hy=>ih y hy a n (by omega) ha)
 rw[iL,wn,List.map_cons,List.map_nil,isV,jxo,jnn,eI,iB,jws,if_neg (by decide),if_neg (by decide),if_neg (by decide),if_pos rfl,jbq,if_neg (by decide),if_neg (by decide),if_neg (by decide),if_pos rfl,if_pos rfl,jkc,jyn,jhu];show _=(_ && (vs.map Vl.er).all _)
 rw[List.all_map];have hm:(vs.all ((fun y=>isV a.er y && !decide (y=jqv a.er)) ∘ Vl.er))=((vs.all fun y=>isV a.er y.er) && vs.all fun y=>!decide (y.er=jqv a.er)):=by (rw[Bool.eq_iff_iff];simp only[Bool.and_eq_true,List.all_eq_true,Function.comp];exact⟨fun h=>⟨fun x hx=>(h x hx).1,fun x hx=>(h x hx).2⟩,fun h x hx=>⟨h.1 x hx,h.2 x hx⟩⟩)
 rw[hm,show decide (ss.length=vs.length)=decide (vs.length=ss.length) from decide_eq_decide.2 eq_comm];generalize (vs.all fun y=>isV a.er y.er)=P1;generalize (vs.all fun y=>!decide (y.er=jqv a.er))=P2;generalize (!ss.any jv6)=P3;generalize decide (R1.Srt ss)=P4;generalize decide (ss.length<=40)=P5;generalize decide (vs.length=ss.length)=P6;generalize jqa _ _ _ _ _ _ _ _ _ _=P7;cases P1 <;> cases P2 <;> cases P3 <;> cases P4 <;> cases P5 <;> cases P6 <;> cases P7 <;> rfl))
 by_cases k5:k=5
 ·(
 subst k5;obtain⟨a,b,rfl⟩:=jx7 (show l.length=2 by rw[show S2.arI 5=2 by decide] at hl;omega);cases n with
 | zero=>simp[isT] at hs
 | succ n=>(
 have ha:isT n a.er=true:=jkt hs a.er (by simp);have hb:isT n b.er=true:=jkt hs b.er (by simp);rw[List.map_cons,List.map_cons,List.map_nil,isV,jxo,jtq,eI,iB,jws,if_neg (by decide),if_neg (by decide),if_neg (by decide),if_neg (by decide),if_pos rfl,jbq,if_neg (by decide),if_neg (by decide),if_neg (by decide),if_neg (by decide),if_pos rfl];simp only[Bool.and_assoc];refine jwc fun h=>?_
 have jf:ss=[]:=List.eq_nil_of_length_eq_zero (jcq h);subst jf;show _=(_ && (_ && jgt _ _ (vs.map Vl.er)))
 rw[jdj];by_cases h2:vs.length=2
 ·(obtain⟨x,y,rfl⟩:=jx7 h2;have i1:=ih x (by simp) a n (by omega) ha;have i2:=ih y (by simp) b n (by omega) hb;unfold jw2 at i1 i2;simp only at i1 i2;rw[jti rfl rfl];simp only[List.all_cons,List.all_nil,Bool.and_true,List.map_cons,List.map_nil,jgt];rw[i1,i2];rfl)
 ·rw[decide_eq_false h2];rfl))
 by_cases k8:k=8
 ·(
 subst k8;obtain⟨a,rfl⟩:=jyu (show l.length=1 by rw[show S2.arI 8=1 by decide] at hl;omega);cases n with
 | zero=>simp[isT] at hs
 | succ n=>(
 have ha:isT n a.er=true:=jkt hs a.er (by simp);have iL:((jxl (Sc.mk 8 A c [a],Vl.mk n0 m0 sA sc ss cA cc cs vA vc vs)).all fun y=>(jjv y.2 y.1).pre.all jbb)=(vs.map Vl.er).all (isV a.er):=by (rw[jm1 rfl,List.all_map,List.all_map];exact jjq fun y hy=>ih y hy a n (by omega) ha)
 rw[iL,List.map_cons,List.map_nil,isV,jxo,jm9 8 (by decide) (by decide) (by decide) (by decide) (by decide) (by decide) (by decide),eI,iB,jws,if_neg (by decide),if_neg (by decide),if_neg (by decide),if_neg (by decide),if_neg (by decide),if_neg (by decide),if_neg (by decide),if_pos rfl,
   jbq,if_neg (by decide),if_neg (by decide),if_neg (by decide),if_neg (by decide),if_neg (by decide),if_neg (by decide),if_neg (by decide),if_pos rfl,if_neg (by decide)]
 simp only[Bool.and_assoc];refine jwc fun h=>?_
 have jf:ss=[]:=List.eq_nil_of_length_eq_zero (jcq h);subst jf;rw[jhe,jdj];refine jwc fun hd=>?_
 have:=sibs_eq (isV a.er) cs (vs.map Vl.er) (by rw[iB];exact of_decide_eq_true hd);rw[this,eI];rfl))
 exfalso
 have:S2.arI k = -1:=by unfold S2.arI;rw[if_neg (by omega),if_neg (by omega),if_neg (by omega)]
 omega)
end V4
namespace J5
open C3 (Tk)
open V4 (jz2 jwd)
structure Cmp {M:Type} (c:M->M->Int):Prop where
  eq:∀ {x y},c x y=0->x=y
  refl:∀ x,c x x=0
  gt:∀ {x y},0<c x y->c y x<0
  trans:∀ {x y z},c x y<0->c y z<0->c x z<0
theorem jxe:Cmp jx1:=by
 have lt:∀ {x y:Str},jx1 x y<0->x<y:=fun {x y} h=>by (
 unfold jx1 at h;by_cases h1:x<y
 ·exact h1
 ·(rw[if_neg h1] at h;split at h <;> omega))
 have tl:∀ {x y:Str},x<y->jx1 x y<0:=fun {x y} h=>by unfold jx1;rw[if_pos h];decide
 refine⟨fun {x y} h=>?_,fun x=>?_,fun {x y} h=>?_,fun h1 h2=>tl (R1.jjw (lt h1) (lt h2))⟩
 ·(
 unfold jx1 at h;rcases R1.jvg x y with h1 | h1 | h1
 ·rw[if_pos h1] at h;omega
 ·exact h1
 ·rw[if_neg (R1.jxg h1),if_pos h1] at h;omega)
 ·unfold jx1;rw[if_neg (R1.jqf x),if_neg (R1.jqf x)]
 ·(
 refine tl ?_;unfold jx1 at h;by_cases h1:x<y
 ·rw[if_pos h1] at h;omega
 ·(
 rw[if_neg h1] at h;by_cases h2:y<x
 ·exact h2
 ·rw[if_neg h2] at h;omega))
theorem jyg:∀ a:List Tk,jz2 a a=false
  | []=>by simp[jz2]
  | x :: a=>by simp only[jz2,if_true];exact jyg a
theorem jf7:∀ a b:List Tk,jz2 a b=false->jz2 b a=false->a=b
  | [],[],_,_=>rfl
  | [],_ :: _,h,_=>by simp[jz2] at h
  | _ :: _,[],_,h=>by simp[jz2] at h
  | x :: a,y :: b,h,h'=>by
    simp only[jz2] at h h'
    by_cases h1:x.k=y.k
    · rw[if_pos h1] at h
      rw[if_pos h1.symm] at h'
      by_cases h2:x.n=y.n
      · rw[if_pos h2] at h
        rw[if_pos h2.symm] at h'
        have e:x=y:=by cases x;cases y;simp at h1 h2;simp[h1,h2]
        rw[e,jf7 a b h h']
      · rw[if_neg h2] at h
        rw[if_neg (Ne.symm h2)] at h'
        simp at h h';omega
    · rw[if_neg h1] at h
      rw[if_neg (Ne.symm h1)] at h'
      simp at h h';omega
theorem jvn{a b:List Tk}:jkv a b<0↔jz2 a b=true:=by
 unfold jkv;by_cases h1:jz2 a b=true
 ·rw[if_pos h1];simp[h1]
 ·(rw[if_neg h1];split <;> simp_all)
theorem jy4:Cmp jkv:=by
 refine⟨fun {x y} h=>?_,fun x=>?_,fun {x y} h=>?_,fun h1 h2=>jvn.2 (jwd _ _ _ (jvn.1 h1) (jvn.1 h2))⟩
 ·(
 unfold jkv at h;by_cases h1:jz2 x y=true
 ·rw[if_pos h1] at h;omega
 ·(
 rw[if_neg h1] at h;by_cases h2:jz2 y x=true
 ·rw[if_pos h2] at h;omega
 ·exact jf7 x y (by simpa using h1) (by simpa using h2)))
 ·unfold jkv;rw[jyg];simp
 ·(
 refine jvn.2 ?_;unfold jkv at h;by_cases h1:jz2 x y=true
 ·rw[if_pos h1] at h;omega
 ·(
 rw[if_neg h1] at h;by_cases h2:jz2 y x=true
 ·exact h2
 ·rw[if_neg h2] at h;omega))
section
variable {M V:Type} {c:M->M->Int} {z:V}
abbrev Up(c:M->M->Int)(l:List (M×V)):Prop:=l.Pairwise fun p q=>c p.1 q.1<0
theorem Cmp.ne(hc:Cmp c){x y:M}(h:c x y<0):x≠y:=by
 rintro rfl;rw[hc.refl] at h;omega
theorem jy8(hc:Cmp c){l:List (M×V)}(h:Up c l){p q:M×V}(hp:p∈l)(hq:q∈l)(e:p.1=q.1):p=q:=by
 induction l with
 | nil=>cases hp
 | cons x l ih=>(
 obtain⟨h1,h2⟩:=List.pairwise_cons.1 h;rcases List.mem_cons.1 hp with rfl | iD <;> rcases List.mem_cons.1 hq with rfl | mg
 ·rfl
 ·exact absurd e (hc.ne (h1 q mg))
 ·exact absurd e.symm (hc.ne (h1 p iD))
 ·exact ih h2 iD mg)
theorem jy9(hc:Cmp c):∀ {a b:List (M×V)},Up c a->Up c b->(∀ p,p∈a↔p∈b)->a=b
  | [],[],_,_,_=>rfl
  | [],y :: b,_,_,h=>by have:=(h y).2 (by simp);cases this
  | x :: a,[],_,_,h=>by have:=(h x).1 (by simp);cases this
  | x :: a,y :: b,ha,hb,h=>by
    obtain⟨a1,a2⟩:=List.pairwise_cons.1 ha
    obtain⟨b1,b2⟩:=List.pairwise_cons.1 hb
    have e:x=y:=by
      rcases List.mem_cons.1 ((h x).1 (by simp)) with e | e
      · exact e
      · rcases List.mem_cons.1 ((h y).2 (by simp)) with e2 | e2
        · exact e2.symm
        · have h1:=b1 x e
          have h2:=a1 y e2
          have:=hc.trans h1 h2
          rw[hc.refl] at this
          omega
    subst e
    rw[jy9 hc a2 b2 fun p=>⟨fun hp=>?_,fun hp=>?_⟩]
    · rcases List.mem_cons.1 ((h p).1 (by simp[hp])) with e | e
      · subst e;exact absurd rfl (hc.ne (a1 p hp))
      · exact e
    · rcases List.mem_cons.1 ((h p).2 (by simp[hp])) with e | e
      · subst e;exact absurd rfl (hc.ne (b1 p hp))
      · exact e
def jpm(z:V)(a b:List (M×V))(p:M×V×V):Prop :=
  ((p.1,p.2.1)∈a/\(p.1,p.2.2)∈b)\/((p.1,p.2.1)∈a/\(∀ q∈b,q.1≠p.1)/\p.2.2=z)\/((∀ q∈a,q.1≠p.1)/\p.2.1=z/\(p.1,p.2.2)∈b)
theorem jgv(hc:Cmp c)(a b:List (M×V)):Up c a->Up c b->∀ p,p∈mix c z a b↔jpm z a b p:=by
 induction a,b using mix.induct (c:=c) with
 | case1 b=>(
 intro _ _ p;rw[mix,List.mem_map];constructor
 ·(rintro ⟨y,hy,rfl⟩;exact .inr (.inr ⟨fun _ h=>(by cases h),rfl,hy⟩))
 ·(
 rintro (⟨h,_⟩ | ⟨h,_⟩ | ⟨_,h1,h2⟩)
 ·cases h
 ·cases h
 ·exact⟨_,h2,by rw[<- h1]⟩))
 | case2 x a=>(
 intro _ _ p;rw[mix,List.mem_map];constructor
 ·(rintro ⟨y,hy,rfl⟩;exact .inr (.inl ⟨hy,fun _ h=>(by cases h),rfl⟩))
 ·(
 rintro (⟨_,h⟩ | ⟨h1,_,h2⟩ | ⟨_,_,h⟩)
 ·cases h
 ·exact⟨_,h1,by rw[<- h2]⟩
 ·cases h))
 | case3 x a y b h ih=>(
 intro ha hb p;obtain⟨a1,a2⟩:=List.pairwise_cons.1 ha;obtain⟨b1,b2⟩:=List.pairwise_cons.1 hb;have gd:∀ q∈y :: b,q.1≠x.1:=fun q hq e=>by (
 rcases List.mem_cons.1 hq with rfl | hq
 ·exact hc.ne h e.symm
 ·exact hc.ne (hc.trans h (b1 q hq)) e.symm)
 rw[jk8 c z a b h,List.mem_cons,ih a2 hb p];constructor
 ·(
 rintro (rfl | h1 | ⟨h1,h2⟩ | ⟨h1,h2,h3⟩)
 ·exact .inr (.inl ⟨by simp,gd,rfl⟩)
 ·exact .inl ⟨by simp[h1.1],h1.2⟩
 ·exact .inr (.inl ⟨by simp[h1],h2⟩)
 ·(
 refine .inr (.inr ⟨fun q hq e=>?_,h2,h3⟩);rcases List.mem_cons.1 hq with rfl | hq
 ·exact gd _ h3 e.symm
 ·exact h1 q hq e))
 ·(
 rintro (⟨h1,h2⟩ | ⟨h1,h2,h3⟩ | ⟨h1,h2,h3⟩)
 ·(
 rcases List.mem_cons.1 h1 with e | h1
 ·exact absurd (by rw[<- e]) (gd _ h2)
 ·exact .inr (.inl ⟨h1,h2⟩))
 ·(
 rcases List.mem_cons.1 h1 with e | h1
 ·(refine .inl ?_;rw[<- e,<- h3])
 ·exact .inr (.inr (.inl ⟨h1,h2,h3⟩)))
 ·exact .inr (.inr (.inr ⟨fun q hq=>h1 q (by simp[hq]),h2,h3⟩))))
 | case4 x a y b h h' ih=>(
 intro ha hb p;obtain⟨a1,a2⟩:=List.pairwise_cons.1 ha;obtain⟨b1,b2⟩:=List.pairwise_cons.1 hb;have h2:=hc.gt h';have hya:∀ q∈x :: a,q.1≠y.1:=fun q hq e=>by (
 rcases List.mem_cons.1 hq with rfl | hq
 ·exact hc.ne h2 e.symm
 ·exact hc.ne (hc.trans h2 (a1 q hq)) e.symm)
 rw[jk9 c z a b h',List.mem_cons,ih ha b2 p];constructor
 ·(
 rintro (rfl | h1 | ⟨h1,h3,h4⟩ | ⟨h1,h3,h4⟩)
 ·exact .inr (.inr ⟨hya,rfl,by simp⟩)
 ·exact .inl ⟨h1.1,by simp[h1.2]⟩
 ·(
 refine .inr (.inl ⟨h1,fun q hq e=>?_,h4⟩);rcases List.mem_cons.1 hq with rfl | hq
 ·exact hya _ h1 e.symm
 ·exact h3 q hq e)
 ·exact .inr (.inr ⟨h1,h3,by simp[h4]⟩))
 ·(
 rintro (⟨h1,h3⟩ | ⟨h1,h3,h4⟩ | ⟨h1,h3,h4⟩)
 ·(
 rcases List.mem_cons.1 h3 with e | h3
 ·exact absurd (by rw[<- e]) (hya _ h1)
 ·exact .inr (.inl ⟨h1,h3⟩))
 ·exact .inr (.inr (.inl ⟨h1,fun q hq=>h3 q (by simp[hq]),h4⟩))
 ·(
 rcases List.mem_cons.1 h4 with e | h4
 ·(refine .inl ?_;rw[<- e,<- h3])
 ·exact .inr (.inr (.inr ⟨h1,h3,h4⟩)))))
 | case5 x a y b h h' ih=>(
 intro ha hb p;obtain⟨a1,a2⟩:=List.pairwise_cons.1 ha;obtain⟨b1,b2⟩:=List.pairwise_cons.1 hb;have h0:c x.1 y.1=0:=by omega
 have e0:x.1=y.1:=hc.eq h0;rw[jva c z a b h0,List.mem_cons,ih a2 b2 p];constructor
 ·(
 rintro (rfl | h1 | ⟨h1,h3,h4⟩ | ⟨h1,h3,h4⟩)
 ·exact .inl ⟨by rw[<- e0];simp,by simp⟩
 ·exact .inl ⟨by simp[h1.1],by simp[h1.2]⟩
 ·(
 refine .inr (.inl ⟨by simp[h1],fun q hq e=>?_,h4⟩);rcases List.mem_cons.1 hq with rfl | hq
 ·exact hc.ne (a1 _ h1) (e0.trans e)
 ·exact h3 q hq e)
 ·(
 refine .inr (.inr ⟨fun q hq e=>?_,h3,by simp[h4]⟩);rcases List.mem_cons.1 hq with rfl | hq
 ·exact hc.ne (b1 _ h4) (e0.symm.trans e)
 ·exact h1 q hq e))
 ·(
 rintro (⟨h1,h3⟩ | ⟨h1,h3,h4⟩ | ⟨h1,h3,h4⟩)
 ·(
 rcases List.mem_cons.1 h1 with e | h1 <;> rcases List.mem_cons.1 h3 with e2 | h3
 ·(refine .inl ?_;rw[<- e,<- e2])
 ·exact absurd (by rw[<- e0,<- e]) (hc.ne (b1 _ h3))
 ·exact absurd (by rw[e0,<- e2]) (hc.ne (a1 _ h1))
 ·exact .inr (.inl ⟨h1,h3⟩))
 ·(
 rcases List.mem_cons.1 h1 with e | h1
 ·exact absurd (by rw[<- e0,<- e]) (h3 y (by simp))
 ·exact .inr (.inr (.inl ⟨h1,fun q hq=>h3 q (by simp[hq]),h4⟩)))
 ·(
 rcases List.mem_cons.1 h4 with e | h4
 ·exact absurd (by rw[e0,<- e]) (h1 x (by simp))
 ·exact .inr (.inr (.inr ⟨fun q hq=>h1 q (by simp[hq]),h3,h4⟩)))))
theorem mix_up(hc:Cmp c)(a b:List (M×V)):Up c a->Up c b->Up c (mix c z a b):=by
 have low:∀ (m:M) (a b:List (M×V)),(∀ q∈a,c m q.1<0)->(∀ q∈b,c m q.1<0)->∀ p∈mix c z a b,c m p.1<0:=fun m a b h1 h2 p hp=>by (
 rcases (jyv c z a b hp).2.2 with ⟨x,hx,e⟩ | ⟨x,hx,e⟩
 ·rw[<- e];exact h1 x hx
 ·rw[<- e];exact h2 x hx)
 induction a,b using mix.induct (c:=c) with
 | case1 b=>intro _ hb;rw[mix];exact List.pairwise_map.2 hb
 | case2 x a=>intro ha _;rw[mix];exact List.pairwise_map.2 ha
 | case3 x a y b h ih=>(
 intro ha hb;obtain⟨a1,a2⟩:=List.pairwise_cons.1 ha;obtain⟨b1,b2⟩:=List.pairwise_cons.1 hb;rw[jk8 c z a b h];refine List.pairwise_cons.2 ⟨low x.1 a (y :: b) a1 fun q hq=>?_,ih a2 hb⟩;rcases List.mem_cons.1 hq with rfl | hq
 ·exact h
 ·exact hc.trans h (b1 q hq))
 | case4 x a y b h h' ih=>(
 intro ha hb;obtain⟨a1,a2⟩:=List.pairwise_cons.1 ha;obtain⟨b1,b2⟩:=List.pairwise_cons.1 hb;have h2:=hc.gt h';rw[jk9 c z a b h'];refine List.pairwise_cons.2 ⟨low y.1 (x :: a) b (fun q hq=>?_) b1,ih ha b2⟩;rcases List.mem_cons.1 hq with rfl | hq
 ·exact h2
 ·exact hc.trans h2 (a1 q hq))
 | case5 x a y b h h' ih=>(
 intro ha hb;obtain⟨a1,a2⟩:=List.pairwise_cons.1 ha;obtain⟨b1,b2⟩:=List.pairwise_cons.1 hb;have h0:c x.1 y.1=0:=by omega
 have e0:x.1=y.1:=hc.eq h0;rw[jva c z a b h0];exact List.pairwise_cons.2 ⟨low y.1 a b (e0▸a1) b1,ih a2 b2⟩)
end
theorem jwa{M V W:Type}{f:V->V->Option W}:∀ {l:List (M×V×V)} {r:List (M×W)},jxf f l=some r->∀ p,p∈r↔∃ q∈l,q.1=p.1/\f q.2.1 q.2.2=some p.2
  | [],r,h,p=>by simp[jxf] at h;subst h;simp
  | q :: l,r,h,p=>by
    rw[jxf] at h
    cases hf:f q.2.1 q.2.2 with
    | none=>rw[hf] at h;simp at h
    | some v =>
      rw[hf] at h
      cases ha:jxf f l with
      | none=>rw[ha] at h;simp at h
      | some x =>
        rw[ha] at h
        simp at h
        subst h
        rw[List.mem_cons,jwa ha p]
        constructor
        · rintro (rfl | ⟨q',h1,h2⟩)
          · exact⟨q,by simp,rfl,hf⟩
          · exact⟨q',by simp[h1],h2⟩
        · rintro ⟨q',h1,h2,h3⟩
          rcases List.mem_cons.1 h1 with rfl | h1
          · refine .inl (Prod.ext h2.symm ?_)
            rw[hf] at h3
            exact (Option.some.inj h3).symm
          · exact .inr ⟨q',h1,h2,h3⟩
theorem jvf{M V W:Type}{f:V->V->Option W}:∀ {l:List (M×V×V)} {r:List (M×W)},jxf f l=some r->r.map (·.1)=l.map (·.1)
  | [],r,h=>by simp[jxf] at h;subst h;rfl
  | q :: l,r,h=>by
    rw[jxf] at h
    cases hf:f q.2.1 q.2.2 with
    | none=>rw[hf] at h;simp at h
    | some v =>
      rw[hf] at h
      cases ha:jxf f l with
      | none=>rw[ha] at h;simp at h
      | some x =>
        rw[ha] at h
        simp at h
        subst h
        rw[List.map_cons,List.map_cons,jvf ha]
theorem jx6{M V W:Type}{c:M->M->Int}{l:List (M×V)}{r:List (M×W)}(h:r.map (·.1)=l.map (·.1))(hl:Up c l):Up c r:=by
 have h1:(l.map (·.1)).Pairwise (fun x y=>c x y<0):=List.pairwise_map.2 hl;rw[<- h] at h1;exact List.pairwise_map.1 h1
end J5
namespace J5
open C3 (Tk isC jxt)
open S2 (Tr isT arI)
open V4 (Va isV jq5 jql jnj jqa jx3 jhu jgt jvb jmk jkj ApR jqv)
theorem jyy{k:Int}{x:Va}(hk:k=1\/k=2):isV (.mk k []) x=true↔∃ n:Int,x = .mk n 0 [] [] []/\(k=2->n<=1):=by
 obtain⟨n,m,s,c,v⟩:=x;rw[isV,V4.jxo];rcases hk with rfl | rfl
 ·(
 rw[V4.jnq];simp[jqa]
 rintro _ rfl _ _;simp)
 ·(
 rw[V4.jnp];simp[jqa]
 constructor
 ·rintro ⟨⟨⟨rfl,rfl,rfl,rfl⟩,h⟩,_⟩;exact⟨n,⟨rfl,rfl,rfl,rfl,rfl⟩,h⟩
 ·rintro ⟨_,⟨rfl,rfl,rfl,rfl,rfl⟩,h⟩;simp[h])
theorem jj0{x:Va}:isV (.mk 3 []) x=true↔∃ s,x = .mk 0 0 s [] []/\R1.Srt s/\s.length<=40/\jx3 s=true:=by
 obtain⟨n,m,s,c,v⟩:=x;rw[isV,V4.jxo,V4.jno];simp[jqa]
 constructor
 ·rintro ⟨⟨⟨rfl,rfl,rfl,rfl⟩,h⟩,h1,h2⟩;exact⟨s,⟨rfl,rfl,rfl,rfl,rfl⟩,h1,h2,h⟩
 ·rintro ⟨_,⟨rfl,rfl,rfl,rfl,rfl⟩,h1,h2,h⟩;simp[h,h1,h2]
theorem jw5{x:Va}:isV (.mk 6 []) x=true↔x = .zero\/∃ (n m:Int) (t:Str),x = .mk n m [t] [] []/\jx3 [t]=true/\(n≠0\/m≠0\/t≠[]):=by
 obtain⟨n,m,s,c,v⟩:=x;rw[isV,V4.jxo,V4.jtp];match s with
 | []=>simp[jqa,Va.zero]
 | [t]=>(
 simp[jqa,Va.zero]
 constructor
 ·rintro ⟨⟨h1,h2⟩,h3,h4⟩;exact⟨n,m,t,⟨rfl,rfl,rfl,h1,h2⟩,h3,h4⟩
 ·rintro ⟨n',m',t',⟨rfl,rfl,rfl,rfl,rfl⟩,h3,h4⟩;exact⟨⟨rfl,rfl⟩,h3,h4⟩)
 | t :: u :: r=>simp[jqa,Va.zero]
theorem jjg{x:Va}:isV (.mk 7 []) x=true↔x = .zero\/∃ c,x = .mk 0 0 [] [c] []/\isC c=true/\c≠[]:=by
 obtain⟨n,m,s,c,v⟩:=x;rw[isV,V4.jxo,V4.jnm];match c with
 | []=>(
 simp[jqa,jvb,Va.c,Va.zero]
 rintro _ _ rfl _;simp)
 | [k]=>(
 simp[jqa,jvb,Va.c,Va.zero]
 constructor
 ·rintro ⟨⟨⟨rfl,rfl,rfl,rfl⟩,_⟩,h1,h2⟩;exact⟨k,⟨rfl,rfl,rfl,rfl,rfl⟩,h1,by intro e;subst e;simp at h2⟩
 ·rintro ⟨_,⟨rfl,rfl,rfl,rfl,rfl⟩,h1,h2⟩;simp[h1];exact List.length_pos_iff.2 h2)
 | k :: l :: r=>simp[jqa,jvb,Va.c,Va.zero]
theorem jwh{a:Tr}{x:Va}:isV (.mk 4 [a]) x=true↔∃ s v,x = .mk 0 0 s [] v/\R1.Srt s/\s.length=v.length/\s.length<=40/\jx3 s=true/\∀ y∈v,isV a y=true/\y≠jqv a:=by
 obtain⟨n,m,s,c,v⟩:=x;rw[isV,V4.jxo,V4.jnn];simp[jqa,jhu,Va.v]
 constructor
 ·rintro ⟨⟨⟨⟨rfl,rfl,rfl⟩,h1,h2⟩,h3,h4⟩,h5⟩;exact⟨s,v,⟨rfl,rfl,rfl,rfl,rfl⟩,h3,h2,h4,h1,h5⟩
 ·rintro ⟨_,_,⟨rfl,rfl,rfl,rfl,rfl⟩,h3,h2,h4,h1,h5⟩;exact⟨⟨⟨⟨rfl,rfl,rfl⟩,h1,h2⟩,h3,h4⟩,h5⟩
theorem jje{a b:Tr}{x:Va}:isV (.mk 5 [a,b]) x=true↔∃ u v,x = .mk 0 0 [] [] [u,v]/\isV a u=true/\isV b v=true:=by
 obtain⟨n,m,s,c,v⟩:=x;rw[isV,V4.jxo,V4.jtq];match v with
 | []=>simp[jqa,jgt,Va.v]
 | [_]=>simp[jqa,jgt,Va.v]
 | [p,q]=>(
 simp[jqa,jgt,Va.v]
 constructor
 ·rintro ⟨⟨⟨rfl,rfl,rfl,rfl⟩,_⟩,h1,h2⟩;exact⟨p,q,⟨rfl,rfl,rfl,rfl,rfl,rfl⟩,h1,h2⟩
 ·rintro ⟨_,_,⟨rfl,rfl,rfl,rfl,rfl,rfl⟩,h1,h2⟩;simp[h1,h2])
 | _ :: _ :: _ :: _=>simp[jqa,jgt,Va.v]
theorem jq1{a:Tr}{x:Va}:isV (.mk 8 [a]) x=true↔∃ c v,x = .mk 0 0 [] c v/\c.length=v.length/\c.length<=40/\c.Pairwise ApR/\(∀ k∈c,isC k=true)/\∀ y∈v,isV a y=true:=by
 obtain⟨n,m,s,c,v⟩:=x;rw[isV,V4.jxo,V4.jm9 8 (by decide) (by decide) (by decide) (by decide) (by decide) (by decide) (by decide),V4.jhe];by_cases hl:c.length=v.length
 ·(
 have:=V4.jvz (isV a) c v [] hl List.Pairwise.nil;rw[List.nil_append] at this;simp[jqa,this]
 constructor
 ·rintro ⟨⟨⟨⟨rfl,rfl,rfl⟩,_⟩,_⟩,h1,h2,h3,h4⟩;exact⟨c,v,⟨rfl,rfl,rfl,rfl,rfl⟩,hl,h1,h4,h2,h3⟩
 ·rintro ⟨_,_,⟨rfl,rfl,rfl,rfl,rfl⟩,_,h1,h4,h2,h3⟩;exact⟨⟨⟨⟨rfl,rfl,rfl⟩,hl⟩,by simp⟩,h1,h2,h3,h4⟩)
 ·(
 simp[jqa,hl]
 rintro _ _ rfl rfl rfl rfl rfl h;exact absurd h hl)
theorem jq2{n:Nat}{t:Tr}(h:isT n t=true):∃ m,n=m+1/\((∃ k,(k=1\/k=2\/k=3\/k=6\/k=7)/\t = .mk k [])\/(∃ k a,(k=4\/k=8)/\t = .mk k [a]/\isT m a=true)\/(∃ a b,t = .mk 5 [a,b]/\isT m a=true/\isT m b=true)):=by
 cases n with
 | zero=>simp[isT] at h
 | succ m=>(
 refine⟨m,rfl,?_⟩;obtain⟨k,l⟩:=t;rw[isT,Bool.and_eq_true,decide_eq_true_eq,List.all_eq_true] at h;obtain⟨h1,h2⟩:=h;replace h1:(l.length:Int)=arI k:=h1;replace h2:∀ x∈l,isT m x=true:=h2
 unfold arI at h1;by_cases hk:k=1\/k=2\/k=3\/k=6\/k=7
 ·(rw[if_pos hk] at h1;exact .inl ⟨k,hk,by rw[List.eq_nil_of_length_eq_zero (l:=l) (by omega)]⟩)
 ·(
 rw[if_neg hk] at h1;by_cases fC:k=4\/k=8
 ·(rw[if_pos fC] at h1;obtain⟨a,rfl⟩:=List.length_eq_one_iff.1 (show l.length=1 by omega);exact .inr (.inl ⟨k,a,fC,rfl,h2 a (by simp)⟩))
 ·(
 rw[if_neg fC] at h1;by_cases cG:k=5
 ·(
 rw[if_pos cG] at h1;obtain⟨a,b,rfl⟩:∃ a b,l=[a,b]:=by (
 match l,h1 with
 | [a,b],_=>exact⟨a,b,rfl⟩)
 subst cG;exact .inr (.inr ⟨a,b,rfl,h2 a (by simp),h2 b (by simp)⟩))
 ·(rw[if_neg cG] at h1;omega))))
open C3 (Tk isC jw6 isC_mk Asc ofC jmr jms jqk cmpB jxt jjd jz0 jz1 jz3 jxh jxi jxj jjy)
open V4 (Va)
def NnC(l:List Tk):Prop:=∀ t∈l,0<=t.n
theorem jdu(l:List Tk)(q:Int):(∃ t∈l,t.k=q/\ofC l q=t.n)\/((∀ t∈l,t.k≠q)/\ofC l q=0):=by
 induction l with
 | nil=>exact .inr ⟨(fun _ h=>by cases h),rfl⟩
 | cons x l ih=>(
 rw[ofC];by_cases h:x.k=q
 ·rw[if_pos h];exact .inl ⟨x,by simp,h,rfl⟩
 ·(
 rw[if_neg h];rcases ih with ⟨t,h1,h2,h3⟩ | ⟨h1,h2⟩
 ·exact .inl ⟨t,by simp[h1],h2,h3⟩
 ·(
 refine .inr ⟨fun t ht=>?_,h2⟩;rcases List.mem_cons.1 ht with rfl | ht
 ·exact h
 ·exact h1 t ht)))
theorem ofC_nn{l:List Tk}(h:NnC l)(q:Int):0<=ofC l q:=by
 rcases jdu l q with ⟨t,h1,_,h3⟩ | ⟨_,h2⟩
 ·rw[h3];exact h t h1
 ·omega
theorem jmd{a b:List Tk}(h:jqk a b=true)(hb:NnC b)(q:Int):ofC a q<=ofC b q:=by
 unfold jqk at h;rcases jdu a q with ⟨t,h1,h2,h3⟩ | ⟨_,h2⟩
 ·(have:=of_decide_eq_true (List.all_eq_true.1 h t h1);rw[h3,<- h2];exact this)
 ·rw[h2];exact ofC_nn hb q
theorem under_mk{a b:List Tk}(ha:Asc a)(h:∀ q,ofC a q<=ofC b q):jqk a b=true:=by
 unfold jqk;refine List.all_eq_true.2 fun t ht=>decide_eq_true ?_
 have:=h t.k;rwa [jms ha ht] at this
theorem jgd{a b c:List Tk}(h1:jqk a b=true)(h2:jqk b c=true)(hc:NnC c):jqk a c=true:=by
 unfold jqk at h1 ⊢;refine List.all_eq_true.2 fun t ht=>decide_eq_true ?_
 have:=of_decide_eq_true (List.all_eq_true.1 h1 t ht);have:=jmd h2 hc t.k;omega
theorem jt6{a:List Tk}(h:Asc a):jqk a a=true:=under_mk h fun _=>Int.le_refl _
theorem jn1{a b:List Tk}(ha:isC a=true)(hb:isC b=true)(h:∀ q,ofC a q=ofC b q):a=b:=by
 obtain⟨_,a1,a2⟩:=jw6 ha;obtain⟨_,b1,b2⟩:=jw6 hb;have mem:∀ {a b:List Tk},Asc a->(∀ x∈a,0<=x.k/\x.k<=1000000/\x.n≠0)->(∀ q,ofC a q=ofC b q)->∀ t∈a,t∈b:=fun {a b} ha hz h t ht=>by (
 have e:=h t.k;rw[jms ha ht] at e;rcases jdu b t.k with ⟨u,h1,h2,h3⟩ | ⟨_,h2⟩
 ·(
 have:u=t:=by cases u;cases t;simp at h2 h3 e;simp[h2,e,h3]
 rw[<- this];exact h1)
 ·exact absurd (e.trans h2) (hz t ht).2.2)
 have ext:∀ {a b:List Tk},Asc a->Asc b->(∀ t,t∈a↔t∈b)->a=b:=fun {a b} ha hb h=>by (
 have h1:(a.map fun t=>(t.k,t.n))=b.map fun t=>(t.k,t.n):=by (
 refine jy9 (c:=fun x y:Int=>x - y) ⟨fun h=>by omega,fun x=>by omega,fun h=>by omega,fun h1 h2=>by omega⟩ (List.pairwise_map.2 (ha.imp fun h=>by simp;omega)) (List.pairwise_map.2 (hb.imp fun h=>by simp;omega)) fun p=>?_
 rw[List.mem_map,List.mem_map];exact⟨fun ⟨t,ht,e⟩=>⟨t,(h t).1 ht,e⟩,fun ⟨t,ht,e⟩=>⟨t,(h t).2 ht,e⟩⟩)
 have h2:=congrArg (fun l:List (Int×Int)=>l.map fun p=>Tk.mk p.1 p.2) h1;simpa[Function.comp_def] using h2)
 exact ext a1 b1 fun t=>⟨mem a1 a2 h t,mem b1 b2 (fun q=>(h q).symm) t⟩
theorem jn0{a b:List Tk}:jxt a b = -1↔jqk a b=true/\jqk b a=false:=by
 unfold jxt;cases jqk a b <;> cases jqk b a <;> simp[cmpB]
theorem jrl{a b c:List Tk}(h1:jxt a b = -1)(h2:jxt b c = -1)(hb:NnC b)(hc:NnC c):jxt a c = -1:=by
 rw[jn0] at *;refine⟨jgd h1.1 h2.1 hc,?_⟩;cases h:jqk c a with
 | false=>rfl
 | true=>(have:=jgd h h1.1 hb;rw[h2.2] at this;cases this)
theorem jlc(a:List Tk):jxt a a≠-1:=by
 rw[Ne,jn0];rintro ⟨h1,h2⟩;rw[h1] at h2;cases h2
theorem Cmp.flip{M:Type}{c:M->M->Int}(hc:Cmp c){x y:M}(h:c x y<0):0<c y x:=by
 rcases Int.lt_trichotomy (c y x) 0 with h1 | h1 | h1
 ·(have:=hc.trans h h1;rw[hc.refl] at this;omega)
 ·exact absurd (hc.eq h1).symm (hc.ne h)
 ·exact h1
theorem Cmp.le_antisymm{M:Type}{c:M->M->Int}(hc:Cmp c){x y:M}(h1:c x y<=0)(h2:c y x<=0):x=y:=by
 rcases Int.lt_or_eq_of_le h1 with h1 | h1
 ·have:=hc.flip h1;omega
 ·exact hc.eq h1
def jh4{A B:Type}(c:A->A->Int)(d:B->B->Int)(x y:A×B):Int:=if c x.1 y.1=0 then d x.2 y.2 else c x.1 y.1
theorem jh3{A B:Type}{c:A->A->Int}{d:B->B->Int}(hc:Cmp c)(hd:Cmp d):Cmp (jh4 c d):=by
 refine⟨fun {x y} h=>?_,fun x=>?_,fun {x y} h=>?_,fun {x y z} h1 h2=>?_⟩
 ·(
 unfold jh4 at h;by_cases h0:c x.1 y.1=0
 ·rw[if_pos h0] at h;exact Prod.ext (hc.eq h0) (hd.eq h)
 ·rw[if_neg h0] at h;exact absurd h h0)
 ·unfold jh4;rw[if_pos (hc.refl _)];exact hd.refl _
 ·(
 unfold jh4 at h ⊢;by_cases h0:c x.1 y.1=0
 ·(rw[if_pos h0] at h;rw[hc.eq h0,if_pos (hc.refl _)];exact hd.gt h)
 ·(rw[if_neg h0] at h;have:=hc.gt h;rw[if_neg (by omega)];exact this))
 ·(
 unfold jh4 at h1 h2 ⊢;by_cases e1:c x.1 y.1=0
 ·(
 rw[if_pos e1] at h1;rw[hc.eq e1];by_cases e2:c y.1 z.1=0
 ·rw[if_pos e2] at h2 ⊢;exact hd.trans h1 h2
 ·rw[if_neg e2] at h2 ⊢;exact h2)
 ·(
 rw[if_neg e1] at h1;by_cases e2:c y.1 z.1=0
 ·(rw[if_pos e2] at h2;rw[<- hc.eq e2,if_neg e1];exact h1)
 ·(rw[if_neg e2] at h2;have:=hc.trans h1 h2;rw[if_neg (by omega)];exact this)))
theorem jnz:Cmp jjd:=by
 refine⟨fun {x y} h=>?_,fun x=>C3.jjc x,fun {x y} h=>?_,fun {x y z} h1 h2=>?_⟩ <;> unfold jjd at *
 ·(
 split at h
 ·omega
 ·split at h <;> omega)
 ·(
 split at h
 ·omega
 ·(
 split at h
 ·rw[if_pos (by omega)];decide
 ·omega))
 ·(
 have e1:x<y:=by (
 split at h1
 ·assumption
 ·split at h1 <;> omega)
 have e2:y<z:=by (
 split at h2
 ·assumption
 ·split at h2 <;> omega)
 rw[if_pos (by omega)];decide)
theorem cmpL_ok:Cmp jjl:=by
 have eq:∀ x y:List Str,jjl x y=0->x=y:=by (
 intro x;induction x with
 | nil=>intro y h;cases y with
   | nil=>rfl
   | cons y b=>simp[jjl] at h
 | cons x a ih=>intro y h;cases y with
   | nil=>simp[jjl] at h
   | cons y b =>
     rw[jjl] at h
     by_cases h0:jx1 x y=0
     · rw[if_pos h0] at h;rw[jxe.eq h0,ih b h]
     · rw[if_neg h0] at h;exact absurd h h0)
 have refl:∀ x:List Str,jjl x x=0:=by (
 intro x;induction x with
 | nil=>rfl
 | cons x a ih=>rw[jjl,if_pos (jxe.refl _),ih])
 have gt:∀ x y:List Str,0<jjl x y->jjl y x<0:=by (
 intro x;induction x with
 | nil=>intro y h;cases y with
   | nil=>simp[jjl] at h
   | cons y b=>simp[jjl] at h
 | cons x a ih=>intro y h;cases y with
   | nil=>simp[jjl]
   | cons y b =>
     rw[jjl] at h ⊢
     by_cases h0:jx1 x y=0
     · rw[if_pos h0] at h
       rw[jxe.eq h0,if_pos (jxe.refl _)];exact ih b h
     · rw[if_neg h0] at h
       have:=jxe.gt h
       rw[if_neg (by omega)];exact this)
 have trans:∀ x y z:List Str,jjl x y<0->jjl y z<0->jjl x z<0:=by (
 intro x;induction x with
 | nil=>intro y z h1 h2;cases y with
   | nil=>simp[jjl] at h1
   | cons y b=>cases z with
     | nil=>simp[jjl] at h2
     | cons z c=>simp[jjl]
 | cons x a ih=>intro y z h1 h2;cases y with
   | nil=>simp[jjl] at h1
   | cons y b=>cases z with
     | nil=>simp[jjl] at h2
     | cons z c =>
       rw[jjl] at h1 h2 ⊢
       by_cases e1:jx1 x y=0
       · rw[if_pos e1] at h1
         rw[jxe.eq e1]
         by_cases e2:jx1 y z=0
         · rw[if_pos e2] at h2 ⊢;exact ih b c h1 h2
         · rw[if_neg e2] at h2 ⊢;exact h2
       · rw[if_neg e1] at h1
         by_cases e2:jx1 y z=0
         · rw[if_pos e2] at h2
           rw[<- jxe.eq e2,if_neg e1];exact h1
         · rw[if_neg e2] at h2
           have:=jxe.trans h1 h2
           rw[if_neg (by omega)];exact this)
 exact⟨fun {x y}=>eq x y,refl,fun {x y}=>gt x y,fun {x y z}=>trans x y z⟩
def keyW(x:Va):Int×Int×List Str:=(x.n,x.m,x.s)
theorem jxp(x y:Va):jxc x y=jh4 jjd (jh4 jjd jjl) (keyW x) (keyW y):=rfl
theorem jwg:Cmp (jh4 jjd (jh4 jjd jjl)):=jh3 jnz (jh3 jnz cmpL_ok)
theorem jdg{y:Va}(h1:0<=y.n)(h2:0<=y.m):jxc .zero y<=0:=by
 unfold jxc;show (if jjd 0 y.n=0 then (if jjd 0 y.m=0 then jjl [] y.s else jjd 0 y.m) else jjd 0 y.n)<=0
 have c:∀ {k:Int},0<=k->jjd 0 k<=0:=fun {k} h=>by unfold jjd;split;decide;rw[if_neg (by omega)];decide
 split
 ·(
 split
 ·cases y.s <;> simp[jjl]
 ·exact c h2)
 ·exact c h1
end J5
end Go.Proofs.YtobggoephhjofaaGreatDoor
