/- A part. No condition. -/
import Derived.Test.YtobggoephhjofaaGreatDoorMk26
set_option maxRecDepth 100000
set_option maxHeartbeats 16000000
namespace Go.Proofs.YtobggoephhjofaaGreatDoor
namespace J5
open S2 (Tr isT)
open V4 (Va isV jqv)
def jxu{V:Type}(s:List Str)(v:List V)(b:V)(k:Str):V:=if 0<=R1.atI s k then v[(R1.atI s k).toNat]?.getD b else b
section
variable {V:Type} {s:List Str} {v:List V} {b:V} {k:Str}
theorem jwm{j:Nat}{x:V}(h:R1.atI s k=j)(hx:v[j]?=some x):jxu s v b k=x:=by
 unfold jxu;rw[h,if_pos (by omega),Int.toNat_natCast,hx];rfl
theorem jym(h:¬ 0<=R1.atI s k):jxu s v b k=b:=by unfold jxu;rw[if_neg h]
theorem jtw(hs:R1.Srt s){x:V}(h:(k,x)∈s.zip v):∃ j:Nat,R1.atI s k=j/\s[j]?=some k/\v[j]?=some x:=by
 obtain⟨j,hj,e⟩:=List.getElem_of_mem h;rw[List.length_zip] at hj;rw[List.getElem_zip] at e;have e1:s[j]'(by omega)=k:=congrArg Prod.fst e;have e2:v[j]'(by omega)=x:=congrArg Prod.snd e;have h1:s[j]?=some k:=by rw[List.getElem?_eq_getElem (by omega),e1]
 refine⟨j,?_,h1,by rw[List.getElem?_eq_getElem (by omega),e2]⟩;refine (R1.jn9 (fun hm=>?_) h1).symm;have h2:s.Pairwise (·<·):=hs;have h3:(s.take (j+1)).Pairwise (·<·):=List.Pairwise.sublist (List.take_sublist _ _) h2;rw[List.take_succ_eq_append_getElem (by omega),List.pairwise_append] at h3;have h4:=h3.2.2 k hm (s[j]'(by omega)) (by simp);rw[e1] at h4;exact List.lt_irrefl k h4
theorem jlm(h:0<=R1.atI s k)(hl:s.length=v.length):∃ (j:Nat) (x:V),R1.atI s k=j/\s[j]?=some k/\v[j]?=some x:=by
 unfold R1.atI at h ⊢;split at h
 ·(
 rename_i hm
 have hj:=List.idxOf_lt_length_iff.2 hm;refine⟨s.idxOf k,v[s.idxOf k]'(by omega),by rw[if_pos hm],?_,List.getElem?_eq_getElem _⟩;rw[List.getElem?_eq_getElem hj,List.getElem_idxOf])
 ·omega
end
theorem mix_at{V:Type}{z:V}{s s':List Str}{v v':List V}(hs:R1.Srt s)(jg:R1.Srt s')(hl:s.length=v.length)(cR:s'.length=v'.length)(ha:Up jx1 (s.zip v))(hb:Up jx1 (s'.zip v')){i:Nat}{k:Str}(hk:(R1.jqm s s')[i]?=some k):(mix jx1 z (s.zip v) (s'.zip v'))[i]?=some (k,jxu s v z k,jxu s' v' z k):=by
 have hm:=jtd (z:=z) ha hb;rw[List.map_fst_zip (by omega),List.map_fst_zip (by omega)] at hm;rw[<- hm,List.getElem?_map] at hk;cases hq:(mix jx1 z (s.zip v) (s'.zip v'))[i]? with
 | none=>rw[hq] at hk;cases hk
 | some q=>(
 rw[hq] at hk;obtain⟨q1,q2,q3⟩:=q;simp only[Option.map_some,Option.some.injEq] at hk;subst hk;have bx:=(jgv jxe _ _ ha hb _).1 (List.mem_of_getElem? hq);congr 1
 have miss:∀ {t:List Str} {u:List V},t.length=u.length->(∀ q∈t.zip u,q.1≠q1)->jxu t u z q1=z:=fun {t u} hl h=>by (
 refine jym fun h0=>?_
 obtain⟨j,x,_,e1,e2⟩:=jlm (v:=u) h0 hl;have hz:(t.zip u)[j]?=some (q1,x):=by rw[List.getElem?_zip_eq_some];exact⟨e1,e2⟩
 exact h _ (List.mem_of_getElem? hz) rfl)
 rcases bx with ⟨h1,h2⟩ | ⟨h1,h2,h3⟩ | ⟨h1,h2,h3⟩
 ·(obtain⟨j,e1,_,e2⟩:=jtw hs h1;obtain⟨j',e1',_,e2'⟩:=jtw jg h2;rw[jwm e1 e2,jwm e1' e2'])
 ·(obtain⟨j,e1,_,e2⟩:=jtw hs h1;simp only at h2 h3;rw[jwm e1 e2,miss cR h2,h3])
 ·(obtain⟨j',e1',_,e2'⟩:=jtw jg h3;simp only at h1 h2;rw[jwm e1' e2',miss hl h1,h2]))
theorem jna{n:Nat}{t:Tr}(hn:n<=16)(ht:isT n t=true)(s s':List Str)(v v':List Va)(k:Str):jzp t (jxu s v (jqv t) k) (jxu s' v' (jqv t) k)=jzp t (jxu s v .zero k) (jxu s' v' .zero k):=by
 have h1:∀ y,jzp t (jxu s v (jqv t) k) y=jzp t (jxu s v .zero k) y:=fun y=>by (
 unfold jxu;split
 ·(
 cases v[(R1.atI s k).toNat]? with
 | none=>exact jg3 n t hn ht y
 | some x=>rfl)
 ·exact jg3 n t hn ht y)
 have h2:∀ x,jzp t x (jxu s' v' (jqv t) k)=jzp t x (jxu s' v' .zero k):=fun x=>by (
 unfold jxu;split
 ·(
 cases v'[(R1.atI s' k).toNat]? with
 | none=>exact jg2 n t hn ht x
 | some y=>rfl)
 ·exact jg2 n t hn ht x)
 rw[h1,h2]
structure MpS (f:Va->Va->Option Va) (F:List (Str×Va×Va)) (i:Nat) (ok:Bool) (r:List Va):Prop where
  len:r.length=i
  good:ok=true->F.length<=40/\jxf f (F.take i)=some ((F.map (·.1)).zip r)
  bad:ok=false->40<F.length\/jxf f (F.take i)=none
theorem MpS.start{f:Va->Va->Option Va}{F:List (Str×Va×Va)}{ok:Bool}(h:ok=decide (F.length<=40)):MpS f F 0 ok [] :=
  ⟨rfl,fun e=>⟨by rw[e] at h;exact of_decide_eq_true h.symm,by rw[List.take_zero,List.zip_nil_right];rfl⟩,fun e => .inl (by rw[e] at h;have:=of_decide_eq_false h.symm;omega)⟩
theorem MpS.step{f:Va->Va->Option Va}{F:List (Str×Va×Va)}{i:Nat}{ok:Bool}{r:List Va}(h:MpS f F i ok r){k:Str}{x y z:Va}{g:Bool}(hi:F[i]?=some (k,x,y))(hg:(g=true/\f x y=some z)\/(g=false/\f x y=none)):MpS f F (i+1) (ok && g) (r++[z]):=by
 have hlt:i<F.length:=(List.getElem?_eq_some_iff.1 hi).1;have ht:F.take (i+1)=F.take i++[(k,x,y)]:=by rw[List.take_succ_eq_append_getElem hlt,(List.getElem?_eq_some_iff.1 hi).2]
 refine⟨by simp[h.len],fun e=>?_,fun e=>?_⟩
 ·(
 rw[Bool.and_eq_true] at e;rcases hg with ⟨_,e2⟩ | ⟨e2,_⟩
 ·(
 refine⟨(h.good e.1).1,?_⟩;rw[ht,jky,(h.good e.1).2];show (f x y).map _=_
 rw[e2];show some _=some _
 congr 1
 have hm:(F.map (·.1)).take (i+1)=(F.map (·.1)).take i++[k]:=by rw[<- List.map_take,ht,List.map_append,List.map_take];rfl
 have hz:∀ (m:List Str) (u:List Va),m.zip u=(m.take u.length).zip u:=fun m u=>by (
 induction u generalizing m with
 | nil=>simp
 | cons a u ih=>cases m with
   | nil=>rfl
   | cons b m=>simp[ih m])
 rw[hz _ (r++[z]),hz _ r,List.length_append,h.len];show _=(List.take (i+1) _).zip _
 rw[hm,List.zip_append (by rw[List.length_take,List.length_map,h.len];omega)];rfl)
 ·rw[e2] at e;cases e.2)
 ·(
 rcases Bool.and_eq_false_iff.1 e with e | e
 ·(
 rcases h.bad e with h1 | h1
 ·exact .inl h1
 ·(refine .inr ?_;rw[ht,jky,h1];rfl))
 ·(
 rcases hg with ⟨e2,_⟩ | ⟨_,e2⟩
 ·rw[e] at e2;cases e2
 ·(refine .inr ?_;rw[ht,jky,e2];cases jxf f (F.take i) <;> rfl)))
theorem MpS.done{f:Va->Va->Option Va}{F:List (Str×Va×Va)}{n:Nat}{ok:Bool}{r:List Va}(h:MpS f F n ok r)(hn:n=F.length):(ok=true/\jwy f F=some ((F.map (·.1)).zip r))\/(ok=false/\jwy f F=none):=by
 have e:F.take n=F:=by rw[hn,List.take_length]
 have h2:=h.good;have h3:=h.bad;rw[e] at h2 h3;unfold jwy;cases ok with
 | true=>exact .inl ⟨rfl,by rw[if_neg (by have:=(h2 rfl).1;omega)];exact (h2 rfl).2⟩
 | false=>(
 refine .inr ⟨rfl,?_⟩;split
 ·rfl
 ·(
 rcases h3 rfl with h4 | h4
 ·omega
 ·exact h4))
end J5
namespace J5
open Go.RowKit Go.Shelf
open C3 (Tk In Asc jxt jzk jzf jkg)
open V4 (Va Vl Ck jzt jzl jzj jju InC jzh jzw)
theorem jc8{M N V W:Type}(g:M->N)(f:V->V->Option W):∀ l:List (M×V×V),jxf f (l.map fun q=>(g q.1,q.2))=(jxf f l).map fun r=>r.map fun q=>(g q.1,q.2)
  | []=>rfl
  | q :: l=>by
    rw[List.map_cons,jxf,jxf,jc8 g f l]
    cases f q.2.1 q.2.2 with
    | none=>rfl
    | some v=>cases jxf f l <;> rfl
theorem jha{M N V W:Type}(g:M->N)(f:V->V->Option W)(l:List (M×V×V)):jwy f (l.map fun q=>(g q.1,q.2))=(jwy f l).map fun r=>r.map fun q=>(g q.1,q.2):=by
 unfold jwy;rw[List.length_map];split
 ·rfl
 ·exact jc8 g f l
theorem jr2(ss:List Ck)(vs:List Vl):(ss.zip vs).map (fun p=>(p.1.l,p.2.er))=(ss.map Ck.l).zip (vs.map Vl.er):=by
 induction ss generalizing vs with
 | nil=>rfl
 | cons s ss ih=>cases vs with
   | nil=>rfl
   | cons v vs=>simp[ih]
theorem jn4(f:Va->Va->Option Va)(n m:Int)(sA:Option Addr)(sc:Nat)(ss:List Str)(cA:Option Addr)(cc:Nat)(cs:List Ck)(vA:Option Addr)(vc:Nat)(vs:List Vl)(n' m':Int)(sA':Option Addr)(sc':Nat)(ss':List Str)(cA':Option Addr)(cc':Nat)(cs':List Ck)(vA':Option Addr)(vc':Nat)(vs':List Vl):jwu f (Vl.mk n m sA sc ss cA cc cs vA vc vs).er (Vl.mk n' m' sA' sc' ss' cA' cc' cs' vA' vc' vs').er=(jwy f (((mix jja vlZ (cs.zip vs) (cs'.zip vs')).filter fun p=>!(cs++cs').any (jko p.1)).map jri)).map fun l => .mk 0 0 [] (l.map (·.1.l)) (l.map (·.2)):=by
 have h:=jht (c:=jja) (c':=jkv) (z:=vlZ) (z':=Va.zero) Ck.l Vl.er (fun _ _=>rfl) jp9 (cs.zip vs) (cs'.zip vs');unfold jwu;rw[jzw,jzw];simp only[Va.c,Va.v];rw[jr2,jr2] at h;rw[<- h,List.filter_map];have e1:((fun p:List Tk×Va×Va=>!jw1 p.1 (cs.map Ck.l++cs'.map Ck.l)) ∘ fun p:Ck×Vl×Vl=>(p.1.l,p.2.1.er,p.2.2.er))=fun p=>!(cs++cs').any (jko p.1):=by (
 funext p
 simp only[Function.comp,jw1,<- List.map_append,List.any_map];rfl)
 rw[e1];have e2:∀ l:List (Ck×Vl×Vl),l.map (fun p=>(p.1.l,p.2.1.er,p.2.2.er))=(l.map jri).map fun q=>(Ck.l q.1,q.2):=fun l=>by rw[List.map_map];rfl
 rw[e2,jha];cases jwy f (((mix jja vlZ (cs.zip vs) (cs'.zip vs')).filter fun p=>!(cs++cs').any (jko p.1)).map jri) with
 | none=>rfl
 | some l=>simp[Function.comp_def]
structure Mks (base i:Nat) (vm vv:Value) (ms:List Ck) (vs:List Vl) (X:World):Prop where
  rm:jig X base vm ms
  rv:X.ownsRow base 30 5 vv vs.length (jzj vs)
  ne:vm.ownBlock=none\/vm.ownBlock≠vv.ownBlock
  vk:∀ v∈vs,v.Inp (fun b=>base<=b/\b<X.heap.size/\some b≠vm.ownBlock) X
  mo:∀ (j:Nat) (k:Ck),j<i->ms[j]?=some k->k.Inp (fun b=>base<=b/\b<X.heap.size/\some b≠vm.ownBlock) X
section
variable {base i:Nat} {vm vv:Value} {ms:List Ck} {vs:List Vl} {X X':World}
theorem Mks.start{out:List (Ck×Vl)}{Y:Nat->Prop}(h:Hd jjk 54 base Y vm vv out X):Mks base 0 vm vv (out.map (·.1)) (out.map (·.2)) X:=by
 refine⟨?_,?_,h.ne,fun v hv=>?_,fun _ _ h=>(by omega)⟩
 ·(have:=h.rm;unfold jig jzl;rw[List.length_map,List.map_map];exact this)
 ·rw[List.length_map];exact h.rv
 ·(obtain⟨p,hp,rfl⟩:=List.mem_map.1 hv;exact (h.vk p hp).mono fun b hP=>⟨hP.1,hP.2.1,hP.2.2.1⟩)
theorem Mks.below(h:Mks base i vm vv ms vs X)(hb:Below X.heap.size X X'):Mks base i vm vv ms vs X' :=
  ⟨jq6 h.rm fun b e=>hb.block b (h.rm.lt b e).2,jq6 h.rv fun b e=>hb.block b (h.rv.lt b e).2,h.ne,
    fun v hv=>((h.vk v hv).keep fun b hP=>hb.block b hP.2.1).mono fun _ hP=>⟨hP.1,ltl hP.2.1 hb.size,hP.2.2⟩,
    fun j k hj hk=>((h.mo j k hj hk).keep fun b hP=>hb.block b hP.2.1).mono fun _ hP=>⟨hP.1,ltl hP.2.1 hb.size,hP.2.2⟩⟩
theorem row_set{e:TypeId}{g n c:Nat}{xs:List Value}(h:X.ownsRow base e 1 (.slice (some ⟨g,0,none⟩) n c) n xs)(i:Nat)(u:Value):(X.setCell ⟨g,i,none⟩ u).ownsRow base e 1 (.slice (some ⟨g,0,none⟩) n c) n (xs.set i u):=by
 refine⟨by rw[List.length_set];exact h.1,.inr ?_⟩;rcases h.2 with ⟨e1,_⟩ | ⟨g',cap,cur,e1,hb,hg,j0,d8,fq,ht⟩
 ·cases e1
 ·(
 cases e1
 refine⟨g,c,cur.setIfInBounds i u,rfl,hb,heap_setCell_same X g i cur e u hg,j0,d8,by rw[Array.size_setIfInBounds];exact fq,?_⟩;rw[Array.toList_setIfInBounds,List.take_set,ht])
theorem Mks.put{g n c:Nat}(h:Mks base i (.slice (some ⟨g,0,none⟩) n c) vv ms vs X)(hn:ms.length=n){k:Ck}(hk:k.Inp (fun b=>base<=b/\b<X.heap.size/\b≠g) X):Mks base (i+1) (.slice (some ⟨g,0,none⟩) n c) vv (ms.set i k) vs (X.setCell ⟨g,i,none⟩ k.v):=by
 subst hn;have hs:(X.setCell ⟨g,i,none⟩ k.v).heap.size=X.heap.size:=by simp
 have hne:∀ b,some b≠(Value.slice (some ⟨g,0,none⟩) ms.length c).ownBlock->b≠g:=fun b hb e=>hb (by rw[e];rfl)
 have hl:∀ b,b≠g->(X.setCell ⟨g,i,none⟩ k.v).heap[b]?=X.heap[b]?:=fun b hb=>Below.heap_setCell _ _ _ _ hb
 refine⟨?_,jq6 h.rv fun b e=>hl b fun e2=>?_,h.ne,fun v hv=>?_,fun j k' hj eN=>?_⟩
 ·(have:=row_set h.rm i k.v;unfold jig jzl at *;rw[List.length_set,List.map_set];exact this)
 ·(
 rcases h.ne with e3 | e3
 ·cases e3
 ·exact e3 (by rw[e,e2];rfl))
 ·rw[hs];exact (h.vk v hv).keep fun b hP=>hl b (hne b hP.2.2)
 ·(
 rw[hs];by_cases e:j=i
 ·(
 subst e;rw[List.getElem?_set] at eN;simp only[↓reduceIte] at eN;split at eN
 ·(
 cases eN
 exact (hk.keep fun b hP=>hl b hP.2.2).mono fun b hP=>⟨hP.1,hP.2.1,fun e=>hP.2.2 (Option.some.inj e)⟩)
 ·cases eN)
 ·(rw[List.getElem?_set_ne (Ne.symm e)] at eN;exact (h.mo j k' (by omega) eN).keep fun b hP=>hl b (hne b hP.2.2)))
theorem Mks.val{A A2:Option Addr}{n m c c2:Nat}(h:Mks base i (.slice A n c) (.slice A2 m c2) ms vs X)(hn:ms.length=n)(hm:vs.length=m)(hi:ms.length<=i)(l1:n<=40)(l2:m<=40):(Vl.mk 0 0 none 0 [] A c ms A2 c2 vs).Inp (fun b=>base<=b/\b<X.heap.size) X:=by
 subst hn;subst hm;obtain⟨a1,a2,a3⟩:=jz8 h.rm;obtain⟨b1,b2,b3⟩:=jz8 h.rv;refine .mk _ _ _ _ _ _ _ _ _ _ _ (by omega) (by omega) (.inl rfl) (by simp) (by simp) a1 (by omega) (fun k hk=>?_) b1 (by omega) (fun x hx=>(h.vk x hx).mono fun b hP=>⟨hP.1,hP.2.1⟩);obtain⟨j,hj,e⟩:=List.mem_iff_getElem.1 hk;exact (h.mo j k (by omega) (by rw[List.getElem?_eq_getElem hj,e])).mono fun b hP=>⟨hP.1,hP.2.1⟩
end
end J5
namespace J5
open Go.RowKit Go.Shelf
open C3 (jzk jzf)
open V4 (Va Vl Ck isV jzt jzj jxb jzh jzw)
theorem jqw{W W':World}{base:Nat}{e:TypeId}{size:Nat}{v:Value}{n:Nat}{xs:List Value}(h:W.ownsRow base e size v n xs)(hb:Below W.heap.size W W'):W'.ownsRow base e size v n xs:=jq6 h fun b ct=>hb.block b (World.ownsRow.lt h b ct).2
structure MpM (P:Nat->Prop) (U:World) (s2:Value) (vs:List Vl) (vv:Value) (W:World):Prop where
  bel:Below U.heap.size U W
  q8:Blk W U.heap.size 30 #[.int .u64 0,.int .u64 0,s2,.slice none 0 0,vv]
  rv:W.ownsRow (U.heap.size+1) 30 5 vv vs.length (jzj vs)
  vk:∀ v∈vs,v.Inp (fun b=>(P b\/U.heap.size<b)/\b<W.heap.size/\some b≠vv.ownBlock) W
section
variable {P:Nat->Prop} {U W W':World} {s2 vv:Value} {vs:List Vl}
theorem MpM.start{z0 z1 z2 z3 z4:Value}(h:Blk W U.heap.size 30 #[z0,z1,z2,z3,z4])(hb:Below U.heap.size U W):MpM P U s2 [] (.slice none 0 0) (jz9 W U.heap.size (.int .u64 0) (.int .u64 0) s2 (.slice none 0 0) (.slice none 0 0)) :=
  ⟨jzm hb (Nat.le_refl _),jzc h,World.ownsRow_nil _ _ _ _,fun v hv=>by cases hv⟩
theorem MpM.later(h:MpM P U s2 vs vv W)(hb:Below W.heap.size W W'):MpM P U s2 vs vv W' :=
  ⟨h.bel.trans (hb.mono h.bel.size),h.q8.below hb,jqw h.rv hb,fun v hv=>((h.vk v hv).keep fun b hP=>hb.block b hP.2.1).mono fun _ hP=>⟨hP.1,ltl hP.2.1 hb.size,hP.2.2⟩⟩
theorem MpM.step{Y Z W1:World}{x:Vl}{v1:Value}(h:MpM P U s2 vs vv W)(hP:∀ k,P k->k<U.heap.size)(bY:Below W.heap.size W Y)(hx:x.Inp (fun k=>(P k\/W.heap.size<=k)/\k<Y.heap.size) Y)(bZ:Below Y.heap.size Y Z)(ho:W1.ownsRow (U.heap.size+1) 30 5 v1 (vs.length+1) (jzj vs++jzj [x]))(hg:Z.grownBy W1 vv.ownBlock)(hv:v1.ownBlock=vv.ownBlock\/v1.ownBlock=some Z.heap.size):MpM P U s2 (vs++[x]) v1 (W1.setCell ⟨U.heap.size,4,none⟩ v1):=by
 have bWZ:Below W.heap.size W Z:=bY.trans (bZ.mono bY.size);have hZ:=h.later bWZ;have lt8:=h.q8.lt;have rl:=bY.size;have hsZ:=bZ.size;have own:∀ k,vv.ownBlock=some k->U.heap.size+1<=k/\k<W.heap.size:=fun k hk=>World.ownsRow.lt h.rv k hk
 have own1:∀ k,v1.ownBlock=some k->U.heap.size+1<=k:=fun k hk=>(World.ownsRow.lt ho k hk).1
 have ne8:some U.heap.size≠vv.ownBlock:=fun e=>by have:=(own _ e.symm).1;omega
 have bW1:Below U.heap.size U W1:=hZ.bel.grown hg hZ.bel.size fun k hk=>by have:=(own k hk).1;omega
 have q1:Blk W1 U.heap.size 30 #[.int .u64 0,.int .u64 0,s2,.slice none 0 0,vv]:=(hg.block _ (by omega) ne8).trans hZ.q8;have fm:Z.heap.size<=W1.heap.size:=hg.size;have set:∀ b,b≠U.heap.size->(W1.setCell ⟨U.heap.size,4,none⟩ v1).heap[b]?=W1.heap[b]?:=fun b hb=>Below.heap_setCell _ _ _ _ (by simpa using hb)
 have jf:(W1.setCell ⟨U.heap.size,4,none⟩ v1).heap.size=W1.heap.size:=by simp
 refine⟨bW1.setCell (Nat.le_refl _) v1,q1.set 4 v1,?_,fun v eU=>?_⟩
 ·(rw[jxb,List.length_append];exact jq6 ho fun b hb=>set b (by have:=own1 b hb;omega))
 ·(
 have ne1:∀ b,b<Z.heap.size->some b≠vv.ownBlock->some b≠v1.ownBlock:=fun b h1 h2 e=>by (
 rcases hv with hv | hv
 ·exact h2 (e.trans hv)
 ·(rw[hv] at e;have:=Option.some.inj e;omega))
 rcases List.mem_append.1 eU with eU | eU
 ·(
 refine ((h.vk v eU).keep fun b hb=>?_).mono fun b hb=>?_
 ·(rw[set b (by rcases hb.1 with h1 | h1;(have:=hP b h1;omega);omega),hg.block b (by have:=hb.2.1;omega) hb.2.2];exact bWZ.block b hb.2.1)
 ·exact⟨hb.1,by rw[jf];have:=hb.2.1;omega,ne1 b (by have:=hb.2.1;omega) hb.2.2⟩)
 ·(
 rw[List.mem_singleton.1 eU];have nv:∀ b,(P b\/W.heap.size<=b)->some b≠vv.ownBlock:=fun b hb e=>by (
 have:=own b e.symm;rcases hb with h1 | h1
 ·have:=hP b h1;omega
 ·omega)
 refine (hx.keep fun b hb=>?_).mono fun b hb=>?_
 ·(rw[set b (by rcases hb.1 with h1 | h1;(have:=hP b h1;omega);omega),hg.block b (by have:=hb.2;omega) (nv b hb.1)];exact bZ.block b hb.2)
 ·exact⟨hb.1.imp id (fun h1=>by omega),by rw[jf];have:=hb.2;omega,ne1 b (by have:=hb.2;omega) (nv b hb.1)⟩))
end
end J5
namespace J5
open Go.RowKit Go.Shelf
open C3 (jzk jzf)
open S2 (Tr isT)
open V4 (Va Vl Ck isV jqv jzt jzj jzh jzw)
structure SdM (P:Nat->Prop) (R X:World) (p1 p2:Nat) (t:Va) (wx:World):Prop where
  ex:∃ u:Vl,Blk wx p1 30 #[.int .u64 u.n,.int .u64 u.m,u.s1,u.c1,u.v1]/\u.er=t/\u.Inp (fun b=>(P b\/R.heap.size<=b)/\b<wx.heap.size/\b≠p1/\b≠p2) wx
  keep:∀ b,b<X.heap.size->b≠p1->wx.heap[b]?=X.heap[b]?
  size:X.heap.size<=wx.heap.size
  bel:Below R.heap.size R wx
section
variable {P:Nat->Prop} {R X:World} {p1 p2:Nat} {t:Va}
theorem SdM.stay{u:Vl}(n:Nat)(hb:Below R.heap.size R X)(hq:Blk X p1 30 #[.int .u64 u.n,.int .u64 u.m,u.s1,u.c1,u.v1])(he:u.er=t)(hi:u.Inp (fun b=>R.heap.size<=b/\b<X.heap.size/\b≠p1/\b≠p2) X):SdM P R X p1 p2 t (X.drewN n) :=
  ⟨⟨u,hq,he,(hi.mono fun _ hb=>⟨.inr hb.1,hb.2⟩).keep fun _ _=>rfl⟩,fun _ _ _=>rfl,Nat.le_refl _,jzq hb n⟩
theorem SdM.set{x:Vl}(n:Nat){z0 z1 z2 z3 z4:Value}(hb:Below R.heap.size R X)(h1:R.heap.size<=p1)(h2:R.heap.size<=p2)(hP:∀ k,P k->k<R.heap.size)(hq:Blk X p1 30 #[z0,z1,z2,z3,z4])(he:x.er=t)(hi:x.Inp P X):SdM P R X p1 p2 t (jz9 (X.drewN n) p1 (.int .u64 x.n) (.int .u64 x.m) x.s1 x.c1 x.v1):=by
 have hs:=hb.size;refine⟨⟨x,jzc (W:=X.drewN n) hq,he,?_⟩,fun b _ hne=>jzn hne,Nat.le_of_eq jzu.symm,jzm (jzq hb n) h1⟩;refine (hi.keep fun b hb=>jzn (W:=X.drewN n) (fun e=>by have:=hP b hb;omega)).mono fun b hb=>?_
 have:=hP b hb;exact⟨.inl hb,ltl (by omega:b<X.heap.size) (Nat.le_of_eq jzu.symm),by omega,by omega⟩
end
theorem jtg{P:Nat->Prop}{w:World}{n m:Int}{sA:Option Addr}{sc:Nat}{ss:List Str}{cA:Option Addr}{cc:Nat}{cs:List Ck}{vA:Option Addr}{vc:Nat}{vs:List Vl}(h:(Vl.mk n m sA sc ss cA cc cs vA vc vs).Inp P w):jzt P w vA (jzj vs):=by
 cases h with | mk _ _ _ _ _ _ _ _ _ _ _ _ _ _ _ _ _ _ _ d1 _ _=>exact d1
theorem vk_of{P:Nat->Prop}{w:World}{n m:Int}{sA:Option Addr}{sc:Nat}{ss:List Str}{cA:Option Addr}{cc:Nat}{cs:List Ck}{vA:Option Addr}{vc:Nat}{vs:List Vl}(h:(Vl.mk n m sA sc ss cA cc cs vA vc vs).Inp P w):∀ k∈vs,k.Inp P w:=by
 cases h with | mk _ _ _ _ _ _ _ _ _ _ _ _ _ _ _ _ _ _ _ _ _ d3=>exact d3
theorem jtk{n:Nat}{a:Tr}(hn:n<=16)(ha:isT n a=true){s:List Str}{v:List Va}(h:∀ y∈v,isV a y=true)(k:Str):isV a (jxu s v (jqv a) k)=true:=by
 unfold jxu;split
 ·(
 cases hx:v[(R1.atI s k).toNat]? with
 | none=>exact jd3 n a hn ha
 | some x=>exact h x (List.mem_of_getElem? hx))
 ·exact jd3 n a hn ha
theorem jmu{n:Nat}{t:Tr}(hn:n<=16)(ht:isT n t=true){s s':List Str}{v v':List Va}(hs:R1.Srt s)(jg:R1.Srt s')(hl:s.length=v.length)(cR:s'.length=v'.length){i:Nat}{k:Str}(hk:(R1.jqm s s')[i]?=some k){o:Option Va}(ho:jzp t (jxu s v (jqv t) k) (jxu s' v' (jqv t) k)=o) :
    ∃ x y,(mix jx1 .zero (s.zip v) (s'.zip v'))[i]?=some (k,x,y)/\jzp t x y=o :=
  ⟨_,_,mix_at hs jg hl cR (jgh hs hl) (jgh jg cR) hk,by rw[<- ho,jna hn ht]⟩
theorem jbg{s s':List Str}{v v':List Va}(hs:R1.Srt s)(jg:R1.Srt s')(hl:s.length=v.length)(cR:s'.length=v'.length):(mix jx1 .zero (s.zip v) (s'.zip v')).map (·.1)=R1.jqm s s':=by
 have hm:=jtd (z:=Va.zero) (jgh hs hl) (jgh jg cR);rwa [List.map_fst_zip (by omega),List.map_fst_zip (by omega)] at hm
end J5
end Go.Proofs.YtobggoephhjofaaGreatDoor
