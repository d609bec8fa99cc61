/- A part. No condition. -/
import Derived.Test.YtobggoephhjofaaGreatDoorMj14
set_option maxRecDepth 100000
set_option maxHeartbeats 16000000
namespace Go.Proofs.YtobggoephhjofaaGreatDoor
namespace J5
open C3 (Tk isC jww Asc ofC jqj jxo)
open S2 (Tr isT)
open V4 (Va isV jqh ApR jkj)
def ckE(x:Va):List Tk:=x.c.headD []
def mapLe(f:Va->Va->Prop)(x y:Va):Prop:=∀ p∈x.s.zip x.v,∃ q∈y.s.zip y.v,q.1=p.1/\f p.2 q.2
def jua(f:Va->Va->Prop)(x y:Va):Prop:=∀ p∈x.c.zip x.v,(∃ q∈y.c.zip y.v,jxo p.1 q.1 = -1)\/∃ q∈y.c.zip y.v,q.1=p.1/\f p.2 q.2
def leV:Tr->Va->Va->Prop
  | .mk k [],x,y=>if k=3 then ∀ s∈x.s,s∈y.s else if k=6 then jjk x y<=0 else if k=7 then jqj (ckE x) (ckE y)=true else x.n<=y.n
  | .mk k [a],x,y=>if k=4 then mapLe (leV a) x y else jua (leV a) x y
  | .mk _ [a,b],x,y=>leV a (jq2 x 0) (jq2 y 0)/\leV b (jq2 x 1) (jq2 y 1)
  | .mk _ (_ :: _ :: _ :: _),_,_=>False
inductive Nn:Va->Prop
  | mk (n m:Int) (s:List Str) (c:List (List Tk)) (v:List Va):0<=n->0<=m->(∀ k∈c,NnC k)->(∀ y∈v,Nn y)->Nn (.mk n m s c v)
theorem Nn.out{x:Va}(h:Nn x):0<=x.n/\0<=x.m/\(∀ k∈x.c,NnC k)/\∀ y∈x.v,Nn y:=by
 cases h with | mk n m s c v h1 h2 h3 h4=>exact⟨h1,h2,h3,h4⟩
theorem Nn.zero:Nn .zero := .mk _ _ _ _ _ (by decide) (by decide) (fun _ h=>by cases h) (fun _ h=>by cases h)
theorem Nn.half{x:Va}(h:Nn x)(i:Nat):Nn (jq2 x i):=by
 unfold jq2;cases e:x.v[i]? with
 | none=>exact .zero
 | some y=>exact h.out.2.2.2 y (List.mem_of_getElem? e)
theorem Nn.ck{x:Va}(h:Nn x):NnC (ckE x):=by
 unfold ckE;cases e:x.c with
 | nil=>intro t ht;cases ht
 | cons k l=>exact h.out.2.2.1 k (by rw[e];simp)
theorem jgt{k:Int}(hk:k=1\/k=2)(x y:Va):leV (.mk k []) x y↔x.n<=y.n:=by rw[leV,if_neg (by omega),if_neg (by omega),if_neg (by omega)]
theorem jdq(x y:Va):leV (.mk 3 []) x y↔∀ s∈x.s,s∈y.s:=by rw[leV,if_pos rfl]
theorem jku(x y:Va):leV (.mk 6 []) x y↔jjk x y<=0:=by rw[leV,if_neg (by decide),if_pos rfl]
theorem jgu(x y:Va):leV (.mk 7 []) x y↔jqj (ckE x) (ckE y)=true:=by rw[leV,if_neg (by decide),if_neg (by decide),if_pos rfl]
theorem jdr(a:Tr)(x y:Va):leV (.mk 4 [a]) x y↔mapLe (leV a) x y:=by rw[leV,if_pos rfl]
theorem jgv(a:Tr)(x y:Va):leV (.mk 8 [a]) x y↔jua (leV a) x y:=by rw[leV,if_neg (by decide)]
theorem jbz(a b:Tr)(x y:Va):leV (.mk 5 [a,b]) x y↔leV a (jq2 x 0) (jq2 y 0)/\leV b (jq2 x 1) (jq2 y 1):=by rw[leV]
theorem jtb:∀ (n:Nat) (t:Tr),isT n t=true->∀ y,Nn y->leV t .zero y:=by
 intro n;induction n with
 | zero=>intro t h;simp[isT] at h
 | succ n ih=>(
 intro t h y hy;obtain⟨m,hm,h⟩:=jq5 h;obtain rfl:n=m:=by omega
 rcases h with ⟨k,hk,rfl⟩ | ⟨k,a,hk,rfl,ha⟩ | ⟨a,b,rfl,ha,hb⟩
 ·(
 rcases hk with rfl | rfl | rfl | rfl | rfl
 ·exact (jgt (.inl rfl) _ _).2 hy.out.1
 ·exact (jgt (.inr rfl) _ _).2 hy.out.1
 ·exact (jdq _ _).2 fun s hs=>by cases hs
 ·exact (jku _ _).2 (jc6 hy.out.1 hy.out.2.1)
 ·exact (jgu _ _).2 rfl)
 ·(
 rcases hk with rfl | rfl
 ·exact (jdr _ _ _).2 fun p hp=>by cases hp
 ·exact (jgv _ _ _).2 fun p hp=>by cases hp)
 ·exact (jbz _ _ _ _).2 ⟨ih a ha _ (hy.half 0),ih b hb _ (hy.half 1)⟩)
theorem jpb{n:Nat}{t:Tr}(h:isT n t=true)(hn:n<=16):(jqh t = .zero/\t.k≠5)\/∃ a b,t = .mk 5 [a,b]/\jqh t = .mk 0 0 [] [] [jqh a,jqh b]:=by
 have h16:=jkj h hn;obtain⟨m,_,hh⟩:=jq5 h;rcases hh with ⟨k,hk,rfl⟩ | ⟨k,a,hk,rfl,ha⟩ | ⟨a,b,rfl,ha,hb⟩
 ·exact .inl ⟨V4.jx8 (by simp only[Tr.k];omega),by simp only[Tr.k];omega⟩
 ·exact .inl ⟨V4.jx8 (by simp only[Tr.k];omega),by simp only[Tr.k];omega⟩
 ·exact .inr ⟨a,b,rfl,V4.jv5 h16⟩
theorem leV_bot:∀ (n:Nat) (t:Tr),n<=16->isT n t=true->∀ y,Nn y->leV t (jqh t) y:=by
 intro n;induction n with
 | zero=>intro t _ h;simp[isT] at h
 | succ n ih=>(
 intro t hn h y hy;rcases jpb h hn with ⟨e,_⟩ | ⟨a,b,rfl,e⟩
 ·rw[e];exact jtb _ t h y hy
 ·(
 obtain⟨m,hm,h⟩:=jq5 h;obtain rfl:n=m:=by omega
 rcases h with ⟨k,_,e2⟩ | ⟨k,_,_,e2,_⟩ | ⟨a',b',e2,ha,hb⟩
 ·cases e2
 ·cases e2
 ·(
 cases e2
 rw[e];exact (jbz _ _ _ _).2 ⟨ih a (by omega) ha _ (hy.half 0),ih b (by omega) hb _ (hy.half 1)⟩)))
theorem jdt:∀ (n:Nat) (t:Tr),n<=16->isT n t=true->isV t (jqh t)=true:=by
 intro n;induction n with
 | zero=>intro t _ h;simp[isT] at h
 | succ n ih=>(
 intro t hn h;rcases jpb h hn with ⟨e,h5⟩ | ⟨a,b,rfl,e⟩
 ·(
 rw[e];obtain⟨m,hm,h⟩:=jq5 h;rcases h with ⟨k,hk,rfl⟩ | ⟨k,a,hk,rfl,ha⟩ | ⟨a,b,rfl,ha,hb⟩
 ·(
 rcases hk with rfl | rfl | rfl | rfl | rfl
 ·exact (jvc (.inl rfl)).2 ⟨0,rfl,by simp⟩
 ·exact (jvc (.inr rfl)).2 ⟨0,rfl,by simp⟩
 ·exact jjs.2 ⟨[],rfl,by simp,by simp,rfl⟩
 ·exact jwv.2 (.inl rfl)
 ·exact jki.2 (.inl rfl))
 ·(
 rcases hk with rfl | rfl
 ·exact jkh.2 ⟨[],[],rfl,by simp,rfl,by simp,rfl,fun _ h=>by cases h⟩
 ·exact jq4.2 ⟨[],[],rfl,rfl,by simp,by simp,(fun _ h=>by cases h),fun _ h=>by cases h⟩)
 ·exact absurd rfl h5)
 ·(
 obtain⟨m,hm,h⟩:=jq5 h;obtain rfl:n=m:=by omega
 rcases h with ⟨k,_,e2⟩ | ⟨k,_,_,e2,_⟩ | ⟨a',b',e2,ha,hb⟩
 ·cases e2
 ·cases e2
 ·(
 cases e2
 rw[e];exact jj2.2 ⟨_,_,rfl,ih a (by omega) ha,ih b (by omega) hb⟩)))
theorem isV_zero{n:Nat}{t:Tr}(hn:n<=16)(h:isT n t=true)(h5:t.k≠5):isV t .zero=true:=by
 have:=jdt n t hn h;rcases jpb h hn with ⟨e,_⟩ | ⟨a,b,rfl,e⟩
 ·rwa [e] at this
 ·exact absurd rfl h5
theorem jy0{M:Type}{l:List M}{v:List Va}(h:∀ y∈v,Nn y){p:M×Va}(hp:p∈l.zip v):Nn p.2:=h _ (List.of_mem_zip hp).2
theorem jgc{V:Type}{s:List Str}{v:List V}(h:R1.Srt s)(hl:s.length=v.length):Up jxy (s.zip v):=by
 have h1:((s.zip v).map (·.1)).Pairwise (fun x y=>jxy x y<0):=by (
 rw[List.map_fst_zip (by omega)];exact h.imp fun h=>by unfold jxy;rw[if_pos h];decide)
 exact List.pairwise_map.1 h1
theorem jcz{V:Type}{c:List (List Tk)}{v:List V}(h:c.Pairwise ApR)(hl:c.length=v.length):Up jw8 (c.zip v):=by
 have h1:((c.zip v).map (·.1)).Pairwise (fun x y=>jw8 x y<0):=by (
 rw[List.map_fst_zip (by omega)];exact h.imp fun h=>jvf.2 h.1)
 exact List.pairwise_map.1 h1
theorem jrq{M V:Type}{s s':List M}{v v':List V}(hl:s.length=v.length)(hl':s'.length=v'.length)(h:s.zip v=s'.zip v'):s=s'/\v=v':=by
 have h1:=congrArg (List.map (·.1)) h;have h2:=congrArg (List.map (·.2)) h;rw[List.map_fst_zip (by omega),List.map_fst_zip (by omega)] at h1;rw[List.map_snd_zip (by omega),List.map_snd_zip (by omega)] at h2;exact⟨h1,h2⟩
theorem jub{c:List (List Tk)}(h:c.Pairwise ApR){a b:List Tk}(ha:a∈c)(hb:b∈c):jxo a b≠-1:=by
 induction c with
 | nil=>cases ha
 | cons x c ih=>(
 obtain⟨h1,h2⟩:=List.pairwise_cons.1 h;rcases List.mem_cons.1 ha with rfl | ha' <;> rcases List.mem_cons.1 hb with rfl | hb'
 ·exact jd0 _
 ·rw[(h1 b hb').2];decide
 ·(
 have:=(h1 a ha').2;unfold jxo at this ⊢;cases h3:C3.jqj b a <;> cases h4:C3.jqj a b <;> rw[h3,h4] at this <;> simp[C3.cmpB] at this ⊢)
 ·exact ih h2 ha' hb')
theorem ck_ok{x:Va}(h:isV (.mk 7 []) x=true):isC (ckE x)=true/\(ckE x=[]->x = .zero)/\(ckE x≠[]->x = .mk 0 0 [] [ckE x] []):=by
 rcases jki.1 h with rfl | ⟨c,rfl,h1,h2⟩
 ·exact⟨rfl,fun _=>rfl,fun h=>absurd rfl h⟩
 ·exact⟨h1,fun h=>absurd h h2,fun _=>rfl⟩
theorem jbf:∀ (n:Nat) (t:Tr),isT n t=true->∀ x y,isV t x=true->isV t y=true->Nn x->Nn y->leV t x y->leV t y x->x=y:=by
 intro n;induction n with
 | zero=>intro t h;simp[isT] at h
 | succ n ih=>(
 intro t h x y vx vy hx hy h1 h2;obtain⟨m,hm,h⟩:=jq5 h;obtain rfl:n=m:=by omega
 rcases h with ⟨k,hk,rfl⟩ | ⟨k,a,hk,rfl,ha⟩ | ⟨a,b,rfl,ha,hb⟩
 ·(
 have num:∀ {k:Int},k=1\/k=2->isV (.mk k []) x=true->isV (.mk k []) y=true->leV (.mk k []) x y->leV (.mk k []) y x->x=y:=fun hk vx vy h1 h2=>by (
 obtain⟨p,rfl,_⟩:=(jvc hk).1 vx;obtain⟨q,rfl,_⟩:=(jvc hk).1 vy;rw[jgt hk] at h1 h2;simp only[Va.n] at h1 h2;rw[Int.le_antisymm h1 h2])
 rcases hk with rfl | rfl | rfl | rfl | rfl
 ·exact num (.inl rfl) vx vy h1 h2
 ·exact num (.inr rfl) vx vy h1 h2
 ·(
 obtain⟨s,rfl,h3,_⟩:=jjs.1 vx;obtain⟨s',rfl,h4,_⟩:=jjs.1 vy;rw[jdq] at h1 h2;rw[R1.jgd h3 h4 fun z=>⟨h1 z,h2 z⟩])
 ·(
 rw[jku,jkr] at h1 h2;have e:=jyq.le_antisymm h1 h2;have form:∀ {x:Va},isV (.mk 6 []) x=true->x = .mk x.n x.m x.s [] []:=fun {x} h=>by rcases jwv.1 h with rfl | ⟨_,_,_,rfl,_⟩ <;> rfl
 rw[form vx,form vy];unfold keyW at e;obtain⟨e1,e2⟩:=Prod.mk.inj e;obtain⟨e2,e3⟩:=Prod.mk.inj e2;rw[e1,e2,e3])
 ·(
 rw[jgu] at h1 h2;obtain⟨a1,a2,a3⟩:=ck_ok vx;obtain⟨b1,b2,b3⟩:=ck_ok vy;have e:ckE x=ckE y:=jnm a1 b1 fun q=>Int.le_antisymm (jf9 h1 hy.ck q) (jf9 h2 hx.ck q)
 by_cases h0:ckE x=[]
 ·rw[a2 h0,b2 (e▸h0)]
 ·rw[a3 h0,b3 (e▸h0),e]))
 ·(
 rcases hk with rfl | rfl
 ·(
 obtain⟨s,v,rfl,s1,s2,s3,s4,s5⟩:=jkh.1 vx;obtain⟨s',v',rfl,r1,r2,r3,r4,r5⟩:=jkh.1 vy;rw[jdr] at h1 h2;have sub:∀ {s s':List Str} {v v':List Va},R1.Srt s->R1.Srt s'->s.length=v.length->s'.length=v'.length->(∀ y∈v,isV a y=true/\y≠jqh a)->(∀ y∈v',isV a y=true/\y≠jqh a)->(∀ y∈v,Nn y)->(∀ y∈v',Nn y)->mapLe (leV a) (.mk 0 0 s [] v) (.mk 0 0 s' [] v')->mapLe (leV a) (.mk 0 0 s' [] v') (.mk 0 0 s [] v)->∀ p,p∈s.zip v->p∈s'.zip v' :=
   fun {s s' v v'} s1 r1 s2 r2 s5 r5 n1 n2 h1 h2 p hp=>by
     obtain⟨q,hq,e,hl⟩:=h1 p hp
     obtain⟨r,hr,e2,hl2⟩:=h2 q hq
     have:r=p:=jy1 jxh (jgc s1 s2) hr hp (e2.trans e)
     subst this
     have:r.2=q.2:=ih a ha _ _ (s5 _ (List.of_mem_zip hp).2).1 (r5 _ (List.of_mem_zip hq).2).1 (jy0 n1 hp) (jy0 n2 hq) hl hl2
     have:r=q:=Prod.ext e.symm this
     rw[this];exact hq
 have e:=jy2 jxh (jgc s1 s2) (jgc r1 r2) fun p=>⟨sub s1 r1 s2 r2 s5 r5 hx.out.2.2.2 hy.out.2.2.2 h1 h2 p,sub r1 s1 r2 s2 r5 s5 hy.out.2.2.2 hx.out.2.2.2 h2 h1 p⟩
 obtain⟨e1,e2⟩:=jrq s2 r2 e;rw[e1,e2])
 ·(
 obtain⟨s,v,rfl,s2,s3,s1,s4,s5⟩:=jq4.1 vx;obtain⟨s',v',rfl,r2,r3,r1,r4,r5⟩:=jq4.1 vy;rw[jgv] at h1 h2;have sub:∀ {s s':List (List Tk)} {v v':List Va},s.Pairwise ApR->s'.Pairwise ApR->s.length=v.length->s'.length=v'.length->(∀ y∈v,isV a y=true)->(∀ y∈v',isV a y=true)->Nn (.mk 0 0 [] s v)->Nn (.mk 0 0 [] s' v')->jua (leV a) (.mk 0 0 [] s v) (.mk 0 0 [] s' v')->jua (leV a) (.mk 0 0 [] s' v') (.mk 0 0 [] s v)->∀ p,p∈s.zip v->p∈s'.zip v' :=
   fun {s s' v v'} s1 r1 s2 r2 s5 r5 n1 n2 h1 h2 p hp=>by
     rcases h1 p hp with ⟨q,hq,hc⟩ | ⟨q,hq,e,hl⟩
     · rcases h2 q hq with ⟨r,hr,hc2⟩ | ⟨r,hr,e2,_⟩
       · exact absurd (jo9 hc hc2 (n2.out.2.2.1 _ (List.of_mem_zip hq).1) (n1.out.2.2.1 _ (List.of_mem_zip hr).1)) (jub s1 (List.of_mem_zip hp).1 (List.of_mem_zip hr).1)
       · exact absurd (by rw[e2];exact hc) (jub s1 (List.of_mem_zip hp).1 (List.of_mem_zip hr).1)
     · rcases h2 q hq with ⟨r,hr,hc2⟩ | ⟨r,hr,e2,hl2⟩
       · exact absurd (by rw[<- e];exact hc2) (jub s1 (List.of_mem_zip hp).1 (List.of_mem_zip hr).1)
       · have:r=p:=jy1 jg8 (jcz s1 s2) hr hp (e2.trans e)
         subst this
         have:r.2=q.2:=ih a ha _ _ (s5 _ (List.of_mem_zip hp).2) (r5 _ (List.of_mem_zip hq).2) (jy0 n1.out.2.2.2 hp) (jy0 n2.out.2.2.2 hq) hl hl2
         have:r=q:=Prod.ext e.symm this
         rw[this];exact hq
 have e:=jy2 jg8 (jcz s1 s2) (jcz r1 r2) fun p=>⟨sub s1 r1 s2 r2 s5 r5 hx hy h1 h2 p,sub r1 s1 r2 s2 r5 s5 hy hx h2 h1 p⟩
 obtain⟨e1,e2⟩:=jrq s2 r2 e;rw[e1,e2]))
 ·(
 obtain⟨u,v,rfl,s1,s2⟩:=jj2.1 vx;obtain⟨u',v',rfl,r1,r2⟩:=jj2.1 vy;rw[jbz] at h1 h2;have e1:u=u':=ih a ha u u' s1 r1 (hx.half 0) (hy.half 0) h1.1 h2.1;have e2:v=v':=ih b hb v v' s2 r2 (hx.half 1) (hy.half 1) h1.2 h2.2;rw[e1,e2]))
theorem leV_refl:∀ (n:Nat) (t:Tr),isT n t=true->∀ x,isV t x=true->Nn x->leV t x x:=by
 intro n;induction n with
 | zero=>intro t h;simp[isT] at h
 | succ n ih=>(
 intro t h x vx hx;obtain⟨m,hm,h⟩:=jq5 h;obtain rfl:n=m:=by omega
 rcases h with ⟨k,hk,rfl⟩ | ⟨k,a,hk,rfl,ha⟩ | ⟨a,b,rfl,ha,hb⟩
 ·(
 rcases hk with rfl | rfl | rfl | rfl | rfl
 ·exact (jgt (.inl rfl) _ _).2 (Int.le_refl _)
 ·exact (jgt (.inr rfl) _ _).2 (Int.le_refl _)
 ·exact (jdq _ _).2 fun s hs=>hs
 ·exact (jku _ _).2 (by rw[jkr,jyq.refl];decide)
 ·exact (jgu _ _).2 (jt1 (jww (ck_ok vx).1).2.1))
 ·(
 rcases hk with rfl | rfl
 ·(
 obtain⟨s,v,rfl,_,_,_,_,h5⟩:=jkh.1 vx;exact (jdr _ _ _).2 fun p hp=>⟨p,hp,rfl,ih a ha _ (h5 _ (List.of_mem_zip hp).2).1 (jy0 hx.out.2.2.2 hp)⟩)
 ·(
 obtain⟨s,v,rfl,_,_,_,_,h5⟩:=jq4.1 vx;exact (jgv _ _ _).2 fun p hp => .inr ⟨p,hp,rfl,ih a ha _ (h5 _ (List.of_mem_zip hp).2) (jy0 hx.out.2.2.2 hp)⟩))
 ·(
 obtain⟨u,v,rfl,s1,s2⟩:=jj2.1 vx;exact (jbz _ _ _ _).2 ⟨ih a ha u s1 (hx.half 0),ih b hb v s2 (hx.half 1)⟩))
open C3 (Tk isC jww isC_mk Asc ofC jqj jxo jz1 jz3 jz6)
open V4 (Va isV jqh ApR jkj jxx)
structure Lub (t:Tr) (x y z:Va):Prop where
  is:isV t z=true
  nn:Nn z
  left:leV t x z
  right:leV t y z
  least:∀ u,isV t u=true->Nn u->leV t x u->leV t y u->leV t z u
def OkV(t:Tr)(x:Va):Prop:=isV t x=true\/x = .zero
theorem jb3{M V W:Type}{f:V->V->Option W}:∀ {l:List (M×V×V)} {r:List (M×W)},jxf f l=some r->∀ q∈l,∃ w,f q.2.1 q.2.2=some w
  | [],_,_,q,hq=>by cases hq
  | p :: l,r,h,q,hq=>by
    rw[jxf] at h
    cases hf:f p.2.1 p.2.2 with
    | none=>rw[hf] at h;simp at h
    | some v =>
      rw[hf] at h
      cases ha:jxf f l with
      | none=>rw[ha] at h;simp at h
      | some x =>
        rcases List.mem_cons.1 hq with rfl | hq
        · exact⟨v,hf⟩
        · exact jb3 ha q hq
theorem jl7{x y z:Va}(vx:isV (.mk 6 []) x=true)(vy:isV (.mk 6 []) y=true)(hx:Nn x)(hy:Nn y)(h:jzs (.mk 6 []) x y=some z):Lub (.mk 6 []) x y z:=by
 have form:∀ {x:Va},isV (.mk 6 []) x=true->Va.mk x.n x.m x.s [] []=x:=fun {x} h=>by rcases jwv.1 h with rfl | ⟨_,_,_,rfl,_⟩ <;> rfl
 rw[jzs,if_neg (by decide),if_pos rfl] at h;unfold jj7 at h;rw[form vx,form vy] at h;have refl:∀ x,leV (.mk 6 []) x x:=fun x=>(jku _ _).2 (by rw[jkr,jyq.refl];decide)
 split at h
 ·(
 rename_i hl
 obtain rfl:=Option.some.inj h;exact⟨vy,hy,(jku _ _).2 (by omega),refl _,fun u _ _ _ h4=>h4⟩)
 ·(
 rename_i hl
 obtain rfl:=Option.some.inj h;refine⟨vx,hx,refl _,(jku _ _).2 ?_,fun u _ _ h3 _=>h3⟩;rw[jkr] at hl ⊢;rcases Int.lt_or_eq_of_le (show 0<=_ from Int.not_lt.1 hl) with h | h
 ·exact Int.le_of_lt (jyq.gt h)
 ·rw[jyq.eq h.symm,jyq.refl];decide)
end J5
namespace J5
open S2 (Tr isT)
open V4 (Va isV)
section
variable {M V:Type} (c:M->M->Int) (z:V)
theorem jc2{f:V->V->Option V}{l:List (M×V)}(h:∀ p∈l,f p.2 z=some p.2):jxf f (l.map fun p=>(p.1,p.2,z))=some l:=by
 induction l with
 | nil=>rfl
 | cons p l ih=>(
 rw[List.map_cons,jxf,h p (by simp),ih fun p hp=>h p (by simp[hp])];rfl)
end
theorem jph{M V W:Type}{f:V->V->Option W}:∀ {l:List (M×V×V)},(∀ p∈l,∃ v,f p.2.1 p.2.2=some v)->∃ r,jxf f l=some r
  | [],_=>⟨[],rfl⟩
  | p :: l,h=>by
    obtain⟨v,hv⟩:=h p (by simp)
    obtain⟨r,hr⟩:=jph (l:=l) fun q hq=>h q (by simp[hq])
    exact⟨(p.1,v) :: r,by rw[jxf,hv,hr];rfl⟩
theorem set_r(s:List Str)(h:s.length<=40):jzs (.mk 3 []) (.mk 0 0 s [] []) .zero=some (.mk 0 0 s [] []):=by
 rw[jzs,if_pos rfl];unfold setE;exact if_neg (show ¬ 40<s.length by omega)
end J5
namespace J5
open C3 (Tk jxo jz1 jz3 jz6)
open S2 (Tr isT)
open V4 (Va isV jqh ApR)
theorem jtf{n:Nat}{a b:Tr}(h:isT n (.mk 5 [a,b])=true):∃ m,n=m+1/\isT m a=true/\isT m b=true:=by
 obtain⟨m,rfl,h | h | h⟩:=jq5 h
 ·obtain⟨k,_,e⟩:=h;cases e
 ·obtain⟨k,a',_,e,_⟩:=h;cases e
 ·(
 obtain⟨a',b',e,h1,h2⟩:=h;cases e
 exact⟨m,rfl,h1,h2⟩)
theorem jgz:∀ (n:Nat) (t:Tr),n<=16->isT n t=true->∀ x,jzs t x (jqh t)=jzs t x .zero:=by
 intro n;induction n with
 | zero=>intro t _ h;simp[isT] at h
 | succ m ih=>(
 intro t hn h x;rcases jpb h hn with ⟨e,_⟩ | ⟨a,b,rfl,e⟩
 ·rw[e]
 ·(
 obtain⟨m',hm,ha,hb⟩:=jtf h;obtain rfl:m'=m:=by omega
 rw[e,jzs,jzs];show ((jzs a (jq2 x 0) (jqh a)).bind fun u=>(jzs b (jq2 x 1) (jqh b)).map _)=((jzs a (jq2 x 0) .zero).bind fun u=>(jzs b (jq2 x 1) .zero).map _)
 rw[ih a (by omega) ha,ih b (by omega) hb]))
theorem jg0:∀ (n:Nat) (t:Tr),n<=16->isT n t=true->∀ x,jzs t (jqh t) x=jzs t .zero x:=by
 intro n;induction n with
 | zero=>intro t _ h;simp[isT] at h
 | succ m ih=>(
 intro t hn h x;rcases jpb h hn with ⟨e,_⟩ | ⟨a,b,rfl,e⟩
 ·rw[e]
 ·(
 obtain⟨m',hm,ha,hb⟩:=jtf h;obtain rfl:m'=m:=by omega
 rw[e,jzs,jzs];show ((jzs a (jqh a) (jq2 x 0)).bind fun u=>(jzs b (jqh b) (jq2 x 1)).map _)=((jzs a .zero (jq2 x 0)).bind fun u=>(jzs b .zero (jq2 x 1)).map _)
 rw[ih a (by omega) ha,ih b (by omega) hb]))
section
variable {M V:Type} {c:M->M->Int} {z:V}
theorem jca(a:List (M×V)):mix c z a []=a.map fun p=>(p.1,p.2,z):=by
 cases a with
 | nil=>rw[mix];rfl
 | cons x a=>rw[mix]
theorem jcc(b:List (M×V)):mix c z [] b=b.map fun p=>(p.1,z,p.2):=by rw[mix]
theorem jf1{f:V->V->Option V}{l:List (M×V)}(h:∀ p∈l,f z p.2=some p.2):jxf f (l.map fun p=>(p.1,z,p.2))=some l:=by
 induction l with
 | nil=>rfl
 | cons p l ih=>(
 rw[List.map_cons,jxf,h p (by simp),ih fun p hp=>h p (by simp[hp])];rfl)
theorem jcb(hc:Cmp c){a b:List (M×V)}(ha:Up c a)(hb:Up c b)(m:M):(∃ p∈mix c z a b,p.1=m)↔(∃ q∈a,q.1=m)\/∃ q∈b,q.1=m:=by
 constructor
 ·(
 rintro ⟨p,hp,rfl⟩;exact (jmp c z a b hp).2.2)
 ·(
 intro h;by_cases h1:∃ q∈a,q.1=m
 ·(
 obtain⟨q,hq,rfl⟩:=h1;by_cases h2:∃ r∈b,r.1=q.1
 ·(
 obtain⟨r,hr,e⟩:=h2;exact⟨(q.1,q.2,r.2),(jgs hc a b ha hb _).2 (.inl ⟨hq,by rw[<- e];exact hr⟩),rfl⟩)
 ·exact⟨(q.1,q.2,z),(jgs hc a b ha hb _).2 (.inr (.inl ⟨hq,fun r hr e=>h2 ⟨r,hr,e⟩,rfl⟩)),rfl⟩)
 ·(
 rcases h with h | ⟨q,hq,rfl⟩
 ·exact absurd h h1
 ·exact⟨(q.1,z,q.2),(jgs hc a b ha hb _).2 (.inr (.inr ⟨fun r hr e=>h1 ⟨r,hr,e⟩,rfl,hq⟩)),rfl⟩))
end
theorem jl6{V:Type}{z:V}{a b:List (Str×V)}(ha:Up jxy a)(hb:Up jxy b):(mix jxy z a b).map (·.1)=R1.jqv (a.map (·.1)) (b.map (·.1)):=by
 have srt:∀ {W:Type} {l:List (Str×W)},Up jxy l->R1.Srt (l.map (·.1)):=fun {W l} h=>by (
 rw[R1.Srt,List.pairwise_map];exact h.imp fun {p q} hpq=>by (
 unfold jxy at hpq;by_cases h1:p.1<q.1
 ·exact h1
 ·(
 rw[if_neg h1] at hpq;split at hpq <;> omega)))
 refine R1.jgd (srt (mix_up jxh a b ha hb)) (R1.jvr (srt ha)) fun s=>?_
 rw[R1.jjr];constructor
 ·(
 intro h;obtain⟨p,hp,rfl⟩:=List.mem_map.1 h;exact ((jcb jxh ha hb _).1 ⟨p,hp,rfl⟩).imp (fun ⟨q,hq,e⟩=>List.mem_map.2 ⟨q,hq,e⟩) fun ⟨q,hq,e⟩=>List.mem_map.2 ⟨q,hq,e⟩)
 ·(
 intro h;obtain⟨p,hp,e⟩:=(jcb jxh (z:=z) ha hb s).2 (h.imp (fun h=>by obtain⟨q,hq,e⟩:=List.mem_map.1 h;exact⟨q,hq,e⟩) fun h=>by obtain⟨q,hq,e⟩:=List.mem_map.1 h;exact⟨q,hq,e⟩);exact List.mem_map.2 ⟨p,hp,e⟩)
theorem jkv:∀ (n:Nat) (t:Tr),n<=16->isT n t=true->∀ x,isV t x=true->Nn x->jzs t x .zero=some x/\jzs t .zero x=some x:=by
 intro n;induction n with
 | zero=>intro t _ h;simp[isT] at h
 | succ m ih=>(
 intro t hn h x hx nx;obtain⟨m',hm,h1 | h1 | h1⟩:=jq5 h
 ·(
 obtain⟨k,hk,rfl⟩:=h1;rcases hk with rfl | rfl | rfl | rfl | rfl
 ·(
 obtain⟨p,rfl,_⟩:=(jvc (.inl rfl)).1 hx;have:=nx.out.1;have e1:jzs (.mk 1 []) (.mk p 0 [] [] []) .zero=some (.mk (max p 0) 0 [] [] []):=by rw[jzs,if_neg (by decide),if_neg (by decide),if_neg (by decide)];rfl
 have e2:jzs (.mk 1 []) .zero (.mk p 0 [] [] [])=some (.mk (max 0 p) 0 [] [] []):=by rw[jzs,if_neg (by decide),if_neg (by decide),if_neg (by decide)];rfl
 simp only[Va.n] at this;rw[e1,e2,Int.max_eq_left this,Int.max_eq_right this];exact⟨rfl,rfl⟩)
 ·(
 obtain⟨p,rfl,_⟩:=(jvc (.inr rfl)).1 hx;have:=nx.out.1;have e1:jzs (.mk 2 []) (.mk p 0 [] [] []) .zero=some (.mk (max p 0) 0 [] [] []):=by rw[jzs,if_neg (by decide),if_neg (by decide),if_neg (by decide)];rfl
 have e2:jzs (.mk 2 []) .zero (.mk p 0 [] [] [])=some (.mk (max 0 p) 0 [] [] []):=by rw[jzs,if_neg (by decide),if_neg (by decide),if_neg (by decide)];rfl
 simp only[Va.n] at this;rw[e1,e2,Int.max_eq_left this,Int.max_eq_right this];exact⟨rfl,rfl⟩)
 ·(
 obtain⟨s,rfl,h2,h3,_⟩:=jjs.1 hx;refine⟨set_r s h3,?_⟩;have e:R1.jqv [] s=s:=R1.jgd (R1.jvr .nil) h2 fun y=>by rw[R1.jjr];simp
 rw[jzs,if_pos rfl];show (if 40<(R1.jqv [] s).length then none else some (Va.mk 0 0 (R1.jqv [] s) [] []))=_
 rw[e,if_neg (by omega)])
 ·(
 have hl:∀ y,isV (.mk 6 []) y=true->Va.mk y.n y.m y.s [] []=y:=fun y hy=>by rcases jwv.1 hy with rfl | ⟨_,_,_,rfl,_⟩ <;> rfl
 have hz:isV (.mk 6 []) .zero=true:=jwv.2 (.inl rfl);have L1:=jl7 hx hz nx .zero (z:=jj7 x .zero) (by rw[jzs,if_neg (by decide),if_pos rfl]);have L2:=jl7 hz hx .zero nx (z:=jj7 .zero x) (by rw[jzs,if_neg (by decide),if_pos rfl]);have lz:leV (.mk 6 []) .zero x:=jtb _ _ h x nx;have lr:leV (.mk 6 []) x x:=leV_refl _ _ h x hx nx;have e1:jj7 x .zero=x:=jbf _ _ h _ _ L1.is hx L1.nn nx (L1.least x hx nx lr lz) L1.left;have e2:jj7 .zero x=x:=jbf _ _ h _ _ L2.is hx L2.nn nx (L2.least x hx nx lz lr) L2.right;rw[jzs,if_neg (by decide),if_pos rfl,jzs,if_neg (by decide),if_pos rfl,e1,e2];exact⟨rfl,rfl⟩)
 ·(
 rw[jzs,if_neg (by decide),if_neg (by decide),if_pos rfl,jzs,if_neg (by decide),if_neg (by decide),if_pos rfl];rcases jki.1 hx with rfl | ⟨cl,rfl,h2,h3⟩
 ·exact⟨rfl,rfl⟩
 ·(
 have h4:=(C3.jww h2).1;unfold jkn;have e1:(Va.mk 0 0 [] [cl] []).c++Va.zero.c=[cl]:=rfl;have e2:Va.zero.c++(Va.mk 0 0 [] [cl] []).c=[cl]:=rfl;have ef:[cl].foldl jz1 []=cl:=jz3 cl;rw[e1,e2,ef,if_neg h3,if_neg (by omega)];exact⟨rfl,rfl⟩)))
 ·(
 obtain⟨k,a,hk,rfl,ha⟩:=h1;obtain rfl:m'=m:=by omega
 have hin:∀ y∈x.v,isV a y=true->jzs a y .zero=some y/\jzs a .zero y=some y:=fun y hy hv=>ih a (by omega) ha y hv (nx.out.2.2.2 y hy)
 rcases hk with rfl | rfl
 ·(
 obtain⟨s,v,rfl,h2,h3,h4,_,h5⟩:=jkh.1 hx;have hz:(s.zip v).length<=40:=by rw[List.length_zip];omega
 have hp:∀ p∈s.zip v,jzs a p.2 .zero=some p.2/\jzs a .zero p.2=some p.2:=fun p hp=>hin _ (List.of_mem_zip hp).2 (h5 _ (List.of_mem_zip hp).2).1
 rw[jzs,if_pos rfl,jzs,if_pos rfl];unfold jrl;show (jw0 _ (mix jxy .zero (s.zip v) [])).map _=_/\(jw0 _ (mix jxy .zero [] (s.zip v))).map _=_
 rw[jca,jcc];unfold jw0;rw[List.length_map,List.length_map,if_neg (by omega),if_neg (by omega),jc2 .zero fun p h=>(hp p h).1,jf1 fun p h=>(hp p h).2];have e1:(s.zip v).map (·.1)=s:=List.map_fst_zip (by omega);have e2:(s.zip v).map (·.2)=v:=List.map_snd_zip (by omega);simp only[Option.map_some,e1,e2];exact⟨trivial,trivial⟩)
 ·(
 obtain⟨cs,v,rfl,h2,h3,h4,h5,h6⟩:=jq4.1 hx;have hz:(cs.zip v).length<=40:=by rw[List.length_zip];omega
 have hp:∀ p∈cs.zip v,jzs a p.2 .zero=some p.2/\jzs a .zero p.2=some p.2:=fun p hp=>hin _ (List.of_mem_zip hp).2 (h6 _ (List.of_mem_zip hp).2)
 have hs:∀ p∈cs.zip v,jk6 p.1 cs=false:=fun p hp=>by (
 unfold jk6;exact List.any_eq_false.2 fun o ho e=>jub h4 (List.of_mem_zip hp).1 ho (of_decide_eq_true e))
 rw[jzs,if_neg (by decide),jzs,if_neg (by decide)];unfold jwl;show (jw0 _ ((mix jw8 .zero (cs.zip v) []).filter fun p=>!jk6 p.1 (cs++[]))).map _=_/\(jw0 _ ((mix jw8 .zero [] (cs.zip v)).filter fun p=>!jk6 p.1 ([]++cs))).map _=_
 rw[jca,jcc,List.append_nil,List.nil_append];rw[List.filter_eq_self.2 (fun p hp=>by
   obtain⟨q,hq,rfl⟩:=List.mem_map.1 hp
   show (!jk6 q.1 cs)=true
   rw[hs q hq]
   rfl),List.filter_eq_self.2 (fun p hp=>by
   obtain⟨q,hq,rfl⟩:=List.mem_map.1 hp
   show (!jk6 q.1 cs)=true
   rw[hs q hq]
   rfl)]
 unfold jw0;rw[List.length_map,List.length_map,if_neg (by omega),if_neg (by omega),jc2 .zero fun p h=>(hp p h).1,jf1 fun p h=>(hp p h).2];have e1:(cs.zip v).map (·.1)=cs:=List.map_fst_zip (by omega);have e2:(cs.zip v).map (·.2)=v:=List.map_snd_zip (by omega);simp only[Option.map_some,e1,e2];exact⟨trivial,trivial⟩))
 ·(
 obtain⟨a,b,rfl,ha,hb⟩:=h1;obtain rfl:m'=m:=by omega
 obtain⟨u,v,rfl,h2,h3⟩:=jj2.1 hx;have n1:=nx.out.2.2.2 u (show u∈[u,v] by simp);have n2:=nx.out.2.2.2 v (show v∈[u,v] by simp);obtain⟨a1,a2⟩:=ih a (by omega) ha u h2 n1;obtain⟨b1,b2⟩:=ih b (by omega) hb v h3 n2;rw[jzs,jzs];show ((jzs a u .zero).bind fun p=>(jzs b v .zero).map _)=_/\((jzs a .zero u).bind fun p=>(jzs b .zero v).map _)=_
 rw[a1,a2,b1,b2];exact⟨rfl,rfl⟩))
end J5
namespace C3
open Go.RowKit
def RetOT(w:World)(base:Nat)(ys:List Tk)(e:Ending)(w':World):Prop:=∃ v,e = .returned v/\jwa w' base v ys/\Below w.heap.size w w'
theorem jlt{w w':World}{base:Nat}{v:Value}{ys zs:List Tk}(h:jwa w' base v ys)(e:ys=zs)(hb:Below w.heap.size w w'):RetOT w base zs (.returned v) w':=e▸⟨v,rfl,h,hb⟩
theorem jhc{w:World}{base base':Nat}{v:Value}{ys:List Tk}(h:jwa w base v ys)(hb:base'<=base):jwa w base' v ys:=by
 refine⟨h.1,h.2.imp id ?_⟩;rintro ⟨g,cap,cur,rfl,h1,h2⟩;exact⟨g,cap,cur,rfl,leT hb h1,h2⟩
theorem jde(A:Option Addr)(c:Nat)(l:List Tk)(q n:Int)(w:World)(h:In w A c l)(hn:n≠0)(hlen:l.length<=1000):Calls Tryz.prog 97 #[.slice A l.length c,.int .i64 q,.int .u64 n] w (RetOT w w.heap.size (jqw l q n)):=by
 obtain⟨hl,-,-,-⟩:=h;have hnb:(n == 0)=false:=by simp[hn]
 clear hn;go_enter Tryz.func97,Tryz.ntmps97;go_wp2_with fail;go_loopw [7,8,9] (fun ov dv iv wr=>∃ (k:Nat) (d:Bool) (ys:List Tk),k<=l.length/\iv = .int .i64 k/\dv = .bool d/\ys.length<=2*k/\jwa wr w.heap.size ov ys/\Hid (jqw l q n=ys++jj6 d (l.drop k) q n)/\Below w.heap.size w wr) (fun _ _ iv _=>l.length - (intOf iv).toNat)
 case atStart=>exact⟨0,false,[],Nat.zero_le _,rfl,rfl,by simp,jwa.nil _ _,by simp[Hid,jj6],Below.refl _ _⟩
 case round=>(
 obtain⟨k,d,ys,hk,rfl,rfl,hyk,hown,h0,hbw⟩:=hrel;by_cases hlt:k<l.length
 ·(
 obtain⟨b,off,rfl,hb,hc⟩:=hl.get hlt;obtain⟨x,hx⟩:∃ x,l[k]?=some x:=⟨_,List.getElem?_eq_getElem hlt⟩
 obtain⟨x0,x1⟩:=hc k x hx;have HX:=Lh hx;have hc0:=(hbw.cell (p:=⟨b,off+k*2,none⟩) hb).trans x0;have hc1:=(hbw.cell (p:=⟨b,off+k*2+1,none⟩) hb).trans x1;have HC0:=Lh x0;have HC1:=Lh x1;clear hx hc hl x0 x1;obtain⟨xk,xn⟩:=x;dsimp only at hc0 hc1 HC0 HC1
 have hbb:b<wr.heap.size:=ltl hb hbw.size;cases d with
 | true=>(
 have HO:=Lh (hown.below (jzf (wr) (.cells #[.int .i64 xk,.int .u64 xn] 53)));have HBA:Hid (Below w.heap.size w (wr.alloc (.cells #[.int .i64 xk,.int .u64 xn] 53))):=(jzj hbw);clear hown hbw;go_wp2_with (at_builtin;refine jz2 _ rfl (.tmp 59) (.tmp 64) 54 rfl w.heap.size Tryz.underlying54 _ ys rfl HO.out (wr.heap.size+1) (some ⟨wr.heap.size,0,none⟩) 1 1 [⟨xk,xn⟩] rfl rfl (jqg.one (by omega) (by simp) (by simp)) (jox (by omega)) HBA.out.size ?_;intro v2 w2 hown3 hg3 _;have hbw5:Below w.heap.size w w2:=HBA.out.grown hg3 HBA.out.size (fun k hk=>(World.ownsRow.lt HO.out k hk).1);clear hg3)
 go_roundw
 case rel=>exact⟨k+1,true,ys++[⟨xk,xn⟩],by omega,by go_num,rfl,by simp;omega,hown3,jfd h0.out HX.out,hbw5⟩
 case measure=>simp[intOf];omega)
 | false=>(
 by_cases c1:xk<q
 ·(
 have HO:=Lh (hown.below (jzf (wr) (.cells #[.int .i64 xk,.int .u64 xn] 53)));have HBA:Hid (Below w.heap.size w (wr.alloc (.cells #[.int .i64 xk,.int .u64 xn] 53))):=(jzj hbw);have HC:=Lh c1;have d1:decide (q<=xk)=false:=decide_eq_false (by omega);clear hown hbw c1;go_wp2_with (at_builtin;refine jz2 _ rfl (.tmp 59) (.tmp 64) 54 rfl w.heap.size Tryz.underlying54 _ ys rfl HO.out (wr.heap.size+1) (some ⟨wr.heap.size,0,none⟩) 1 1 [⟨xk,xn⟩] rfl rfl (jqg.one (by omega) (by simp) (by simp)) (jox (by omega)) HBA.out.size ?_;intro v2 w2 hown3 hg3 _;have hbw5:Below w.heap.size w w2:=HBA.out.grown hg3 HBA.out.size (fun k hk=>(World.ownsRow.lt HO.out k hk).1);clear hg3)
 go_roundw
 case rel=>exact⟨k+1,false,ys++[⟨xk,xn⟩],by omega,by go_num,rfl,by simp;omega,hown3,jlv h0.out HX.out HC.out,hbw5⟩
 case measure=>simp[intOf];omega)
 ·(
 by_cases c2:xk=q
 ·(
 subst c2;have HO:=Lh ((hown.below (jzf (wr) (.cells #[.int .i64 xk,.int .u64 (max n xn)] 53))).below (jzf (wr.alloc (.cells #[.int .i64 xk,.int .u64 (max n xn)] 53)) (.cells #[.int .i64 xk,.int .u64 (max n xn)] 53)));have HBA:Hid (Below w.heap.size w ((wr.alloc (.cells #[.int .i64 xk,.int .u64 (max n xn)] 53)).alloc (.cells #[.int .i64 xk,.int .u64 (max n xn)] 53))):=(jzj (jzj hbw));clear c1 hown hbw;go_wp2_with (at_builtin;refine jz2 _ rfl (.tmp 48) (.tmp 50) 54 rfl w.heap.size Tryz.underlying54 _ ys rfl HO.out (wr.heap.size+1+1) (some ⟨wr.heap.size+1,0,none⟩) 1 1 [⟨xk,max n xn⟩] rfl rfl (jqg.one (by omega) (by simp) (by simp)) (jox (by omega)) HBA.out.size ?_;intro v2 w2 hown3 hg3 _;have hbw5:Below w.heap.size w w2:=HBA.out.grown hg3 HBA.out.size (fun k hk=>(World.ownsRow.lt HO.out k hk).1);clear hg3;have hd0:=(hbw5.cell (p:=⟨b,off+k*2,none⟩) hb).trans HC0.out)
 go_roundw
 case rel=>exact⟨k+1,true,ys++[Tk.mk xk (max n xn)],by omega,by go_num,rfl,by simp;omega,hown3,jlx h0.out HX.out rfl,hbw5⟩
 case measure=>simp[intOf];omega)
 ·(
 have c3:q<=xk:=by omega
 have HC:Hid (q<xk):=by show q<xk;omega
 have c2':(xk == q)=false:=by simp[c2]
 have HO:=Lh ((hown.below (jzf (wr) (.cells #[.int .i64 q,.int .u64 n] 53))).below (jzf (wr.alloc (.cells #[.int .i64 q,.int .u64 n] 53)) (.cells #[.int .i64 q,.int .u64 n] 53)));have HBA:Hid (Below w.heap.size w ((wr.alloc (.cells #[.int .i64 q,.int .u64 n] 53)).alloc (.cells #[.int .i64 q,.int .u64 n] 53))):=(jzj (jzj hbw));clear c1 c2 hown hbw;go_wp2_with (first | (at_builtin;refine jz2 _ rfl (.tmp 48) (.tmp 50) 54 rfl w.heap.size Tryz.underlying54 _ ys rfl HO.out (wr.heap.size+1+1) (some ⟨wr.heap.size+1,0,none⟩) 1 1 [⟨q,n⟩] rfl rfl (jqg.one (by omega) (by simp) (by simp)) (jox (by omega)) HBA.out.size ?_;intro v2 w2 hown3 hg3 _;have hbw5:Below w.heap.size w w2:=HBA.out.grown hg3 HBA.out.size (fun k hk=>(World.ownsRow.lt HO.out k hk).1);clear hg3;have hd0:=(hbw5.cell (p:=⟨b,off+k*2,none⟩) hb).trans HC0.out;have hd1:=(hbw5.cell (p:=⟨b,off+k*2+1,none⟩) hb).trans HC1.out;have hb2:b<w2.heap.size:=ltl hb hbw5.size;have HO2:=Lh (hown3.below (jzf w2 (.cells #[.int .i64 xk,.int .u64 xn] 53)));have HB2:Hid (Below w.heap.size w (w2.alloc (.cells #[.int .i64 xk,.int .u64 xn] 53))):=jzj hbw5) | (at_builtin;refine jz2 _ rfl (.tmp 59) (.tmp 64) 54 rfl w.heap.size Tryz.underlying54 v2 (ys++[⟨q,n⟩]) rfl HO2.out (w2.heap.size+1) (some ⟨w2.heap.size,0,none⟩) 1 1 [⟨xk,xn⟩] rfl rfl (jqg.one (by omega) (by simp) (by simp)) (jox (jta (by omega))) HB2.out.size ?_;intro v3 w3 hown6 hg3 _;have hbw8:Below w.heap.size w w3:=HB2.out.grown hg3 HB2.out.size (fun k hk=>(World.ownsRow.lt HO2.out k hk).1);clear hg3))
 go_roundw
 case rel=>exact⟨k+1,true,(ys++[Tk.mk q n])++[Tk.mk xk xn],by omega,by go_num,rfl,by simp;omega,hown6,jlw h0.out HX.out HC.out,hbw8⟩
 case measure=>simp[intOf];omega))))
 ·(
 cases d with
 | true=>(
 go_wp2_with fail;go_ret;refine jlt hown ?_ hbw;rw[h0.out,List.drop_eq_nil_of_le (by omega)];simp[jj6])
 | false=>(
 have HO:=Lh (hown.below (jzf wr (.cells #[.int .i64 q,.int .u64 n] 53)));have HBA:Hid (Below w.heap.size w (wr.alloc (.cells #[.int .i64 q,.int .u64 n] 53))):=jzj hbw;clear hown hbw;go_wp2_with (
 at_builtin
 refine jz2 _ rfl (.tmp 68) (.tmp 72) 54 rfl w.heap.size Tryz.underlying54 _ ys rfl HO.out _ (some ⟨wr.heap.size,0,none⟩) 1 1 [⟨q,n⟩] rfl rfl jqg.new ?ql ?qs ?_;case ql=>(simp only[List.length_cons,List.length_nil];omega)
 case qs=>exact HBA.out.size
 intro v2 w2 hown3 hg3 _;have hbw5:Below w.heap.size w w2:=HBA.out.grown hg3 HBA.out.size (fun k hk=>(World.ownsRow.lt HO.out k hk).1))
 go_ret;refine jlt hown3 ?_ hbw5;rw[h0.out,List.drop_eq_nil_of_le (by omega)];simp[jj6,jqw])))
theorem jdh(A A':Option Addr)(c c':Nat)(l l':List Tk)(w:World)(h:In w A c l)(h':In w A' c' l')(hn:∀ y∈l',y.n≠0)(hlen:l.length<=100)(hlen':l'.length<=100):Calls Tryz.prog 52 #[.slice A l.length c,.slice A' l'.length c'] w (RetOT w w.heap.size (jx2 l l')):=by
 obtain⟨hl,-,-,hnok⟩:=h;obtain⟨hl',-,-,hnok'⟩:=h';have HNZ:Hid (∀ y∈l',y.n≠0/\0<=y.n/\y.n<=18446744073709551615):=fun y hy=>⟨hn y hy,hnok' y hy⟩
 have HNK:=Lh hnok;clear hn hnok hnok';go_enter Tryz.func52,Tryz.ntmps52;go_wp2_with (at_builtin;refine jz2 _ rfl (.const (.slice none 0 0)) (.tmp 7) 54 rfl w.heap.size Tryz.underlying54 (.slice none 0 0) [] rfl (jwa.nil _ _) _ A l.length c l rfl rfl hl (by simp;omega) (Nat.le_refl _) ?_;intro v2 w2 hown3 hg3 _;have hbw5:Below w.heap.size w w2:=(Below.refl _ w).grown hg3 (Nat.le_refl _) (fun k hk=>by cases hk);clear hg3;obtain⟨A2,c2,rfl,-⟩:=jwa.form hown3 HNK.out)
 simp only[List.nil_append] at hown3 ⊢;go_loopw [5,6] (fun ov iv wr=>∃ (k:Nat) (A2:Option Addr) (c2:Nat) (ys:List Tk),k<=l'.length/\iv = .int .i64 k/\ov = .slice A2 ys.length c2/\jwa wr w.heap.size (.slice A2 ys.length c2) ys/\Nok ys/\ys.length<=l.length+k/\Hid (ys=jx2 l (l'.take k))/\Below w.heap.size w wr) (fun _ iv _=>l'.length - (intOf iv).toNat)
 case atStart=>exact⟨0,A2,c2,l,Nat.zero_le _,rfl,rfl,hown3,HNK.out,by omega,by simp[Hid,jx2],hbw5⟩
 case round=>(
 obtain⟨k,A3,c3,ys,hk,rfl,rfl,hown4,hnk,hyk,h0,hbw⟩:=hrel;clear hown3 hbw5;by_cases hlt:k<l'.length
 ·(
 obtain⟨b,off,rfl,hb,hc⟩:=(hl'.below hbw).get hlt;obtain⟨y,hy⟩:∃ y,l'[k]?=some y:=⟨_,List.getElem?_eq_getElem hlt⟩
 obtain⟨hc0,hc1⟩:=hc k y hy;have HY:=Lh hy;have HN3:=Lh (HNZ.out y (List.mem_of_getElem? hy));clear hy hc hl';obtain⟨yk,yn⟩:=y;dsimp only at hc0 hc1 HN3
 have hki:(k:Int)<(l'.length:Int):=by omega
 have HI3:Hid (In wr A3 c3 ys):=by obtain⟨A5,c5,e5,h5⟩:=hown4.form hnk;cases e5;exact h5
 have HNY:=Lh hnk;have HBW:=Lh hbw;clear hown4 hnk hbw;go_wp2_with fail;go_still_tail 11,(by kernel_rfl)
 change wpList _ _ _ _ _ wr.drew;go_wp2_with fail;refine (jde A3 c3 ys yk yn _ (HI3.out.later (jqo wr)) HN3.out.1 (by omega)).mono ?_;rintro e w4 ⟨v4,rfl,hown5,hb4⟩;have hnk4:Nok (jqw ys yk yn):=jui HNY.out HN3.out.2;obtain⟨A4,c4,rfl,-⟩:=hown5.form hnk4;have HO5:Hid (jwa w4 w.heap.size (.slice A4 (jqw ys yk yn).length c4) (jqw ys yk yn)):=jhc hown5 HBW.out.size;have hbw4:Below w.heap.size w w4:=(HBW.out.drew).trans (hb4.mono HBW.out.size);go_wp2_with fail;go_roundw
 case rel=>exact⟨k+1,A4,c4,jqw ys yk yn,by omega,by go_num,rfl,HO5.out,hnk4,by have:=jvn yk yn ys;omega,jfq h0.out HY.out,hbw4⟩
 case measure=>simp[intOf];omega)
 ·(
 go_wp2_with fail;go_ret;have e:=jci h0.out (by omega);subst e;exact⟨_,rfl,hown4,hbw⟩))
end C3
namespace V4
open Go.RowKit
open C3 (Tk isC jzj)
theorem eq_all{l l':List Str}{i:Nat}(h0:l.take i=l'.take i)(hi:l.length<=i)(hi':l'.length<=i):decide (l=l')=true:=by
 rw[List.take_of_length_le hi,List.take_of_length_le hi'] at h0;exact decide_eq_true h0
theorem ne_at{l l':List Str}{i:Nat}{x x':Str}(hx:l[i]?=some x)(hx':l'[i]?=some x')(h:x≠x'):decide (l=l')=false:=decide_eq_false fun e=>h (by rw[e,hx'] at hx;cases hx;rfl)
theorem ne_len{l l':List Str}(h:l.length≠l'.length):decide (l=l')=false:=decide_eq_false fun e=>h (by rw[e])
theorem jy3{l l':List Str}{i:Nat}{x:Str}(h0:l.take i=l'.take i)(hx:l[i]?=some x)(hx':l'[i]?=some x):l.take (i+1)=l'.take (i+1):=by
 obtain⟨h1,e1⟩:=List.getElem?_eq_some_iff.1 hx;obtain⟨h2,e2⟩:=List.getElem?_eq_some_iff.1 hx';rw[List.take_succ_eq_append_getElem h1,List.take_succ_eq_append_getElem h2,h0,e1,e2]
open Go.RowKit Go.Shelf
open S2 (jzf)
open S2 (Sc isT jzf)
theorem jv9(s:Sc)(v:Vl)(w:World)(hs:s.In w.heap.size w)(hv:v.In w):Calls Tryz.prog 20 #[s.val,v.val] w (jqd w (.bool (isT 16 s.er && isV s.er v.er))):=by
 have:=Is_walk s v w hs hv;cases h:isT 16 s.er with
 | false=>rw[h] at this;exact this
 | true=>rw[h,juz v s 16 (Nat.le_refl _) h] at this;exact this
end V4
end Go.Proofs.YtobggoephhjofaaGreatDoor
