/- A part. No condition. -/
import Derived.Test.YtobggoephhjofaaGreatDoorMk15
set_option maxRecDepth 100000
set_option maxHeartbeats 16000000
namespace Go.Proofs.YtobggoephhjofaaGreatDoor
namespace J5
open C3 (Tk isC jw6 Asc ofC jqk jxt)
open S2 (Tr isT)
open V4 (Va isV jqv ApR jwr)
def ckE(x:Va):List Tk:=x.c.headD []
def mapLe(f:Va->Va->Prop)(x y:Va):Prop:=∀ p∈x.s.zip x.v,∃ q∈y.s.zip y.v,q.1=p.1/\f p.2 q.2
def jue(f:Va->Va->Prop)(x y:Va):Prop:=∀ p∈x.c.zip x.v,(∃ q∈y.c.zip y.v,jxt p.1 q.1 = -1)\/∃ q∈y.c.zip y.v,q.1=p.1/\f p.2 q.2
def leV:Tr->Va->Va->Prop
  | .mk k [],x,y=>if k=3 then ∀ s∈x.s,s∈y.s else if k=6 then jxc x y<=0 else if k=7 then jqk (ckE x) (ckE y)=true else x.n<=y.n
  | .mk k [a],x,y=>if k=4 then mapLe (leV a) x y else jue (leV a) x y
  | .mk _ [a,b],x,y=>leV a (jq7 x 0) (jq7 y 0)/\leV b (jq7 x 1) (jq7 y 1)
  | .mk _ (_ :: _ :: _ :: _),_,_=>False
inductive Nn:Va->Prop
  | mk (n m:Int) (s:List Str) (c:List (List Tk)) (v:List Va):0<=n->0<=m->(∀ k∈c,NnC k)->(∀ y∈v,Nn y)->Nn (.mk n m s c v)
theorem Nn.out{x:Va}(h:Nn x):0<=x.n/\0<=x.m/\(∀ k∈x.c,NnC k)/\∀ y∈x.v,Nn y:=by
 cases h with | mk n m s c v h1 h2 h3 h4=>exact⟨h1,h2,h3,h4⟩
theorem Nn.zero:Nn .zero := .mk _ _ _ _ _ (by decide) (by decide) (fun _ h=>by cases h) (fun _ h=>by cases h)
theorem Nn.half{x:Va}(h:Nn x)(i:Nat):Nn (jq7 x i):=by
 unfold jq7;cases e:x.v[i]? with
 | none=>exact .zero
 | some y=>exact h.out.2.2.2 y (List.mem_of_getElem? e)
theorem Nn.ck{x:Va}(h:Nn x):NnC (ckE x):=by
 unfold ckE;cases e:x.c with
 | nil=>intro t ht;cases ht
 | cons k l=>exact h.out.2.2.1 k (by rw[e];simp)
theorem jgx{k:Int}(hk:k=1\/k=2)(x y:Va):leV (.mk k []) x y↔x.n<=y.n:=by rw[leV,if_neg (by omega),if_neg (by omega),if_neg (by omega)]
theorem jd0(x y:Va):leV (.mk 3 []) x y↔∀ s∈x.s,s∈y.s:=by rw[leV,if_pos rfl]
theorem jk3(x y:Va):leV (.mk 6 []) x y↔jxc x y<=0:=by rw[leV,if_neg (by decide),if_pos rfl]
theorem jgy(x y:Va):leV (.mk 7 []) x y↔jqk (ckE x) (ckE y)=true:=by rw[leV,if_neg (by decide),if_neg (by decide),if_pos rfl]
theorem jd1(a:Tr)(x y:Va):leV (.mk 4 [a]) x y↔mapLe (leV a) x y:=by rw[leV,if_pos rfl]
theorem jgz(a:Tr)(x y:Va):leV (.mk 8 [a]) x y↔jue (leV a) x y:=by rw[leV,if_neg (by decide)]
theorem jb2(a b:Tr)(x y:Va):leV (.mk 5 [a,b]) x y↔leV a (jq7 x 0) (jq7 y 0)/\leV b (jq7 x 1) (jq7 y 1):=by rw[leV]
theorem jth:∀ (n:Nat) (t:Tr),isT n t=true->∀ y,Nn y->leV t .zero y:=by
 intro n;induction n with
 | zero=>intro t h;simp[isT] at h
 | succ n ih=>(
 intro t h y hy;obtain⟨m,hm,h⟩:=jq2 h;obtain rfl:n=m:=by omega
 rcases h with ⟨k,hk,rfl⟩ | ⟨k,a,hk,rfl,ha⟩ | ⟨a,b,rfl,ha,hb⟩
 ·(
 rcases hk with rfl | rfl | rfl | rfl | rfl
 ·exact (jgx (.inl rfl) _ _).2 hy.out.1
 ·exact (jgx (.inr rfl) _ _).2 hy.out.1
 ·exact (jd0 _ _).2 fun s hs=>by cases hs
 ·exact (jk3 _ _).2 (jdg hy.out.1 hy.out.2.1)
 ·exact (jgy _ _).2 rfl)
 ·(
 rcases hk with rfl | rfl
 ·exact (jd1 _ _ _).2 fun p hp=>by cases hp
 ·exact (jgz _ _ _).2 fun p hp=>by cases hp)
 ·exact (jb2 _ _ _ _).2 ⟨ih a ha _ (hy.half 0),ih b hb _ (hy.half 1)⟩)
theorem jpc{n:Nat}{t:Tr}(h:isT n t=true)(hn:n<=16):(jqv t = .zero/\t.k≠5)\/∃ a b,t = .mk 5 [a,b]/\jqv t = .mk 0 0 [] [] [jqv a,jqv b]:=by
 have qB:=jwr h hn;obtain⟨m,_,hh⟩:=jq2 h;rcases hh with ⟨k,hk,rfl⟩ | ⟨k,a,hk,rfl,ha⟩ | ⟨a,b,rfl,ha,hb⟩
 ·exact .inl ⟨V4.jyd (by simp only[Tr.k];omega),by simp only[Tr.k];omega⟩
 ·exact .inl ⟨V4.jyd (by simp only[Tr.k];omega),by simp only[Tr.k];omega⟩
 ·exact .inr ⟨a,b,rfl,V4.jpb qB⟩
theorem leV_bot:∀ (n:Nat) (t:Tr),n<=16->isT n t=true->∀ y,Nn y->leV t (jqv t) y:=by
 intro n;induction n with
 | zero=>intro t _ h;simp[isT] at h
 | succ n ih=>(
 intro t hn h y hy;rcases jpc h hn with ⟨e,_⟩ | ⟨a,b,rfl,e⟩
 ·rw[e];exact jth _ t h y hy
 ·(
 obtain⟨m,hm,h⟩:=jq2 h;obtain rfl:n=m:=by omega
 rcases h with ⟨k,_,e2⟩ | ⟨k,_,_,e2,_⟩ | ⟨a',b',e2,ha,hb⟩
 ·cases e2
 ·cases e2
 ·(
 cases e2
 rw[e];exact (jb2 _ _ _ _).2 ⟨ih a (by omega) ha _ (hy.half 0),ih b (by omega) hb _ (hy.half 1)⟩)))
theorem jd3:∀ (n:Nat) (t:Tr),n<=16->isT n t=true->isV t (jqv t)=true:=by
 intro n;induction n with
 | zero=>intro t _ h;simp[isT] at h
 | succ n ih=>(
 intro t hn h;rcases jpc h hn with ⟨e,h5⟩ | ⟨a,b,rfl,e⟩
 ·(
 rw[e];obtain⟨m,hm,h⟩:=jq2 h;rcases h with ⟨k,hk,rfl⟩ | ⟨k,a,hk,rfl,ha⟩ | ⟨a,b,rfl,ha,hb⟩
 ·(
 rcases hk with rfl | rfl | rfl | rfl | rfl
 ·exact (jyy (.inl rfl)).2 ⟨0,rfl,by simp⟩
 ·exact (jyy (.inr rfl)).2 ⟨0,rfl,by simp⟩
 ·exact jj0.2 ⟨[],rfl,by simp,by simp,rfl⟩
 ·exact jw5.2 (.inl rfl)
 ·exact jjg.2 (.inl rfl))
 ·(
 rcases hk with rfl | rfl
 ·exact jwh.2 ⟨[],[],rfl,by simp,rfl,by simp,rfl,fun _ h=>by cases h⟩
 ·exact jq1.2 ⟨[],[],rfl,rfl,by simp,by simp,(fun _ h=>by cases h),fun _ h=>by cases h⟩)
 ·exact absurd rfl h5)
 ·(
 obtain⟨m,hm,h⟩:=jq2 h;obtain rfl:n=m:=by omega
 rcases h with ⟨k,_,e2⟩ | ⟨k,_,_,e2,_⟩ | ⟨a',b',e2,ha,hb⟩
 ·cases e2
 ·cases e2
 ·(
 cases e2
 rw[e];exact jje.2 ⟨_,_,rfl,ih a (by omega) ha,ih b (by omega) hb⟩)))
theorem isV_zero{n:Nat}{t:Tr}(hn:n<=16)(h:isT n t=true)(h5:t.k≠5):isV t .zero=true:=by
 have:=jd3 n t hn h;rcases jpc h hn with ⟨e,_⟩ | ⟨a,b,rfl,e⟩
 ·rwa [e] at this
 ·exact absurd rfl h5
theorem jy7{M:Type}{l:List M}{v:List Va}(h:∀ y∈v,Nn y){p:M×Va}(hp:p∈l.zip v):Nn p.2:=h _ (List.of_mem_zip hp).2
theorem jgh{V:Type}{s:List Str}{v:List V}(h:R1.Srt s)(hl:s.length=v.length):Up jx1 (s.zip v):=by
 have h1:((s.zip v).map (·.1)).Pairwise (fun x y=>jx1 x y<0):=by (rw[List.map_fst_zip (by omega)];exact h.imp fun h=>by unfold jx1;rw[if_pos h];decide)
 exact List.pairwise_map.1 h1
theorem jc5{V:Type}{c:List (List Tk)}{v:List V}(h:c.Pairwise ApR)(hl:c.length=v.length):Up jkv (c.zip v):=by
 have h1:((c.zip v).map (·.1)).Pairwise (fun x y=>jkv x y<0):=by (rw[List.map_fst_zip (by omega)];exact h.imp fun h=>jvn.2 h.1)
 exact List.pairwise_map.1 h1
theorem jr1{M V:Type}{s s':List M}{v v':List V}(hl:s.length=v.length)(cR:s'.length=v'.length)(h:s.zip v=s'.zip v'):s=s'/\v=v':=by
 have h1:=congrArg (List.map (·.1)) h;have h2:=congrArg (List.map (·.2)) h;rw[List.map_fst_zip (by omega),List.map_fst_zip (by omega)] at h1;rw[List.map_snd_zip (by omega),List.map_snd_zip (by omega)] at h2;exact⟨h1,h2⟩
theorem juf{c:List (List Tk)}(h:c.Pairwise ApR){a b:List Tk}(ha:a∈c)(hb:b∈c):jxt a b≠-1:=by
 induction c with
 | nil=>cases ha
 | cons x c ih=>(
 obtain⟨h1,h2⟩:=List.pairwise_cons.1 h;rcases List.mem_cons.1 ha with rfl | sI <;> rcases List.mem_cons.1 hb with rfl | ct
 ·exact jlc _
 ·rw[(h1 b ct).2];decide
 ·(have:=(h1 a sI).2;unfold jxt at this ⊢;cases h3:C3.jqk b a <;> cases h4:C3.jqk a b <;> rw[h3,h4] at this <;> simp[C3.cmpB] at this ⊢)
 ·exact ih h2 sI ct)
theorem ck_ok{x:Va}(h:isV (.mk 7 []) x=true):isC (ckE x)=true/\(ckE x=[]->x = .zero)/\(ckE x≠[]->x = .mk 0 0 [] [ckE x] []):=by
 rcases jjg.1 h with rfl | ⟨c,rfl,h1,h2⟩
 ·exact⟨rfl,fun _=>rfl,fun h=>absurd rfl h⟩
 ·exact⟨h1,fun h=>absurd h h2,fun _=>rfl⟩
theorem jbi:∀ (n:Nat) (t:Tr),isT n t=true->∀ x y,isV t x=true->isV t y=true->Nn x->Nn y->leV t x y->leV t y x->x=y:=by
 intro n;induction n with
 | zero=>intro t h;simp[isT] at h
 | succ n ih=>(
 intro t h x y vx vy hx hy h1 h2;obtain⟨m,hm,h⟩:=jq2 h;obtain rfl:n=m:=by omega
 rcases h with ⟨k,hk,rfl⟩ | ⟨k,a,hk,rfl,ha⟩ | ⟨a,b,rfl,ha,hb⟩
 ·(
 have num:∀ {k:Int},k=1\/k=2->isV (.mk k []) x=true->isV (.mk k []) y=true->leV (.mk k []) x y->leV (.mk k []) y x->x=y:=fun hk vx vy h1 h2=>by (obtain⟨p,rfl,_⟩:=(jyy hk).1 vx;obtain⟨q,rfl,_⟩:=(jyy hk).1 vy;rw[jgx hk] at h1 h2;simp only[Va.n] at h1 h2;rw[Int.le_antisymm h1 h2])
 rcases hk with rfl | rfl | rfl | rfl | rfl
 ·exact num (.inl rfl) vx vy h1 h2
 ·exact num (.inr rfl) vx vy h1 h2
 ·(obtain⟨s,rfl,h3,_⟩:=jj0.1 vx;obtain⟨s',rfl,h4,_⟩:=jj0.1 vy;rw[jd0] at h1 h2;rw[R1.jyl h3 h4 fun z=>⟨h1 z,h2 z⟩])
 ·(
 rw[jk3,jxp] at h1 h2;have e:=jwg.le_antisymm h1 h2;have form:∀ {x:Va},isV (.mk 6 []) x=true->x = .mk x.n x.m x.s [] []:=fun {x} h=>by rcases jw5.1 h with rfl | ⟨_,_,_,rfl,_⟩ <;> rfl
 rw[form vx,form vy];unfold keyW at e;obtain⟨e1,e2⟩:=Prod.mk.inj e;obtain⟨e2,e3⟩:=Prod.mk.inj e2;rw[e1,e2,e3])
 ·(
 rw[jgy] at h1 h2;obtain⟨a1,a2,a3⟩:=ck_ok vx;obtain⟨b1,b2,b3⟩:=ck_ok vy;have e:ckE x=ckE y:=jn1 a1 b1 fun q=>Int.le_antisymm (jmd h1 hy.ck q) (jmd h2 hx.ck q)
 by_cases h0:ckE x=[]
 ·rw[a2 h0,b2 (e▸h0)]
 ·rw[a3 h0,b3 (e▸h0),e]))
 ·(
 rcases hk with rfl | rfl
 ·(
 obtain⟨s,v,rfl,s1,s2,s3,s4,s5⟩:=jwh.1 vx;obtain⟨s',v',rfl,r1,r2,r3,r4,r5⟩:=jwh.1 vy;rw[jd1] at h1 h2;have sub:∀ {s s':List Str} {v v':List Va},R1.Srt s->R1.Srt s'->s.length=v.length->s'.length=v'.length->(∀ y∈v,isV a y=true/\y≠jqv a)->(∀ y∈v',isV a y=true/\y≠jqv a)->(∀ y∈v,Nn y)->(∀ y∈v',Nn y)->mapLe (leV a) (.mk 0 0 s [] v) (.mk 0 0 s' [] v')->mapLe (leV a) (.mk 0 0 s' [] v') (.mk 0 0 s [] v)->∀ p,p∈s.zip v->p∈s'.zip v' :=
   fun {s s' v v'} s1 r1 s2 r2 s5 r5 n1 n2 h1 h2 p hp=>by
     obtain⟨q,hq,e,hl⟩:=h1 p hp
     obtain⟨r,hr,e2,qf⟩:=h2 q hq
     have:r=p:=jy8 jxe (jgh s1 s2) hr hp (e2.trans e)
     subst this
     have:r.2=q.2:=ih a ha _ _ (s5 _ (List.of_mem_zip hp).2).1 (r5 _ (List.of_mem_zip hq).2).1 (jy7 n1 hp) (jy7 n2 hq) hl qf
     have:r=q:=Prod.ext e.symm this
     rw[this];exact hq
 have e:=jy9 jxe (jgh s1 s2) (jgh r1 r2) fun p=>⟨sub s1 r1 s2 r2 s5 r5 hx.out.2.2.2 hy.out.2.2.2 h1 h2 p,sub r1 s1 r2 s2 r5 s5 hy.out.2.2.2 hx.out.2.2.2 h2 h1 p⟩
 obtain⟨e1,e2⟩:=jr1 s2 r2 e;rw[e1,e2])
 ·(
 obtain⟨s,v,rfl,s2,s3,s1,s4,s5⟩:=jq1.1 vx;obtain⟨s',v',rfl,r2,r3,r1,r4,r5⟩:=jq1.1 vy;rw[jgz] at h1 h2;have sub:∀ {s s':List (List Tk)} {v v':List Va},s.Pairwise ApR->s'.Pairwise ApR->s.length=v.length->s'.length=v'.length->(∀ y∈v,isV a y=true)->(∀ y∈v',isV a y=true)->Nn (.mk 0 0 [] s v)->Nn (.mk 0 0 [] s' v')->jue (leV a) (.mk 0 0 [] s v) (.mk 0 0 [] s' v')->jue (leV a) (.mk 0 0 [] s' v') (.mk 0 0 [] s v)->∀ p,p∈s.zip v->p∈s'.zip v' :=
   fun {s s' v v'} s1 r1 s2 r2 s5 r5 n1 n2 h1 h2 p hp=>by
     rcases h1 p hp with ⟨q,hq,hc⟩ | ⟨q,hq,e,hl⟩
     · rcases h2 q hq with ⟨r,hr,gq⟩ | ⟨r,hr,e2,_⟩
       · exact absurd (jrl hc gq (n2.out.2.2.1 _ (List.of_mem_zip hq).1) (n1.out.2.2.1 _ (List.of_mem_zip hr).1)) (juf s1 (List.of_mem_zip hp).1 (List.of_mem_zip hr).1)
       · exact absurd (by rw[e2];exact hc) (juf s1 (List.of_mem_zip hp).1 (List.of_mem_zip hr).1)
     · rcases h2 q hq with ⟨r,hr,gq⟩ | ⟨r,hr,e2,qf⟩
       · exact absurd (by rw[<- e];exact gq) (juf s1 (List.of_mem_zip hp).1 (List.of_mem_zip hr).1)
       · have:r=p:=jy8 jy4 (jc5 s1 s2) hr hp (e2.trans e)
         subst this
         have:r.2=q.2:=ih a ha _ _ (s5 _ (List.of_mem_zip hp).2) (r5 _ (List.of_mem_zip hq).2) (jy7 n1.out.2.2.2 hp) (jy7 n2.out.2.2.2 hq) hl qf
         have:r=q:=Prod.ext e.symm this
         rw[this];exact hq
 have e:=jy9 jy4 (jc5 s1 s2) (jc5 r1 r2) fun p=>⟨sub s1 r1 s2 r2 s5 r5 hx hy h1 h2 p,sub r1 s1 r2 s2 r5 s5 hy hx h2 h1 p⟩
 obtain⟨e1,e2⟩:=jr1 s2 r2 e;rw[e1,e2]))
 ·(obtain⟨u,v,rfl,s1,s2⟩:=jje.1 vx;obtain⟨u',v',rfl,r1,r2⟩:=jje.1 vy;rw[jb2] at h1 h2;have e1:u=u':=ih a ha u u' s1 r1 (hx.half 0) (hy.half 0) h1.1 h2.1;have e2:v=v':=ih b hb v v' s2 r2 (hx.half 1) (hy.half 1) h1.2 h2.2;rw[e1,e2]))
theorem leV_refl:∀ (n:Nat) (t:Tr),isT n t=true->∀ x,isV t x=true->Nn x->leV t x x:=by
 intro n;induction n with
 | zero=>intro t h;simp[isT] at h
 | succ n ih=>(
 intro t h x vx hx;obtain⟨m,hm,h⟩:=jq2 h;obtain rfl:n=m:=by omega
 rcases h with ⟨k,hk,rfl⟩ | ⟨k,a,hk,rfl,ha⟩ | ⟨a,b,rfl,ha,hb⟩
 ·(
 rcases hk with rfl | rfl | rfl | rfl | rfl
 ·exact (jgx (.inl rfl) _ _).2 (Int.le_refl _)
 ·exact (jgx (.inr rfl) _ _).2 (Int.le_refl _)
 ·exact (jd0 _ _).2 fun s hs=>hs
 ·exact (jk3 _ _).2 (by rw[jxp,jwg.refl];decide)
 ·exact (jgy _ _).2 (jt6 (jw6 (ck_ok vx).1).2.1))
 ·(
 rcases hk with rfl | rfl
 ·(obtain⟨s,v,rfl,_,_,_,_,h5⟩:=jwh.1 vx;exact (jd1 _ _ _).2 fun p hp=>⟨p,hp,rfl,ih a ha _ (h5 _ (List.of_mem_zip hp).2).1 (jy7 hx.out.2.2.2 hp)⟩)
 ·(obtain⟨s,v,rfl,_,_,_,_,h5⟩:=jq1.1 vx;exact (jgz _ _ _).2 fun p hp => .inr ⟨p,hp,rfl,ih a ha _ (h5 _ (List.of_mem_zip hp).2) (jy7 hx.out.2.2.2 hp)⟩))
 ·(obtain⟨u,v,rfl,s1,s2⟩:=jje.1 vx;exact (jb2 _ _ _ _).2 ⟨ih a ha u s1 (hx.half 0),ih b hb v s2 (hx.half 1)⟩))
open C3 (Tk isC jw6 isC_mk Asc ofC jqk jxt jz0 jz1 jz3)
open V4 (Va isV jqv ApR jwr jx3)
structure Lub (t:Tr) (x y z:Va):Prop where
  is:isV t z=true
  nn:Nn z
  left:leV t x z
  right:leV t y z
  least:∀ u,isV t u=true->Nn u->leV t x u->leV t y u->leV t z u
def OkV(t:Tr)(x:Va):Prop:=isV t x=true\/x = .zero
theorem jb6{M V W:Type}{f:V->V->Option W}:∀ {l:List (M×V×V)} {r:List (M×W)},jxf f l=some r->∀ q∈l,∃ w,f q.2.1 q.2.2=some w
  | [],_,_,q,hq=>by cases hq
  | p :: l,r,h,q,hq=>by
    rw[jxf] at h
    cases hf:f p.2.1 p.2.2 with
    | none=>rw[hf] at h;simp at h
    | some v =>
      rw[hf] at h
      cases ha:jxf f l with
      | none=>rw[ha] at h;simp at h
      | some x =>
        rcases List.mem_cons.1 hq with rfl | hq
        · exact⟨v,hf⟩
        · exact jb6 ha q hq
theorem jte{x y z:Va}(vx:isV (.mk 6 []) x=true)(vy:isV (.mk 6 []) y=true)(hx:Nn x)(hy:Nn y)(h:jzp (.mk 6 []) x y=some z):Lub (.mk 6 []) x y z:=by
 have form:∀ {x:Va},isV (.mk 6 []) x=true->Va.mk x.n x.m x.s [] []=x:=fun {x} h=>by rcases jw5.1 h with rfl | ⟨_,_,_,rfl,_⟩ <;> rfl
 rw[jzp,if_neg (by decide),if_pos rfl] at h;unfold jj4 at h;rw[form vx,form vy] at h;have refl:∀ x,leV (.mk 6 []) x x:=fun x=>(jk3 _ _).2 (by rw[jxp,jwg.refl];decide)
 split at h
 ·(
 rename_i hl
 obtain rfl:=Option.some.inj h;exact⟨vy,hy,(jk3 _ _).2 (by omega),refl _,fun u _ _ _ h4=>h4⟩)
 ·(
 rename_i hl
 obtain rfl:=Option.some.inj h;refine⟨vx,hx,refl _,(jk3 _ _).2 ?_,fun u _ _ h3 _=>h3⟩;rw[jxp] at hl ⊢;rcases Int.lt_or_eq_of_le (show 0<=_ from Int.not_lt.1 hl) with h | h
 ·exact Int.le_of_lt (jwg.gt h)
 ·rw[jwg.eq h.symm,jwg.refl];decide)
end J5
namespace J5
open S2 (Tr isT)
open V4 (Va isV)
section
variable {M V:Type} (c:M->M->Int) (z:V)
theorem jc9{f:V->V->Option V}{l:List (M×V)}(h:∀ p∈l,f p.2 z=some p.2):jxf f (l.map fun p=>(p.1,p.2,z))=some l:=by
 induction l with
 | nil=>rfl
 | cons p l ih=>(rw[List.map_cons,jxf,h p (by simp),ih fun p hp=>h p (by simp[hp])];rfl)
end
theorem jpi{M V W:Type}{f:V->V->Option W}:∀ {l:List (M×V×V)},(∀ p∈l,∃ v,f p.2.1 p.2.2=some v)->∃ r,jxf f l=some r
  | [],_=>⟨[],rfl⟩
  | p :: l,h=>by
    obtain⟨v,hv⟩:=h p (by simp)
    obtain⟨r,hr⟩:=jpi (l:=l) fun q hq=>h q (by simp[hq])
    exact⟨(p.1,v) :: r,by rw[jxf,hv,hr];rfl⟩
theorem set_r(s:List Str)(h:s.length<=40):jzp (.mk 3 []) (.mk 0 0 s [] []) .zero=some (.mk 0 0 s [] []):=by
 rw[jzp,if_pos rfl];unfold setE;exact if_neg (show ¬ 40<s.length by omega)
end J5
namespace J5
open C3 (Tk jxt jz0 jz1 jz3)
open S2 (Tr isT)
open V4 (Va isV jqv ApR)
theorem jtl{n:Nat}{a b:Tr}(h:isT n (.mk 5 [a,b])=true):∃ m,n=m+1/\isT m a=true/\isT m b=true:=by
 obtain⟨m,rfl,h | h | h⟩:=jq2 h
 ·obtain⟨k,_,e⟩:=h;cases e
 ·obtain⟨k,a',_,e,_⟩:=h;cases e
 ·(
 obtain⟨a',b',e,h1,h2⟩:=h;cases e
 exact⟨m,rfl,h1,h2⟩)
theorem jg2:∀ (n:Nat) (t:Tr),n<=16->isT n t=true->∀ x,jzp t x (jqv t)=jzp t x .zero:=by
 intro n;induction n with
 | zero=>intro t _ h;simp[isT] at h
 | succ m ih=>(
 intro t hn h x;rcases jpc h hn with ⟨e,_⟩ | ⟨a,b,rfl,e⟩
 ·rw[e]
 ·(
 obtain⟨m',hm,ha,hb⟩:=jtl h;obtain rfl:m'=m:=by omega
 rw[e,jzp,jzp];show ((jzp a (jq7 x 0) (jqv a)).bind fun u=>(jzp b (jq7 x 1) (jqv b)).map _)=((jzp a (jq7 x 0) .zero).bind fun u=>(jzp b (jq7 x 1) .zero).map _)
 rw[ih a (by omega) ha,ih b (by omega) hb]))
theorem jg3:∀ (n:Nat) (t:Tr),n<=16->isT n t=true->∀ x,jzp t (jqv t) x=jzp t .zero x:=by
 intro n;induction n with
 | zero=>intro t _ h;simp[isT] at h
 | succ m ih=>(
 intro t hn h x;rcases jpc h hn with ⟨e,_⟩ | ⟨a,b,rfl,e⟩
 ·rw[e]
 ·(
 obtain⟨m',hm,ha,hb⟩:=jtl h;obtain rfl:m'=m:=by omega
 rw[e,jzp,jzp];show ((jzp a (jqv a) (jq7 x 0)).bind fun u=>(jzp b (jqv b) (jq7 x 1)).map _)=((jzp a .zero (jq7 x 0)).bind fun u=>(jzp b .zero (jq7 x 1)).map _)
 rw[ih a (by omega) ha,ih b (by omega) hb]))
section
variable {M V:Type} {c:M->M->Int} {z:V}
theorem jv4(a:List (M×V)):mix c z a []=a.map fun p=>(p.1,p.2,z):=by
 cases a with
 | nil=>rw[mix];rfl
 | cons x a=>rw[mix]
theorem jv5(b:List (M×V)):mix c z [] b=b.map fun p=>(p.1,z,p.2):=by rw[mix]
theorem jf5{f:V->V->Option V}{l:List (M×V)}(h:∀ p∈l,f z p.2=some p.2):jxf f (l.map fun p=>(p.1,z,p.2))=some l:=by
 induction l with
 | nil=>rfl
 | cons p l ih=>(rw[List.map_cons,jxf,h p (by simp),ih fun p hp=>h p (by simp[hp])];rfl)
theorem jck(hc:Cmp c){a b:List (M×V)}(ha:Up c a)(hb:Up c b)(m:M):(∃ p∈mix c z a b,p.1=m)↔(∃ q∈a,q.1=m)\/∃ q∈b,q.1=m:=by
 constructor
 ·(rintro ⟨p,hp,rfl⟩;exact (jyv c z a b hp).2.2)
 ·(
 intro h;by_cases h1:∃ q∈a,q.1=m
 ·(
 obtain⟨q,hq,rfl⟩:=h1;by_cases h2:∃ r∈b,r.1=q.1
 ·(obtain⟨r,hr,e⟩:=h2;exact⟨(q.1,q.2,r.2),(jgv hc a b ha hb _).2 (.inl ⟨hq,by rw[<- e];exact hr⟩),rfl⟩)
 ·exact⟨(q.1,q.2,z),(jgv hc a b ha hb _).2 (.inr (.inl ⟨hq,fun r hr e=>h2 ⟨r,hr,e⟩,rfl⟩)),rfl⟩)
 ·(
 rcases h with h | ⟨q,hq,rfl⟩
 ·exact absurd h h1
 ·exact⟨(q.1,z,q.2),(jgv hc a b ha hb _).2 (.inr (.inr ⟨fun r hr e=>h1 ⟨r,hr,e⟩,rfl,hq⟩)),rfl⟩))
end
theorem jtd{V:Type}{z:V}{a b:List (Str×V)}(ha:Up jx1 a)(hb:Up jx1 b):(mix jx1 z a b).map (·.1)=R1.jqm (a.map (·.1)) (b.map (·.1)):=by
 have srt:∀ {W:Type} {l:List (Str×W)},Up jx1 l->R1.Srt (l.map (·.1)):=fun {W l} h=>by (
 rw[R1.Srt,List.pairwise_map];exact h.imp fun {p q} gj=>by (
 unfold jx1 at gj;by_cases h1:p.1<q.1
 ·exact h1
 ·(rw[if_neg h1] at gj;split at gj <;> omega)))
 refine R1.jyl (srt (mix_up jxe a b ha hb)) (R1.jwl (srt ha)) fun s=>?_
 rw[R1.jxw];constructor
 ·(intro h;obtain⟨p,hp,rfl⟩:=List.mem_map.1 h;exact ((jck jxe ha hb _).1 ⟨p,hp,rfl⟩).imp (fun ⟨q,hq,e⟩=>List.mem_map.2 ⟨q,hq,e⟩) fun ⟨q,hq,e⟩=>List.mem_map.2 ⟨q,hq,e⟩)
 ·(intro h;obtain⟨p,hp,e⟩:=(jck jxe (z:=z) ha hb s).2 (h.imp (fun h=>by obtain⟨q,hq,e⟩:=List.mem_map.1 h;exact⟨q,hq,e⟩) fun h=>by obtain⟨q,hq,e⟩:=List.mem_map.1 h;exact⟨q,hq,e⟩);exact List.mem_map.2 ⟨p,hp,e⟩)
theorem jjs:∀ (n:Nat) (t:Tr),n<=16->isT n t=true->∀ x,isV t x=true->Nn x->jzp t x .zero=some x/\jzp t .zero x=some x:=by
 intro n;induction n with
 | zero=>intro t _ h;simp[isT] at h
 | succ m ih=>(
 intro t hn h x hx nx;obtain⟨m',hm,h1 | h1 | h1⟩:=jq2 h
 ·(
 obtain⟨k,hk,rfl⟩:=h1;rcases hk with rfl | rfl | rfl | rfl | rfl
 ·(
 obtain⟨p,rfl,_⟩:=(jyy (.inl rfl)).1 hx;have:=nx.out.1;have e1:jzp (.mk 1 []) (.mk p 0 [] [] []) .zero=some (.mk (max p 0) 0 [] [] []):=by rw[jzp,if_neg (by decide),if_neg (by decide),if_neg (by decide)];rfl
 have e2:jzp (.mk 1 []) .zero (.mk p 0 [] [] [])=some (.mk (max 0 p) 0 [] [] []):=by rw[jzp,if_neg (by decide),if_neg (by decide),if_neg (by decide)];rfl
 simp only[Va.n] at this;rw[e1,e2,Int.max_eq_left this,Int.max_eq_right this];exact⟨rfl,rfl⟩)
 ·(
 obtain⟨p,rfl,_⟩:=(jyy (.inr rfl)).1 hx;have:=nx.out.1;have e1:jzp (.mk 2 []) (.mk p 0 [] [] []) .zero=some (.mk (max p 0) 0 [] [] []):=by rw[jzp,if_neg (by decide),if_neg (by decide),if_neg (by decide)];rfl
 have e2:jzp (.mk 2 []) .zero (.mk p 0 [] [] [])=some (.mk (max 0 p) 0 [] [] []):=by rw[jzp,if_neg (by decide),if_neg (by decide),if_neg (by decide)];rfl
 simp only[Va.n] at this;rw[e1,e2,Int.max_eq_left this,Int.max_eq_right this];exact⟨rfl,rfl⟩)
 ·(
 obtain⟨s,rfl,h2,h3,_⟩:=jj0.1 hx;refine⟨set_r s h3,?_⟩;have e:R1.jqm [] s=s:=R1.jyl (R1.jwl .nil) h2 fun y=>by rw[R1.jxw];simp
 rw[jzp,if_pos rfl];show (if 40<(R1.jqm [] s).length then none else some (Va.mk 0 0 (R1.jqm [] s) [] []))=_
 rw[e,if_neg (by omega)])
 ·(
 have hl:∀ y,isV (.mk 6 []) y=true->Va.mk y.n y.m y.s [] []=y:=fun y hy=>by rcases jw5.1 hy with rfl | ⟨_,_,_,rfl,_⟩ <;> rfl
 have hz:isV (.mk 6 []) .zero=true:=jw5.2 (.inl rfl);have L1:=jte hx hz nx .zero (z:=jj4 x .zero) (by rw[jzp,if_neg (by decide),if_pos rfl]);have L2:=jte hz hx .zero nx (z:=jj4 .zero x) (by rw[jzp,if_neg (by decide),if_pos rfl]);have lz:leV (.mk 6 []) .zero x:=jth _ _ h x nx;have lr:leV (.mk 6 []) x x:=leV_refl _ _ h x hx nx;have e1:jj4 x .zero=x:=jbi _ _ h _ _ L1.is hx L1.nn nx (L1.least x hx nx lr lz) L1.left;have e2:jj4 .zero x=x:=jbi _ _ h _ _ L2.is hx L2.nn nx (L2.least x hx nx lz lr) L2.right;rw[jzp,if_neg (by decide),if_pos rfl,jzp,if_neg (by decide),if_pos rfl,e1,e2];exact⟨rfl,rfl⟩)
 ·(
 rw[jzp,if_neg (by decide),if_neg (by decide),if_pos rfl,jzp,if_neg (by decide),if_neg (by decide),if_pos rfl];rcases jjg.1 hx with rfl | ⟨cl,rfl,h2,h3⟩
 ·exact⟨rfl,rfl⟩
 ·(have h4:=(C3.jw6 h2).1;unfold jke;have e1:(Va.mk 0 0 [] [cl] []).c++Va.zero.c=[cl]:=rfl;have e2:Va.zero.c++(Va.mk 0 0 [] [cl] []).c=[cl]:=rfl;have ef:[cl].foldl jz0 []=cl:=jz1 cl;rw[e1,e2,ef,if_neg h3,if_neg (by omega)];exact⟨rfl,rfl⟩)))
 ·(
 obtain⟨k,a,hk,rfl,ha⟩:=h1;obtain rfl:m'=m:=by omega
 have bx:∀ y∈x.v,isV a y=true->jzp a y .zero=some y/\jzp a .zero y=some y:=fun y hy hv=>ih a (by omega) ha y hv (nx.out.2.2.2 y hy)
 rcases hk with rfl | rfl
 ·(
 obtain⟨s,v,rfl,h2,h3,h4,_,h5⟩:=jwh.1 hx;have hz:(s.zip v).length<=40:=by rw[List.length_zip];omega
 have hp:∀ p∈s.zip v,jzp a p.2 .zero=some p.2/\jzp a .zero p.2=some p.2:=fun p hp=>bx _ (List.of_mem_zip hp).2 (h5 _ (List.of_mem_zip hp).2).1
 rw[jzp,if_pos rfl,jzp,if_pos rfl];unfold jo2;show (jwy _ (mix jx1 .zero (s.zip v) [])).map _=_/\(jwy _ (mix jx1 .zero [] (s.zip v))).map _=_
 rw[jv4,jv5];unfold jwy;rw[List.length_map,List.length_map,if_neg (by omega),if_neg (by omega),jc9 .zero fun p h=>(hp p h).1,jf5 fun p h=>(hp p h).2];have e1:(s.zip v).map (·.1)=s:=List.map_fst_zip (by omega);have e2:(s.zip v).map (·.2)=v:=List.map_snd_zip (by omega);simp only[Option.map_some,e1,e2];exact⟨trivial,trivial⟩)
 ·(
 obtain⟨cs,v,rfl,h2,h3,h4,h5,h6⟩:=jq1.1 hx;have hz:(cs.zip v).length<=40:=by rw[List.length_zip];omega
 have hp:∀ p∈cs.zip v,jzp a p.2 .zero=some p.2/\jzp a .zero p.2=some p.2:=fun p hp=>bx _ (List.of_mem_zip hp).2 (h6 _ (List.of_mem_zip hp).2)
 have hs:∀ p∈cs.zip v,jw1 p.1 cs=false:=fun p hp=>by (unfold jw1;exact List.any_eq_false.2 fun o ho e=>juf h4 (List.of_mem_zip hp).1 ho (of_decide_eq_true e))
 rw[jzp,if_neg (by decide),jzp,if_neg (by decide)];unfold jwu;show (jwy _ ((mix jkv .zero (cs.zip v) []).filter fun p=>!jw1 p.1 (cs++[]))).map _=_/\(jwy _ ((mix jkv .zero [] (cs.zip v)).filter fun p=>!jw1 p.1 ([]++cs))).map _=_
 rw[jv4,jv5,List.append_nil,List.nil_append];rw[List.filter_eq_self.2 (fun p hp=>by
   obtain⟨q,hq,rfl⟩:=List.mem_map.1 hp
   show (!jw1 q.1 cs)=true
   rw[hs q hq]
   rfl),List.filter_eq_self.2 (fun p hp=>by
   obtain⟨q,hq,rfl⟩:=List.mem_map.1 hp
   show (!jw1 q.1 cs)=true
   rw[hs q hq]
   rfl)]
 unfold jwy;rw[List.length_map,List.length_map,if_neg (by omega),if_neg (by omega),jc9 .zero fun p h=>(hp p h).1,jf5 fun p h=>(hp p h).2];have e1:(cs.zip v).map (·.1)=cs:=List.map_fst_zip (by omega);have e2:(cs.zip v).map (·.2)=v:=List.map_snd_zip (by omega);simp only[Option.map_some,e1,e2];exact⟨trivial,trivial⟩))
 ·(
 obtain⟨a,b,rfl,ha,hb⟩:=h1;obtain rfl:m'=m:=by omega
 obtain⟨u,v,rfl,h2,h3⟩:=jje.1 hx;have n1:=nx.out.2.2.2 u (show u∈[u,v] by simp);have n2:=nx.out.2.2.2 v (show v∈[u,v] by simp);obtain⟨a1,a2⟩:=ih a (by omega) ha u h2 n1;obtain⟨b1,b2⟩:=ih b (by omega) hb v h3 n2;rw[jzp,jzp];show ((jzp a u .zero).bind fun p=>(jzp b v .zero).map _)=_/\((jzp a .zero u).bind fun p=>(jzp b .zero v).map _)=_
 rw[a1,a2,b1,b2];exact⟨rfl,rfl⟩))
end J5
namespace C3
open Go.RowKit
def RetOT(w:World)(base:Nat)(ys:List Tk)(e:Ending)(w':World):Prop:=∃ v,e = .returned v/\jkg w' base v ys/\Below w.heap.size w w'
theorem jl2{w w':World}{base:Nat}{v:Value}{ys zs:List Tk}(h:jkg w' base v ys)(e:ys=zs)(hb:Below w.heap.size w w'):RetOT w base zs (.returned v) w':=e▸⟨v,rfl,h,hb⟩
theorem jho{w:World}{base base':Nat}{v:Value}{ys:List Tk}(h:jkg w base v ys)(hb:base'<=base):jkg w base' v ys:=by
 refine⟨h.1,h.2.imp id ?_⟩;rintro ⟨g,cap,cur,rfl,h1,h2⟩;exact⟨g,cap,cur,rfl,leT hb h1,h2⟩
theorem jdn(A:Option Addr)(c:Nat)(l:List Tk)(q n:Int)(w:World)(h:In w A c l)(hn:n≠0)(aq:l.length<=1000):Calls Tryz.prog 97 #[.slice A l.length c,.int .i64 q,.int .u64 n] w (RetOT w w.heap.size (jxa l q n)):=by
 obtain⟨hl,-,-,-⟩:=h;have hnb:(n == 0)=false:=by simp[hn]
 clear hn;go_enter Tryz.func97,Tryz.ntmps97;go_wp2_with fail;go_loopw [7,8,9] (fun ov dv iv wr=>∃ (k:Nat) (d:Bool) (ys:List Tk),k<=l.length/\iv = .int .i64 k/\dv = .bool d/\ys.length<=2*k/\jkg wr w.heap.size ov ys/\Hid (jxa l q n=ys++jkq d (l.drop k) q n)/\Below w.heap.size w wr) (fun _ _ iv _=>l.length - (intOf iv).toNat)
 case atStart=>exact⟨0,false,[],Nat.zero_le _,rfl,rfl,by simp,jkg.nil _ _,by simp[Hid,jkq],Below.refl _ _⟩
 case round=>(
 obtain⟨k,d,ys,hk,rfl,rfl,nN,aj,h0,ar⟩:=hrel;by_cases hlt:k<l.length
 ·(
 obtain⟨b,off,rfl,hb,hc⟩:=hl.get hlt;obtain⟨x,hx⟩:∃ x,l[k]?=some x:=⟨_,List.getElem?_eq_getElem hlt⟩
 obtain⟨x0,x1⟩:=hc k x hx;have HX:=Lh hx;have cq:=(ar.cell (p:=⟨b,off+k*2,none⟩) hb).trans x0;have cB:=(ar.cell (p:=⟨b,off+k*2+1,none⟩) hb).trans x1;have xB:=Lh x0;have jr:=Lh x1;clear hx hc hl x0 x1;obtain⟨xk,xn⟩:=x;dsimp only at cq cB xB jr
 have cD:b<wr.heap.size:=ltl hb ar.size;cases d with
 | true=>(
 have HO:=Lh (aj.below (jzf (wr) (.cells #[.int .i64 xk,.int .u64 xn] 53)));have je:Hid (Below w.heap.size w (wr.alloc (.cells #[.int .i64 xk,.int .u64 xn] 53))):=(jzk ar);clear aj ar;go_wp2_with (at_builtin;refine jqe _ rfl (.tmp 59) (.tmp 64) 54 rfl w.heap.size Tryz.underlying54 _ ys rfl HO.out (wr.heap.size+1) (some ⟨wr.heap.size,0,none⟩) 1 1 [⟨xk,xn⟩] rfl rfl (jqn.one (by omega) (by simp) (by simp)) (len1 (by omega)) je.out.size ?_;intro v2 w2 ap cV _;have eO:Below w.heap.size w w2:=je.out.grown cV je.out.size (fun k hk=>(World.ownsRow.lt HO.out k hk).1);clear cV)
 go_roundw
 case rel=>exact⟨k+1,true,ys++[⟨xk,xn⟩],by omega,by go_num,rfl,by simp;omega,ap,joo h0.out HX.out,eO⟩
 case measure=>simp[intOf];omega)
 | false=>(
 by_cases c1:xk<q
 ·(
 have HO:=Lh (aj.below (jzf (wr) (.cells #[.int .i64 xk,.int .u64 xn] 53)));have je:Hid (Below w.heap.size w (wr.alloc (.cells #[.int .i64 xk,.int .u64 xn] 53))):=(jzk ar);have HC:=Lh c1;have d1:decide (q<=xk)=false:=decide_eq_false (by omega);clear aj ar c1;go_wp2_with (at_builtin;refine jqe _ rfl (.tmp 59) (.tmp 64) 54 rfl w.heap.size Tryz.underlying54 _ ys rfl HO.out (wr.heap.size+1) (some ⟨wr.heap.size,0,none⟩) 1 1 [⟨xk,xn⟩] rfl rfl (jqn.one (by omega) (by simp) (by simp)) (len1 (by omega)) je.out.size ?_;intro v2 w2 ap cV _;have eO:Below w.heap.size w w2:=je.out.grown cV je.out.size (fun k hk=>(World.ownsRow.lt HO.out k hk).1);clear cV)
 go_roundw
 case rel=>exact⟨k+1,false,ys++[⟨xk,xn⟩],by omega,by go_num,rfl,by simp;omega,ap,restC_lt h0.out HX.out HC.out,eO⟩
 case measure=>simp[intOf];omega)
 ·(
 by_cases c2:xk=q
 ·(
 subst c2;have HO:=Lh ((aj.below (jzf (wr) (.cells #[.int .i64 xk,.int .u64 (max n xn)] 53))).below (jzf (wr.alloc (.cells #[.int .i64 xk,.int .u64 (max n xn)] 53)) (.cells #[.int .i64 xk,.int .u64 (max n xn)] 53)));have je:Hid (Below w.heap.size w ((wr.alloc (.cells #[.int .i64 xk,.int .u64 (max n xn)] 53)).alloc (.cells #[.int .i64 xk,.int .u64 (max n xn)] 53))):=(jzk (jzk ar));clear c1 aj ar;go_wp2_with (at_builtin;refine jqe _ rfl (.tmp 48) (.tmp 50) 54 rfl w.heap.size Tryz.underlying54 _ ys rfl HO.out (wr.heap.size+1+1) (some ⟨wr.heap.size+1,0,none⟩) 1 1 [⟨xk,max n xn⟩] rfl rfl (jqn.one (by omega) (by simp) (by simp)) (len1 (by omega)) je.out.size ?_;intro v2 w2 ap cV _;have eO:Below w.heap.size w w2:=je.out.grown cV je.out.size (fun k hk=>(World.ownsRow.lt HO.out k hk).1);clear cV;have fI:=(eO.cell (p:=⟨b,off+k*2,none⟩) hb).trans xB.out)
 go_roundw
 case rel=>exact⟨k+1,true,ys++[Tk.mk xk (max n xn)],by omega,by go_num,rfl,by simp;omega,ap,restC_eq h0.out HX.out rfl,eO⟩
 case measure=>simp[intOf];omega)
 ·(
 have c3:q<=xk:=by omega
 have HC:Hid (q<xk):=by show q<xk;omega
 have c2':(xk == q)=false:=by simp[c2]
 have HO:=Lh ((aj.below (jzf (wr) (.cells #[.int .i64 q,.int .u64 n] 53))).below (jzf (wr.alloc (.cells #[.int .i64 q,.int .u64 n] 53)) (.cells #[.int .i64 q,.int .u64 n] 53)));have je:Hid (Below w.heap.size w ((wr.alloc (.cells #[.int .i64 q,.int .u64 n] 53)).alloc (.cells #[.int .i64 q,.int .u64 n] 53))):=(jzk (jzk ar));clear c1 c2 aj ar;go_wp2_with (first | (at_builtin;refine jqe _ rfl (.tmp 48) (.tmp 50) 54 rfl w.heap.size Tryz.underlying54 _ ys rfl HO.out (wr.heap.size+1+1) (some ⟨wr.heap.size+1,0,none⟩) 1 1 [⟨q,n⟩] rfl rfl (jqn.one (by omega) (by simp) (by simp)) (len1 (by omega)) je.out.size ?_;intro v2 w2 ap cV _;have eO:Below w.heap.size w w2:=je.out.grown cV je.out.size (fun k hk=>(World.ownsRow.lt HO.out k hk).1);clear cV;have fI:=(eO.cell (p:=⟨b,off+k*2,none⟩) hb).trans xB.out;have fM:=(eO.cell (p:=⟨b,off+k*2+1,none⟩) hb).trans jr.out;have ab:b<w2.heap.size:=ltl hb eO.size;have HO2:=Lh (ap.below (jzf w2 (.cells #[.int .i64 xk,.int .u64 xn] 53)));have eT:Hid (Below w.heap.size w (w2.alloc (.cells #[.int .i64 xk,.int .u64 xn] 53))):=jzk eO) | (at_builtin;refine jqe _ rfl (.tmp 59) (.tmp 64) 54 rfl w.heap.size Tryz.underlying54 v2 (ys++[⟨q,n⟩]) rfl HO2.out (w2.heap.size+1) (some ⟨w2.heap.size,0,none⟩) 1 1 [⟨xk,xn⟩] rfl rfl (jqn.one (by omega) (by simp) (by simp)) (len1 (len_snoc (by omega))) eT.out.size ?_;intro v3 w3 vp cV _;have hbw8:Below w.heap.size w w3:=eT.out.grown cV eT.out.size (fun k hk=>(World.ownsRow.lt HO2.out k hk).1);clear cV))
 go_roundw
 case rel=>exact⟨k+1,true,(ys++[Tk.mk q n])++[Tk.mk xk xn],by omega,by go_num,rfl,by simp;omega,vp,restC_gt h0.out HX.out HC.out,hbw8⟩
 case measure=>simp[intOf];omega))))
 ·(
 cases d with
 | true=>(go_wp2_with fail;go_ret;refine jl2 aj ?_ ar;rw[h0.out,List.drop_eq_nil_of_le (by omega)];simp[jkq])
 | false=>(
 have HO:=Lh (aj.below (jzf wr (.cells #[.int .i64 q,.int .u64 n] 53)));have je:Hid (Below w.heap.size w (wr.alloc (.cells #[.int .i64 q,.int .u64 n] 53))):=jzk ar;clear aj ar;go_wp2_with (
 at_builtin
 refine jqe _ rfl (.tmp 68) (.tmp 72) 54 rfl w.heap.size Tryz.underlying54 _ ys rfl HO.out _ (some ⟨wr.heap.size,0,none⟩) 1 1 [⟨q,n⟩] rfl rfl jqn.new ?ql ?qs ?_;case ql=>(simp only[List.length_cons,List.length_nil];omega)
 case qs=>exact je.out.size
 intro v2 w2 ap cV _;have eO:Below w.heap.size w w2:=je.out.grown cV je.out.size (fun k hk=>(World.ownsRow.lt HO.out k hk).1))
 go_ret;refine jl2 ap ?_ eO;rw[h0.out,List.drop_eq_nil_of_le (by omega)];simp[jkq,jxa])))
theorem jdp(A A':Option Addr)(c c':Nat)(l l':List Tk)(w:World)(h:In w A c l)(h':In w A' c' l')(hn:∀ y∈l',y.n≠0)(aq:l.length<=100)(jA:l'.length<=100):Calls Tryz.prog 52 #[.slice A l.length c,.slice A' l'.length c'] w (RetOT w w.heap.size (jjo l l')):=by
 obtain⟨hl,-,-,vu⟩:=h;obtain⟨cR,-,-,qd⟩:=h';have HNZ:Hid (∀ y∈l',y.n≠0/\0<=y.n/\y.n<=18446744073709551615):=fun y hy=>⟨hn y hy,qd y hy⟩
 have HNK:=Lh vu;clear hn vu qd;go_enter Tryz.func52,Tryz.ntmps52;go_wp2_with (at_builtin;refine jqe _ rfl (.const (.slice none 0 0)) (.tmp 7) 54 rfl w.heap.size Tryz.underlying54 (.slice none 0 0) [] rfl (jkg.nil _ _) _ A l.length c l rfl rfl hl (by simp;omega) (Nat.le_refl _) ?_;intro v2 w2 ap cV _;have eO:Below w.heap.size w w2:=(Below.refl _ w).grown cV (Nat.le_refl _) (fun k hk=>by cases hk);clear cV;obtain⟨A2,c2,rfl,-⟩:=jkg.form ap HNK.out)
 simp only[List.nil_append] at ap ⊢;go_loopw [5,6] (fun ov iv wr=>∃ (k:Nat) (A2:Option Addr) (c2:Nat) (ys:List Tk),k<=l'.length/\iv = .int .i64 k/\ov = .slice A2 ys.length c2/\jkg wr w.heap.size (.slice A2 ys.length c2) ys/\Nok ys/\ys.length<=l.length+k/\Hid (ys=jjo l (l'.take k))/\Below w.heap.size w wr) (fun _ iv _=>l'.length - (intOf iv).toNat)
 case atStart=>exact⟨0,A2,c2,l,Nat.zero_le _,rfl,rfl,ap,HNK.out,by omega,by simp[Hid,jjo],eO⟩
 case round=>(
 obtain⟨k,A3,c3,ys,hk,rfl,rfl,mG,hnk,nN,h0,ar⟩:=hrel;clear ap eO;by_cases hlt:k<l'.length
 ·(
 obtain⟨b,off,rfl,hb,hc⟩:=(cR.below ar).get hlt;obtain⟨y,hy⟩:∃ y,l'[k]?=some y:=⟨_,List.getElem?_eq_getElem hlt⟩
 obtain⟨cq,cB⟩:=hc k y hy;have HY:=Lh hy;have od:=Lh (HNZ.out y (List.mem_of_getElem? hy));clear hy hc cR;obtain⟨yk,yn⟩:=y;dsimp only at cq cB od
 have lj:(k:Int)<(l'.length:Int):=by omega
 have iA:Hid (In wr A3 c3 ys):=by obtain⟨A5,c5,e5,h5⟩:=mG.form hnk;cases e5;exact h5
 have HNY:=Lh hnk;have eM:=Lh ar;clear mG hnk ar;go_wp2_with fail;go_still_tail 11,(by kernel_rfl)
 change wpList _ _ _ _ _ wr.drew;go_wp2_with fail;refine (jdn A3 c3 ys yk yn _ (iA.out.later (jqz wr)) od.out.1 (by omega)).mono ?_;rintro e w4 ⟨v4,rfl,cg,ca⟩;have vw:Nok (jxa ys yk yn):=jr5 HNY.out od.out.2;obtain⟨A4,c4,rfl,-⟩:=cg.form vw;have HO5:Hid (jkg w4 w.heap.size (.slice A4 (jxa ys yk yn).length c4) (jxa ys yk yn)):=jho cg eM.out.size;have kb:Below w.heap.size w w4:=(eM.out.drew).trans (ca.mono eM.out.size);go_wp2_with fail;go_roundw
 case rel=>exact⟨k+1,A4,c4,jxa ys yk yn,by omega,by go_num,rfl,HO5.out,vw,by have:=jga yk yn ys;omega,jrc h0.out HY.out,kb⟩
 case measure=>simp[intOf];omega)
 ·(go_wp2_with fail;go_ret;have e:=jnc h0.out (by omega);subst e;exact⟨_,rfl,mG,ar⟩))
end C3
namespace V4
open Go.RowKit
open C3 (Tk isC jzk)
theorem jtr{l l':List Str}{i:Nat}(h0:l.take i=l'.take i)(hi:l.length<=i)(nU:l'.length<=i):decide (l=l')=true:=by
 rw[List.take_of_length_le hi,List.take_of_length_le nU] at h0;exact decide_eq_true h0
theorem jox{l l':List Str}{i:Nat}{x x':Str}(hx:l[i]?=some x)(iI:l'[i]?=some x')(h:x≠x'):decide (l=l')=false:=decide_eq_false fun e=>h (by rw[e,iI] at hx;cases hx;rfl)
theorem jta{l l':List Str}(h:l.length≠l'.length):decide (l=l')=false:=decide_eq_false fun e=>h (by rw[e])
theorem jj7{l l':List Str}{i:Nat}{x:Str}(h0:l.take i=l'.take i)(hx:l[i]?=some x)(iI:l'[i]?=some x):l.take (i+1)=l'.take (i+1):=by
 obtain⟨h1,e1⟩:=List.getElem?_eq_some_iff.1 hx;obtain⟨h2,e2⟩:=List.getElem?_eq_some_iff.1 iI;rw[List.take_succ_eq_append_getElem h1,List.take_succ_eq_append_getElem h2,h0,e1,e2]
theorem jrj(A A':Option Addr)(c c':Nat)(l l':List Str)(w:World)(hl:jqr w A l)(cR:jqr w A' l')(hn:l.length<=maxLen):Calls Tryz.prog 108 #[.slice A l.length c,.slice A' l'.length c'] w (jz6 w (.bool (decide (l=l')))):=by
 have eI:l.length<=9223372036854775807:=by unfold maxLen at hn;omega
 clear hn;by_cases aq:l.length=l'.length
 ·(
 have fF:=Lh aq;have hle:l'.length=l.length:=aq.symm;clear aq;rw[hle];clear hle;go_enter Tryz.func108,Tryz.ntmps108;go_wp2_with fail;go_loopw [13] (fun iv wr=>∃ k:Nat,k<=l.length/\iv = .int .i64 k/\Hid (l.take k=l'.take k)/\Below w.heap.size w wr) (fun iv _=>l.length - (intOf iv).toNat)
 case atStart=>exact⟨0,Nat.zero_le _,rfl,by simp[Hid],Below.refl _ _⟩
 case round=>(
 obtain⟨k,hk,rfl,h0,ar⟩:=hrel;by_cases hlt:k<l.length
 ·(
 have cJ:k<l'.length:=by have:=fF.out;omega
 obtain⟨b,off,rfl,hb,hc⟩:=(hl.below ar).get hlt;obtain⟨x,hx⟩:∃ x,l[k]?=some x:=⟨_,List.getElem?_eq_getElem hlt⟩
 have cq:=hc k x hx;have HX:=Lh hx;obtain⟨b',off',rfl,ct,cP⟩:=(cR.below ar).get cJ;obtain⟨y,hy⟩:∃ y,l'[k]?=some y:=⟨_,List.getElem?_eq_getElem cJ⟩
 have fI:=cP k y hy;have HY:=Lh hy;clear hx hc hl hy cP cR;have lj:(k:Int)<(l.length:Int):=by omega
 by_cases he:x=y
 ·(
 subst he;go_wp2_with fail;go_quiet (fail)
 go_wp2_with fail;go_roundw
 case rel=>exact⟨k+1,by omega,by go_num,jj7 h0.out HX.out HY.out,jzq ar _⟩
 case measure=>simp[intOf];omega)
 ·(
 have HE:=Lh he;have fC:(x == y)=false:=jvr he;clear he;go_wp2_with fail;go_quiet (fail)
 go_wp2_with fail;go_ret;exact⟨jzi (jox HX.out HY.out HE.out).symm,jzq ar _⟩))
 ·(go_wp2_with fail;go_ret;exact⟨jzi (jtr h0.out (by omega) (by have:=fF.out;omega)).symm,ar⟩)))
 ·(
 rw[jta aq];have hne:¬ ((l.length:Int)=l'.length):=by omega
 clear aq;go_enter Tryz.func108,Tryz.ntmps108;go_wp2_with fail;go_ret;exact⟨rfl,Below.refl _ _⟩)
theorem jp5(A A':Option Addr)(c c':Nat)(l l':List Ck)(w:World)(hl:jzt (fun b=>b<w.heap.size) w A (jzl l))(cR:jzt (fun b=>b<w.heap.size) w A' (jzl l'))(hn:l.length<=maxLen)(ht:∀ k∈l,InC w k)(nP:∀ k∈l',InC w k):Calls Tryz.prog 109 #[.slice A l.length c,.slice A' l'.length c',.func (.func 110) #[] #[]] w (jz6 w (.bool (decide (l.map Ck.l=l'.map Ck.l)))):=by
 have eI:l.length<=9223372036854775807:=by unfold maxLen at hn;omega
 have HT:=Lh ht;have HT':=Lh nP;clear hn ht nP;by_cases aq:l.length=l'.length
 ·(
 have fF:=Lh aq;have hle:l'.length=l.length:=aq.symm;clear aq;rw[hle];clear hle;go_enter Tryz.func109,Tryz.ntmps109;go_wp2_with fail;go_loopw [17] (fun iv wr=>∃ k:Nat,k<=l.length/\iv = .int .i64 k/\Hid ((l.take k).map Ck.l=(l'.take k).map Ck.l)/\Below w.heap.size w wr) (fun iv _=>l.length - (intOf iv).toNat)
 case atStart=>exact⟨0,Nat.zero_le _,rfl,by simp[Hid],Below.refl _ _⟩
 case round=>(
 obtain⟨k,hk,rfl,h0,ar⟩:=hrel;by_cases hlt:k<l.length
 ·(
 have cJ:k<l'.length:=by have:=fF.out;omega
 obtain⟨x,hx⟩:∃ x,l[k]?=some x:=⟨_,List.getElem?_eq_getElem hlt⟩
 obtain⟨b,off,rfl,hb,cq⟩:=jqi (hl.below ar) hx;obtain⟨y,hy⟩:∃ y,l'[k]?=some y:=⟨_,List.getElem?_eq_getElem cJ⟩
 obtain⟨b',off',rfl,ct,fI⟩:=jqi (cR.below ar) hy;have HX:=Lh hx;have HY:=Lh hy;have HS:=Lh (C3.jb7 _ _ _ _ _ _ wr (Ck.Inp.inn ((HT.out x (List.mem_of_getElem? hx)).later ar)) (Ck.Inp.inn ((HT'.out y (List.mem_of_getElem? hy)).later ar)));obtain⟨q,hq⟩:=exq (decide (x.l=y.l));have HQ:=Lh hq;rw[hq] at HS;clear hx hl hy cR hq;simp only[Ck.v] at cq fI;have lj:(k:Int)<(l.length:Int):=by omega
 go_wp2_with fail;refine HS.out.mono ?_;clear HS;rintro e w' ⟨rfl,ab⟩;have bj:Below w.heap.size w w':=ar.trans (ab.mono ar.size);cases q with
 | true=>(
 go_wp2_with fail;go_roundw
 case rel=>exact⟨k+1,by omega,by go_num,jw3 h0.out HX.out HY.out (of_decide_eq_true HQ.out),bj⟩
 case measure=>simp[intOf];omega)
 | false=>(go_wp2_with fail;go_ret;exact⟨jzi (decide_eq_false (jgw HX.out HY.out (of_decide_eq_false HQ.out))).symm,bj⟩))
 ·(go_wp2_with fail;go_ret;exact⟨jzi (decide_eq_true (jks h0.out (by omega) (by have:=fF.out;omega))).symm,ar⟩)))
 ·(
 have hr:decide (l.map Ck.l=l'.map Ck.l)=false:=decide_eq_false fun e=>aq (by have:=congrArg List.length e;simpa using this)
 rw[hr];have hne:¬ ((l.length:Int)=l'.length):=by omega
 clear aq hr;go_enter Tryz.func109,Tryz.ntmps109;go_wp2_with fail;go_ret;exact⟨rfl,Below.refl _ _⟩)
end V4
end Go.Proofs.YtobggoephhjofaaGreatDoor
