/- A part. No condition. -/
import Derived.Test.YtobggoephhjofaaGreatDoorMk27
import Derived.Laws.OwnMore
set_option maxRecDepth 100000
set_option maxHeartbeats 16000000
namespace Go.Proofs.YtobggoephhjofaaGreatDoor
namespace J5
open Go.RowKit Go.Shelf
open C3 (Tk jzk jzf)
open V4 (Va Vl Ck jzt jzl jzj jxb)
section
variable (w:World)
theorem ju3(base:Nat)(e:TypeId)(i:TypeInfo)(size:Nat)(t ty:TypeId)(ht:Tryz.prog.underlying t=some (.slice e))(hi:Tryz.prog.info? e=some i)(v:Value)(n:Nat)(xs:List Value)(aj:w.ownsRow base e size v n xs)(c:Nat):(Builtin.append_ #[t,t] ty #[v,.slice none 0 c]).run Tryz.prog w = .ok v w:=by
 rcases aj.2 with ⟨rfl,h0⟩ | ⟨g,cap,cur,rfl,_,_,j0,_⟩
 ·(subst h0;simp[Builtin.append_,run_underlying ht,sizeOf,typeInfo,hi,Builtin.lenOf,Builtin.firstCells])
 ·simp[Builtin.append_,run_underlying ht,sizeOf,typeInfo,hi,Builtin.lenOf,Builtin.firstCells,j0,storeCells]
variable {w:World} {o:Oper} {a:Act} {K:Act->World->Prop} {Q:Exit->Act->World->Prop}
theorem jzz{ops:Array Oper}{E:Prop}(jS:o.guard=none)(s x:Operand)(t:TypeId)(ho:o.op = .call { callee := .builtin .append,args:=#[s,x],argTypes:=#[t,t] })(base:Nat)(e:TypeId)(i:TypeInfo)(z:Value)(size bytes:Nat)(ht:Tryz.prog.underlying t=some (.slice e))(hi:Tryz.prog.info? e=some i)(hz:i.zero=some z)(ge:i.size=size)(gr:i.bytes=bytes)(fS:z.cells.size=size)(ae:0<size)(v:Value)(n:Nat)(xs:List Value)(hs:a.eval s=v)(aj:w.ownsRow base e size v n xs)(A:Option Addr)(m c:Nat)(news:List Value)(hx:a.eval x = .slice A m c)(hl:news.length=m*size)(fG:jzt (fun b=>b<w.heap.size) w A news)(h1:∀ u∈news,u.oneCell'=true)(qA:n+m<=maxLen)(fc:(n+m)*bytes<=140737488355328)(b6:base<=w.heap.size)(h:∀ v' w',w'.ownsRow base e size v' (n+m) (xs++news)->w.grownBy w' v.ownBlock->(v'.ownBlock=v.ownBlock\/v'.ownBlock=some w.heap.size)->K (a.put o.dst v') w'):if Region.wanted o (yielded ops a.tmps)=true then Oper.wp Tryz.prog o a w K Q else E:=by
 cases A with
 | some ad=>(
 refine jqj jS s x t ho base e i z size bytes ht hi hz ge gr fS ae v n xs hs aj ad m c news hx hl (fun j u hu=>?_) h1 qA fc b6 h;rcases fG with h0 | ⟨b,off,hA,_,hc⟩
 ·rw[h0] at hu;simp at hu
 ·(
 cases hA
 rw[Addr.add_lit];exact hc j u hu))
 | none=>(
 have hn:news=[]:=by (
 rcases fG with h0 | ⟨b,off,hA,_⟩
 ·exact h0
 ·cases hA)
 subst hn;have hm:m=0:=by (
 rcases Nat.mul_eq_zero.1 hl.symm with h0 | h0
 ·exact h0
 ·omega)
 subst hm;have hw:Region.wanted o (yielded ops a.tmps)=true:=by simp[Region.wanted,jS]
 rw[if_pos hw];have hr:=ju3 w base e i size t o.type ht hi v n xs aj c;unfold Oper.wp execOp;simp only[ho,resolve,invoke,builtin,Sem.run_bind,Sem.run_pure,Result.andThen_ok,List.map_toArray,List.map_cons,List.map_nil,hs,hx,hr];exact h v w (by simpa using aj) (World.grownBy.refl w _) (.inl rfl))
end
theorem jqd(cs:List Ck):∀ u∈jzl cs,u.oneCell'=true:=fun u hu=>by
  obtain⟨k,_,rfl⟩:=List.mem_map.1 hu
  rfl
theorem jqc(vs:List Vl):∀ u∈jzj vs,u.oneCell'=true:=fun u hu=>by
  obtain⟨⟨n,m,sA,sc,ss,cA,cc,cs,vA,vc,vs'⟩,_,hk⟩:=List.mem_flatMap.1 hu
  simp only[List.mem_cons,List.not_mem_nil,or_false] at hk
  rcases hk with rfl | rfl | rfl | rfl | rfl <;> rfl
theorem jxn{W:World}{b:Nat}{t:TypeId}{cs:Array Value}(h:Blk W b t cs):jzt (fun b=>b<W.heap.size) W (some ⟨b,0,none⟩) cs.toList :=
  .inr ⟨b,0,rfl,h.lt,fun i u hu=>by rw[Nat.zero_add];exact jza h i u (by simpa using hu)⟩
theorem jcm{W:World}{base g n c:Nat}{e:TypeId}{l:List Ck}(h:W.ownsRow base e 1 (.slice (some ⟨g,0,none⟩) n c) n (jzl l))(k:Nat):jzt (fun b=>b<W.heap.size) W (some ⟨g,0,none⟩) (jzl (l.take k)):=by
 rcases (jz8 h).1 with h0 | ⟨b,off,hA,hb,hc⟩
 ·(refine .inl ?_;have:l=[]:=List.map_eq_nil_iff.1 h0;rw[this];simp[jzl])
 ·(
 cases hA
 refine .inr ⟨g,0,rfl,hb.2,fun i u hu=>hc i u ?_⟩;unfold jzl at hu ⊢;rw[List.map_take,List.getElem?_take] at hu;split at hu
 ·exact hu
 ·cases hu)
theorem jh2{W:World}{base g n c:Nat}{e:TypeId}{l:List Ck}(h:W.ownsRow base e 1 (.slice (some ⟨g,0,none⟩) n c) n (jzl l))(k:Nat):jzt (fun b=>b<W.heap.size) W (some ⟨g,k,none⟩) (jzl (l.drop k)):=by
 rcases (jz8 h).1 with h0 | ⟨b,off,hA,hb,hc⟩
 ·(refine .inl ?_;have:l=[]:=List.map_eq_nil_iff.1 h0;rw[this];simp[jzl])
 ·(
 cases hA
 refine .inr ⟨g,k,rfl,hb.2,fun i u hu=>?_⟩;have:=hc (k+i) u (by unfold jzl at hu ⊢;rwa [List.map_drop,List.getElem?_drop] at hu);rwa [Nat.zero_add] at this)
structure McM (P:Nat->Prop) (U:World) (ocs:List Ck) (ovs:List Vl) (oc ov:Value) (W:World):Prop where
  bel:Below U.heap.size U W
  q:Blk W U.heap.size 30 #[.int .u64 0,.int .u64 0,.slice none 0 0,oc,ov]
  rc:W.ownsRow (U.heap.size+1) 54 1 oc ocs.length (jzl ocs)
  rv:W.ownsRow (U.heap.size+1) 30 5 ov ovs.length (jzj ovs)
  ne:∀ k,oc.ownBlock=some k->ov.ownBlock≠some k
  kc:∀ k∈ocs,k.Inp P W
  vk:∀ v∈ovs,v.Inp (fun b=>(P b\/U.heap.size<b)/\b<W.heap.size/\some b≠ov.ownBlock) W
section
variable {P:Nat->Prop} {U W W':World} {oc ov:Value} {ocs:List Ck} {ovs:List Vl}
theorem McM.start5{z0 z1 z2 z3 z4:Value}(h:Blk W U.heap.size 30 #[z0,z1,z2,z3,z4])(hb:Below U.heap.size U W):McM P U [] [] (.slice none 0 0) (.slice none 0 0) (jz9 W U.heap.size (.int .u64 0) (.int .u64 0) (.slice none 0 0) (.slice none 0 0) (.slice none 0 0)) :=
  ⟨jzm hb (Nat.le_refl _),jzc h,World.ownsRow_nil _ _ _ _,World.ownsRow_nil _ _ _ _,(fun _ h=>by cases h),(fun _ h=>by cases h),(fun _ h=>by cases h)⟩
theorem McM.later(h:McM P U ocs ovs oc ov W)(hP:∀ k,P k->k<U.heap.size)(hb:Below W.heap.size W W'):McM P U ocs ovs oc ov W' :=
  ⟨h.bel.trans (hb.mono h.bel.size),h.q.below hb,jqw h.rc hb,jqw h.rv hb,h.ne,fun k hk=>(h.kc k hk).keep fun b ct=>hb.block b (ltl (hP b ct) h.bel.size),fun v hv=>((h.vk v hv).keep fun b hP=>hb.block b hP.2.1).mono fun _ hP=>⟨hP.1,ltl hP.2.1 hb.size,hP.2.2⟩⟩
theorem McM.putC{ocs':List Ck}{oc':Value}(h:McM P U ocs ovs oc ov W)(hP:∀ k,P k->k<U.heap.size)(hb:Below W.heap.size W W')(hr:W'.ownsRow W.heap.size 54 1 oc' ocs'.length (jzl ocs'))(hk:∀ k∈ocs',k.Inp P W):McM P U ocs' ovs oc' ov (W'.setCell ⟨U.heap.size,3,none⟩ oc'):=by
 have h2:=h.later hP hb;have lt:=h.q.lt;have hs:=hb.size;have set:∀ b,b≠U.heap.size->(W'.setCell ⟨U.heap.size,3,none⟩ oc').heap[b]?=W'.heap[b]?:=fun b hb=>Below.heap_setCell _ _ _ _ (by simpa using hb)
 have jf:(W'.setCell ⟨U.heap.size,3,none⟩ oc').heap.size=W'.heap.size:=by simp
 refine⟨h2.bel.setCell (Nat.le_refl _) oc',h2.q.set 3 oc',jq6 (jk1 hr (by omega)) fun b hb=>set b ?_,jq6 h2.rv fun b hb=>set b ?_,fun k hk e=>?_,fun k eN=>((hk k eN).keep fun b ct=>?_),fun v hv=>((h2.vk v hv).keep fun b hb=>set b ?_).mono fun b hb=>⟨hb.1,by rw[jf];exact hb.2.1,hb.2.2⟩⟩
 ·have:=(World.ownsRow.lt hr b hb).1;omega
 ·have:=(World.ownsRow.lt h2.rv b hb).1;omega
 ·(have h3:=(World.ownsRow.lt hr k hk).1;have h4:=(World.ownsRow.lt h.rv k e).2;omega)
 ·(have:=hP b ct;rw[set b (by omega)];exact hb.block b (by have:=h.bel.size;omega))
 ·(
 rcases hb.1 with h1 | h1
 ·have:=hP b h1;omega
 ·omega)
theorem McM.putV{ovs':List Vl}{ov':Value}(h:McM P U ocs ovs oc ov W)(hP:∀ k,P k->k<U.heap.size)(hb:Below W.heap.size W W')(hr:W'.ownsRow W.heap.size 30 5 ov' ovs'.length (jzj ovs'))(hk:∀ v∈ovs',v.Inp (fun b=>(P b\/U.heap.size<b)/\b<W.heap.size) W):McM P U ocs ovs' oc ov' (W'.setCell ⟨U.heap.size,4,none⟩ ov'):=by
 have h2:=h.later hP hb;have lt:=h.q.lt;have hs:=hb.size;have set:∀ b,b≠U.heap.size->(W'.setCell ⟨U.heap.size,4,none⟩ ov').heap[b]?=W'.heap[b]?:=fun b hb=>Below.heap_setCell _ _ _ _ (by simpa using hb)
 have jf:(W'.setCell ⟨U.heap.size,4,none⟩ ov').heap.size=W'.heap.size:=by simp
 refine⟨h2.bel.setCell (Nat.le_refl _) ov',h2.q.set 4 ov',jq6 h2.rc fun b hb=>set b ?_,jq6 (jk1 hr (by omega)) fun b hb=>set b ?_,fun k hk e=>?_,fun k eN=>((h2.kc k eN).keep fun b ct=>set b ?_),fun v hv=>((hk v hv).keep fun b ct=>?_).mono fun b ct=>⟨ct.1,by rw[jf];omega,fun e=>?_⟩⟩
 ·have:=(World.ownsRow.lt h2.rc b hb).1;omega
 ·have:=(World.ownsRow.lt hr b hb).1;omega
 ·(have h3:=(World.ownsRow.lt hr k e).1;have h4:=(World.ownsRow.lt h.rc k hk).2;omega)
 ·have:=hP b ct;omega
 ·(rw[set b (by rcases ct.1 with h1 | h1;(have:=hP b h1;omega);omega)];exact hb.block b ct.2)
 ·(have:=(World.ownsRow.lt hr b e.symm).1;omega)
def setW(W:World)(g o:Nat)(v0 v1 v2 v3 v4:Value):World:=((((W.setCell ⟨g,o,none⟩ v0).setCell ⟨g,o+1,none⟩ v1).setCell ⟨g,o+2,none⟩ v2).setCell ⟨g,o+3,none⟩ v3).setCell ⟨g,o+4,none⟩ v4
theorem jv0{g o b:Nat}{v0 v1 v2 v3 v4:Value}(hb:b≠g):(setW W g o v0 v1 v2 v3 v4).heap[b]?=W.heap[b]?:=by
 unfold setW;rw[Below.heap_setCell _ _ _ _ (by simpa using hb),Below.heap_setCell _ _ _ _ (by simpa using hb),Below.heap_setCell _ _ _ _ (by simpa using hb),Below.heap_setCell _ _ _ _ (by simpa using hb),Below.heap_setCell _ _ _ _ (by simpa using hb)]
theorem ju1{g o:Nat}{v0 v1 v2 v3 v4:Value}:(setW W g o v0 v1 v2 v3 v4).heap.size=W.heap.size:=by unfold setW;simp
theorem jf3{z:Vl}:∀ {vs:List Vl} {j:Nat},j<vs.length->jzj (vs.set j z)=(((((jzj vs).set (j*5) (.int .u64 z.n)).set (j*5+1) (.int .u64 z.m)).set (j*5+2) z.s1).set (j*5+3) z.c1).set (j*5+4) z.v1
  | [],j,h=>by simp at h
  | x :: vs,0,_=>rfl
  | x :: vs,j+1,h=>by
    have ih:=jf3 (z:=z) (vs:=vs) (j:=j) (by simpa using h)
    have e:∀ v:Vl,∀ l:List Vl,jzj (v :: l) = .int .u64 v.n :: .int .u64 v.m :: v.s1 :: v.c1 :: v.v1 :: jzj l:=fun _ _=>rfl
    rw[List.set_cons_succ,e,e,ih,show (j+1)*5=j*5+5 by omega]
    rfl
theorem McM.setV{g uc j:Nat}{z:Vl}(h:McM P U ocs ovs oc (.slice (some ⟨g,0,none⟩) ovs.length uc) W)(hP:∀ k,P k->k<U.heap.size)(hj:j<ovs.length)(hz:z.Inp (fun b=>(P b\/U.heap.size<b)/\b<W.heap.size/\b≠g) W):McM P U ocs (ovs.set j z) oc (.slice (some ⟨g,0,none⟩) ovs.length uc) (setW W g (j*5) (.int .u64 z.n) (.int .u64 z.m) z.s1 z.c1 z.v1):=by
 have hg:=World.ownsRow.lt h.rv g rfl;refine⟨?_,(jv0 (by omega)).trans h.q,jq6 h.rc fun b hb=>jv0 fun e=>h.ne b hb (by rw[e];rfl),?_,h.ne,fun k hk=>(h.kc k hk).keep fun b hb=>jv0 (by have:=hP b hb;omega),fun v hv=>?_⟩
 ·(
 unfold setW;have hle:U.heap.size<=g:=by omega
 exact (((((h.bel.setCell hle _).setCell hle _).setCell hle _).setCell hle _).setCell hle _))
 ·(have h0:=(World.ownsRow.stored h.rv (j*5) (.int .u64 z.n)).1;have h1:=(World.ownsRow.stored h0 (j*5+1) (.int .u64 z.m)).1;have h2:=(World.ownsRow.stored h1 (j*5+2) z.s1).1;have h3:=(World.ownsRow.stored h2 (j*5+3) z.c1).1;have h4:=(World.ownsRow.stored h3 (j*5+4) z.v1).1;rw[List.length_set,jf3 hj];exact h4)
 ·(
 rcases List.mem_or_eq_of_mem_set hv with hv | rfl
 ·exact ((h.vk v hv).keep fun b hb=>jv0 fun e=>hb.2.2 (by rw[e];rfl)).mono fun b hb=>⟨hb.1,by rw[ju1];exact hb.2.1,hb.2.2⟩
 ·exact (hz.keep fun b hb=>jv0 hb.2.2).mono fun b hb=>⟨hb.1,by rw[ju1];exact hb.2.1,fun e=>hb.2.2 (Option.some.inj e)⟩)
end
end J5
namespace J5
open S2 (Tr isT)
open V4 (Va isV jqv)
section
variable {M V:Type} {c:M->M->Int} {z:V} {f:V->V->Option V} {P:M->Bool}
theorem jwk{α:Type}{l:List α}{i:Nat}{x:α}(h:l[i]?=some x):l.take (i+1)=l.take i++[x]:=by
 obtain⟨hi,e⟩:=List.getElem?_eq_some_iff.1 h;rw[List.take_succ_eq_append_getElem hi,e]
theorem jvw(hc:Cmp c){l:List (M×V)}(h:Up c l){i:Nat}{x:M×V}(hx:l[i]?=some x):∀ q∈l.take i,q.1≠x.1:=fun q hq=>by
  have h2:Up c (l.take (i+1)):=List.Pairwise.sublist (List.take_sublist _ _) h
  rw[jwk hx] at h2
  exact hc.ne ((List.pairwise_append.1 h2).2.2 q hq x (by simp))
theorem jz5{l:List (M×V)}(h:Up c l)(i:Nat):Up c (l.take i):=List.Pairwise.sublist (List.take_sublist _ _) h
def Fm(c:M->M->Int)(z:V)(P:M->Bool)(a b:List (M×V)):List (M×V×V):=(mix c z a b).filter fun p=>P p.1
theorem jkd(hc:Cmp c){a b:List (M×V)}(ha:Up c a)(hb:Up c b)(q:M×V×V):q∈Fm c z P a b↔jpm z a b q/\P q.1=true:=by
 unfold Fm;rw[List.mem_filter,jgv hc a b ha hb]
theorem jt5(hc:Cmp c){a b:List (M×V)}(ha:Up c a)(hb:Up c b):Up c (Fm c z P a b):=List.Pairwise.filter _ (mix_up hc a b ha hb)
theorem jng{a:List (M×V)}{m:M}{v:V}(q:M×V×V):jpm z (a++[(m,v)]) [] q↔jpm z a [] q\/q=(m,v,z):=by
 obtain⟨q1,q2,q3⟩:=q;unfold jpm;constructor
 ·(
 rintro (⟨_,h⟩ | ⟨h,_,h2⟩ | ⟨_,_,h⟩)
 ·cases h
 ·(
 rcases List.mem_append.1 h with h | h
 ·exact .inl (.inr (.inl ⟨h,fun _ h=>(by cases h),h2⟩))
 ·(have:=List.mem_singleton.1 h;simp only[Prod.mk.injEq] at this h2;exact .inr (by rw[this.1,this.2,h2])))
 ·cases h)
 ·(
 rintro ((⟨_,h⟩ | ⟨h,_,h2⟩ | ⟨_,_,h⟩) | h)
 ·cases h
 ·exact .inr (.inl ⟨List.mem_append.2 (.inl h),fun _ h=>(by cases h),h2⟩)
 ·cases h
 ·(simp only[Prod.mk.injEq] at h;obtain⟨rfl,rfl,rfl⟩:=h;exact .inr (.inl ⟨by simp,fun _ h=>(by cases h),rfl⟩)))
theorem jtm{a b:List (M×V)}{m:M}{v:V}(ha:∀ q∈a,q.1≠m)(q:M×V×V):jpm z a (b++[(m,v)]) q↔jpm z a b q\/q=(m,z,v):=by
 obtain⟨q1,q2,q3⟩:=q;unfold jpm;constructor
 ·(
 rintro (⟨h1,h2⟩ | ⟨h1,h2,h3⟩ | ⟨h1,h2,h3⟩)
 ·(
 rcases List.mem_append.1 h2 with h2 | h2
 ·exact .inl (.inl ⟨h1,h2⟩)
 ·(have:=List.mem_singleton.1 h2;simp only[Prod.mk.injEq] at this;exact absurd this.1 (ha _ h1)))
 ·exact .inl (.inr (.inl ⟨h1,fun r hr=>h2 r (by simp[hr]),h3⟩))
 ·(
 rcases List.mem_append.1 h3 with h3 | h3
 ·exact .inl (.inr (.inr ⟨h1,h2,h3⟩))
 ·(have:=List.mem_singleton.1 h3;simp only[Prod.mk.injEq] at this h2;exact .inr (by rw[this.1,this.2,h2]))))
 ·(
 rintro ((⟨h1,h2⟩ | ⟨h1,h2,h3⟩ | ⟨h1,h2,h3⟩) | h)
 ·exact .inl ⟨h1,List.mem_append.2 (.inl h2)⟩
 ·(
 refine .inr (.inl ⟨h1,fun r hr=>?_,h3⟩);rcases List.mem_append.1 hr with hr | hr
 ·exact h2 r hr
 ·(rw[List.mem_singleton.1 hr];exact fun e=>ha _ h1 e.symm))
 ·exact .inr (.inr ⟨h1,h2,List.mem_append.2 (.inl h3)⟩)
 ·(simp only[Prod.mk.injEq] at h;obtain⟨rfl,rfl,rfl⟩:=h;exact .inr (.inr ⟨ha,rfl,by simp⟩)))
theorem jnh(hc:Cmp c){a b:List (M×V)}{m:M}{u v:V}(hA:Up c a)(ha:(m,u)∈a)(hb:∀ q∈b,q.1≠m)(q:M×V×V):jpm z a (b++[(m,v)]) q↔(q.1≠m/\jpm z a b q)\/q=(m,u,v):=by
 obtain⟨q1,q2,q3⟩:=q;unfold jpm;constructor
 ·(
 rintro (⟨h1,h2⟩ | ⟨h1,h2,h3⟩ | ⟨h1,h2,h3⟩)
 ·(
 rcases List.mem_append.1 h2 with h2 | h2
 ·exact .inl ⟨hb _ h2,.inl ⟨h1,h2⟩⟩
 ·(have:=List.mem_singleton.1 h2;simp only[Prod.mk.injEq] at this;obtain⟨rfl,rfl⟩:=this;have:=jy8 hc hA h1 ha rfl;simp only[Prod.mk.injEq,true_and] at this;exact .inr (by rw[this])))
 ·exact .inl ⟨fun e=>h2 (m,v) (by simp) e.symm,.inr (.inl ⟨h1,fun r hr=>h2 r (by simp[hr]),h3⟩)⟩
 ·(
 rcases List.mem_append.1 h3 with h3 | h3
 ·exact .inl ⟨hb _ h3,.inr (.inr ⟨h1,h2,h3⟩)⟩
 ·(have:=List.mem_singleton.1 h3;simp only[Prod.mk.injEq] at this;exact absurd this.1.symm (h1 _ ha))))
 ·(
 rintro (⟨e,⟨h1,h2⟩ | ⟨h1,h2,h3⟩ | ⟨h1,h2,h3⟩⟩ | h)
 ·exact .inl ⟨h1,List.mem_append.2 (.inl h2)⟩
 ·(
 refine .inr (.inl ⟨h1,fun r hr=>?_,h3⟩);rcases List.mem_append.1 hr with hr | hr
 ·exact h2 r hr
 ·(rw[List.mem_singleton.1 hr];exact fun e2=>e e2.symm))
 ·exact .inr (.inr ⟨h1,h2,List.mem_append.2 (.inl h3)⟩)
 ·(simp only[Prod.mk.injEq] at h;obtain⟨rfl,rfl,rfl⟩:=h;exact .inl ⟨ha,by simp⟩))
structure RcS (c:M->M->Int) (z:V) (f:V->V->Option V) (P:M->Bool) (A B:List (M×V)) (i:Nat) (r:List (M×V)) (ok:Bool):Prop where
  marks:r.map (·.1)=(Fm c z P (A.take i) (B.take (i - A.length))).map (·.1)
  good:ok=true->jxf f (Fm c z P (A.take i) (B.take (i - A.length)))=some r
  bad:ok=false->jxf f (Fm c z P (A.take i) (B.take (i - A.length)))=none
  one:∀ p∈r,∀ u,(p.1,u,z)∈Fm c z P (A.take i) (B.take (i - A.length))->p.2=u
variable {A B:List (M×V)}
theorem RcS.start:RcS c z f P A B 0 [] true:=by
 have e:Fm c z P (A.take 0) (B.take (0 - A.length))=[]:=by (unfold Fm;rw[List.take_zero,Nat.zero_sub,List.take_zero,jdw];rfl)
 refine⟨(by rw[e];rfl),fun _=>(by rw[e];rfl),fun h=>(by cases h),fun _ h=>(by cases h)⟩
theorem jmt{i:Nat}{m:M}{v:V}(h:(A++B)[i]?=some (m,v)):(i<A.length/\A[i]?=some (m,v)/\A.take (i+1)=A.take i++[(m,v)]/\B.take (i+1 - A.length)=[]/\B.take (i - A.length)=[])\/(A.length<=i/\B[i - A.length]?=some (m,v)/\A.take (i+1)=A/\A.take i=A/\B.take (i+1 - A.length)=B.take (i - A.length)++[(m,v)]):=by
 by_cases hi:i<A.length
 ·(rw[List.getElem?_append_left hi] at h;exact .inl ⟨hi,h,jwk h,by rw[show i+1 - A.length=0 by omega];rfl,by rw[show i - A.length=0 by omega];rfl⟩)
 ·(
 have nU:A.length<=i:=by omega
 rw[List.getElem?_append_right nU] at h;exact .inr ⟨nU,h,List.take_of_length_le (by omega),List.take_of_length_le nU,by rw[show i+1 - A.length=(i - A.length)+1 by omega];exact jwk h⟩)
theorem RcS.skip(hc:Cmp c)(hA:Up c A)(hB:Up c B){i:Nat}{r:List (M×V)}{ok:Bool}{m:M}{v:V}(h:RcS c z f P A B i r ok)(he:(A++B)[i]?=some (m,v))(hp:P m=false):RcS c z f P A B (i+1) r ok:=by
 have e:Fm c z P (A.take (i+1)) (B.take (i+1 - A.length))=Fm c z P (A.take i) (B.take (i - A.length)):=by (
 refine jy9 hc (jt5 hc (jz5 hA _) (jz5 hB _)) (jt5 hc (jz5 hA _) (jz5 hB _)) fun q=>?_
 rw[jkd hc (jz5 hA _) (jz5 hB _),jkd hc (jz5 hA _) (jz5 hB _)];rcases jmt he with ⟨_,_,e1,e2,e3⟩ | ⟨_,hb,e1,e2,e3⟩
 ·(
 rw[e1,e2,e3,jng];constructor
 ·(
 rintro ⟨h | rfl,h2⟩
 ·exact⟨h,h2⟩
 ·rw[hp] at h2;cases h2)
 ·rintro ⟨h,h2⟩;exact⟨.inl h,h2⟩)
 ·(
 rw[e1,e2,e3];by_cases hm:∃ q∈A,q.1=m
 ·(
 obtain⟨⟨m',u⟩,hq,rfl⟩:=hm;rw[jnh hc hA hq (jvw hc hB hb)];constructor
 ·(
 rintro ⟨h | rfl,h2⟩
 ·exact⟨h.2,h2⟩
 ·rw[hp] at h2;cases h2)
 ·(rintro ⟨h,h2⟩;refine⟨.inl ⟨fun e=>?_,h⟩,h2⟩;rw[e,hp] at h2;cases h2))
 ·(
 rw[jtm fun q hq e=>hm ⟨q,hq,e⟩];constructor
 ·(
 rintro ⟨h | rfl,h2⟩
 ·exact⟨h,h2⟩
 ·rw[hp] at h2;cases h2)
 ·rintro ⟨h,h2⟩;exact⟨.inl h,h2⟩)))
 exact⟨by rw[e];exact h.marks,by rw[e];exact h.good,by rw[e];exact h.bad,by rw[e];exact h.one⟩
theorem RcS.put(hc:Cmp c)(hA:Up c A)(hB:Up c B)(fA:∀ p∈A,f p.2 z=some p.2)(fB:∀ p∈B,f z p.2=some p.2){i:Nat}{r:List (M×V)}{ok:Bool}{m:M}{v:V}(h:RcS c z f P A B i r ok)(he:(A++B)[i]?=some (m,v))(hp:P m=true)(hn:∀ p∈r,p.1≠m):RcS c z f P A B (i+1) (jcp c (m,v) r) ok:=by
 have u1:=jt5 (z:=z) (P:=P) hc (jz5 hA i) (jz5 hB (i - A.length));have u2:=jt5 (z:=z) (P:=P) hc (jz5 hA (i+1)) (jz5 hB (i+1 - A.length));have hne:∀ q∈Fm c z P (A.take i) (B.take (i - A.length)),q.1≠m:=fun q hq e=>by (
 have:m∈r.map (·.1):=by rw[h.marks];exact List.mem_map.2 ⟨q,hq,e⟩
 obtain⟨p,dC,fT⟩:=List.mem_map.1 this;exact hn p dC fT)
 obtain⟨x,y,dz,hm,hs⟩:∃ x y,f x y=some v/\(∀ q,q∈Fm c z P (A.take (i+1)) (B.take (i+1 - A.length))↔q∈Fm c z P (A.take i) (B.take (i - A.length))\/q=(m,x,y))/\(y=z->x=v\/(x=z/\v=z)):=by (
 rcases jmt he with ⟨_,ha,e1,e2,e3⟩ | ⟨_,hb,e1,e2,e3⟩
 ·(
 refine⟨v,z,fA _ (List.mem_of_getElem? ha),fun q=>?_,fun _ => .inl rfl⟩;rw[jkd hc (jz5 hA _) (jz5 hB _),jkd hc (jz5 hA _) (jz5 hB _),e1,e2,e3,jng];constructor
 ·(
 rintro ⟨h | rfl,h2⟩
 ·exact .inl ⟨h,h2⟩
 ·exact .inr rfl)
 ·(
 rintro (⟨h,h2⟩ | rfl)
 ·exact⟨.inl h,h2⟩
 ·exact⟨.inr rfl,hp⟩))
 ·(
 have hmA:∀ q∈A,q.1≠m:=fun q hq e=>by (subst e;refine hne (q.1,q.2,z) ((jkd hc (jz5 hA _) (jz5 hB _) _).2 ⟨.inr (.inl ⟨by rw[e2];exact hq,fun r hr=>jvw hc hB hb r hr,rfl⟩),hp⟩) rfl)
 refine⟨z,v,fB _ (List.mem_of_getElem? hb),fun q=>?_,fun e => .inr ⟨rfl,e⟩⟩;rw[jkd hc (jz5 hA _) (jz5 hB _),jkd hc (jz5 hA _) (jz5 hB _),e1,e2,e3,jtm hmA];constructor
 ·(
 rintro ⟨h | rfl,h2⟩
 ·exact .inl ⟨h,h2⟩
 ·exact .inr rfl)
 ·(
 rintro (⟨h,h2⟩ | rfl)
 ·exact⟨.inl h,h2⟩
 ·exact⟨.inr rfl,hp⟩)))
 obtain⟨k1,k2,k3⟩:=st_new hc u1 u2 hm hne dz;refine⟨?_,fun ho=>k2 r (h.good ho),fun ho=>k3 (h.bad ho),fun p dC u hu=>?_⟩
 ·(rw[k1];exact jfx (V':=V×V) (p:=(m,v)) (p':=(m,x,y)) rfl h.marks)
 ·(
 rcases (hm _).1 hu with hu | hu
 ·(
 rcases jj9.1 dC with rfl | dC
 ·exact absurd rfl (hne _ hu)
 ·exact h.one p dC u hu)
 ·(
 simp only[Prod.mk.injEq] at hu;obtain⟨e1,e2,e3⟩:=hu;rcases jj9.1 dC with rfl | dC
 ·(
 rcases hs e3.symm with h5 | ⟨h5,h6⟩
 ·rw[e2,h5]
 ·rw[e2,h5,h6])
 ·exact absurd e1 (hn p dC)))
theorem RcS.twin(hc:Cmp c)(hA:Up c A)(hB:Up c B)(fA:∀ p∈A,f p.2 z=some p.2){i:Nat}{r:List (M×V)}{ok:Bool}{m:M}{v w:V}(h:RcS c z f P A B i r ok)(he:(A++B)[i]?=some (m,v))(hp:P m=true){k:Nat}(hk:r[k]?=some (m,w)):(m,w)∈A/\(m,v)∈B/\(∀ w',f w v=some w'->RcS c z f P A B (i+1) (r.set k (m,w')) ok)/\(f w v=none->∀ w',RcS c z f P A B (i+1) (r.set k (m,w')) false):=by
 have u1:=jt5 (z:=z) (P:=P) hc (jz5 hA i) (jz5 hB (i - A.length));have u2:=jt5 (z:=z) (P:=P) hc (jz5 hA (i+1)) (jz5 hB (i+1 - A.length));have dn:=List.mem_of_getElem? hk;obtain⟨q,hq,jh⟩:∃ q∈Fm c z P (A.take i) (B.take (i - A.length)),q.1=m:=by (have:m∈r.map (·.1):=List.mem_map.2 ⟨_,dn,rfl⟩;rw[h.marks] at this;obtain⟨q,hq,e⟩:=List.mem_map.1 this;exact⟨q,hq,e⟩)
 rcases jmt he with ⟨_,ha,e1,e2,e3⟩ | ⟨_,hb,e1,e2,e3⟩
 ·(
 exfalso
 rw[jkd hc (jz5 hA _) (jz5 hB _),e3] at hq;rcases hq.1 with ⟨_,h2⟩ | ⟨h2,_⟩ | ⟨_,_,h2⟩
 ·cases h2
 ·exact jvw hc hA ha _ h2 jh
 ·cases h2)
 ·(
 rw[jkd hc (jz5 hA _) (jz5 hB _),e2] at hq;have qw:=jvw hc hB hb;obtain⟨u,hu,hqz⟩:∃ u,(m,u)∈A/\q=(m,u,z):=by (
 obtain⟨q1,q2,q3⟩:=q;simp only at jh;subst jh;rcases hq.1 with ⟨_,h2⟩ | ⟨h2,_,h3⟩ | ⟨_,_,h2⟩
 ·exact (qw _ h2 rfl).elim
 ·simp only at h3;exact⟨q2,h2,by rw[h3]⟩
 ·exact (qw _ h2 rfl).elim)
 subst hqz;have h0:(m,u,z)∈Fm c z P (A.take i) (B.take (i - A.length)):=(jkd hc (jz5 hA _) (jz5 hB _) _).2 (by rw[e2];exact hq);have hm:∀ q,q∈Fm c z P (A.take (i+1)) (B.take (i+1 - A.length))↔(q.1≠m/\q∈Fm c z P (A.take i) (B.take (i - A.length)))\/q=(m,u,v):=fun q=>by (
 rw[jkd hc (jz5 hA _) (jz5 hB _),jkd hc (jz5 hA _) (jz5 hB _),e1,e2,e3,jnh hc hA hu qw];constructor
 ·(
 rintro ⟨⟨h1,h2⟩ | rfl,h3⟩
 ·exact .inl ⟨h1,h2,h3⟩
 ·exact .inr rfl)
 ·(
 rintro (⟨h1,h2,h3⟩ | rfl)
 ·exact⟨.inl ⟨h1,h2⟩,h3⟩
 ·exact⟨.inr rfl,hp⟩))
 have hwu:w=u:=h.one _ dn u h0;subst hwu;obtain⟨k1,k2,k3⟩:=st_twin hc u1 u2 hm h0 (fA _ hu) h.marks hk;have mO:k<r.length:=(List.getElem?_eq_some_iff.1 hk).1;have one:∀ w',(v=z->w'=w\/f w v=none)->f w v≠none\/v≠z\/w'=w->∀ p∈r.set k (m,w'),∀ u',(p.1,u',z)∈Fm c z P (A.take (i+1)) (B.take (i+1 - A.length))->p.2=u':=fun w' ek db p dC u' pD=>by (
 rcases (hm _).1 pD with ⟨hne,pD⟩ | pD
 ·(
 rcases List.mem_or_eq_of_mem_set dC with dC | dC
 ·exact h.one p dC u' pD
 ·rw[dC] at hne;exact absurd rfl hne)
 ·(
 simp only[Prod.mk.injEq] at pD;obtain⟨e4,e5,e6⟩:=pD;have hup:Up c (r.set k (m,w')):=jx6 (k1 w') u2;have bx:(m,w')∈r.set k (m,w'):=List.mem_of_getElem? (i:=k) (by rw[List.getElem?_set_self mO]);have:=jy8 hc hup dC bx e4;rw[this,e5];show w'=w
 rcases ek e6.symm with h7 | h7
 ·exact h7
 ·(
 rcases db with h8 | h8 | h8
 ·exact absurd h7 h8
 ·exact absurd e6.symm h8
 ·exact h8)))
 refine⟨hu,List.mem_of_getElem? hb,fun w' tu=>?_,fun hn w'=>?_⟩
 ·(
 refine⟨k1 w',fun ho=>(k2 (h.good ho)).2.1 w' tu,fun ho=>k3 (h.bad ho),one w' (fun e=>?_) ?_⟩
 ·(
 left
 rw[e,fA _ hu] at tu;exact (Option.some.inj tu).symm)
 ·left;rw[tu];simp)
 ·(
 have hvz:v≠z:=fun e=>by rw[e,fA _ hu] at hn;cases hn
 refine⟨k1 w',fun ho=>(by cases ho),fun _=>?_,one w' (fun e=>absurd e hvz) (.inr (.inl hvz))⟩;cases ho:ok with
 | true=>exact (k2 (h.good ho)).2.2 hn
 | false=>exact k3 (h.bad ho)))
theorem RcS.done{n:Nat}{r:List (M×V)}{ok:Bool}(h:RcS c z f P A B n r ok)(hn:A.length+B.length<=n):jwy f (Fm c z P A B)=if ok=true/\r.length<=40 then some r else none:=by
 have eA:A.take n=A:=List.take_of_length_le (by omega);have eB:B.take (n - A.length)=B:=List.take_of_length_le (by omega);have h1:=h.marks;have h2:=h.good;have h3:=h.bad;rw[eA,eB] at h1 h2 h3;have hl:r.length=(Fm c z P A B).length:=by have:=congrArg List.length h1;simpa using this
 unfold jwy;rw[<- hl];by_cases fY:40<r.length
 ·rw[if_pos fY,if_neg (by omega)]
 ·(
 rw[if_neg fY];cases ok with
 | true=>rw[h2 rfl,if_pos ⟨rfl,by omega⟩]
 | false=>rw[h3 rfl,if_neg (by simp)])
end
end J5
namespace J5
open C3 (Tk isC jxt)
open S2 (Tr isT)
open V4 (Va Vl Ck isV jqv ApR jzt jzl jzj)
structure CauseM (t:Tr) (x y:Va) (o:Option Va):Prop where
  ua:Up jkv (x.c.zip x.v)
  ub:Up jkv (y.c.zip y.v)
  fa:∀ p∈x.c.zip x.v,jzp t p.2 .zero=some p.2
  fb:∀ p∈y.c.zip y.v,jzp t .zero p.2=some p.2
  ia:∀ p∈x.c.zip x.v,isV t p.2=true
  ib:∀ p∈y.c.zip y.v,isV t p.2=true
  o:o=(jwy (jzp t) (Fm jkv .zero (fun m=>!jw1 m (x.c++y.c)) (x.c.zip x.v) (y.c.zip y.v))).map fun l => .mk 0 0 [] (l.map (·.1)) (l.map (·.2))
theorem jrp{t:Tr}{x y:Va}(ht:isT 15 t=true)(vx:isV (.mk 8 [t]) x=true)(vy:isV (.mk 8 [t]) y=true)(nx:Nn x)(ny:Nn y):CauseM t x y (jwu (jzp t) x y):=by
 obtain⟨s,v,rfl,a2,_,a1,_,a5⟩:=jq1.1 vx;obtain⟨s',v',rfl,b2,_,b1,_,b5⟩:=jq1.1 vy;exact⟨jc5 a1 a2,jc5 b1 b2,fun p hp=>(jjs 15 t (by decide) ht _ (a5 _ (List.of_mem_zip hp).2) (jy7 nx.out.2.2.2 hp)).1,fun p hp=>(jjs 15 t (by decide) ht _ (b5 _ (List.of_mem_zip hp).2) (jy7 ny.out.2.2.2 hp)).2,fun p hp=>a5 _ (List.of_mem_zip hp).2,fun p hp=>b5 _ (List.of_mem_zip hp).2,rfl⟩
theorem jh1{P:Nat->Prop}{w:World}{n m:Int}{sA:Option Addr}{sc:Nat}{ss:List Str}{cA:Option Addr}{cc:Nat}{cs:List Ck}{vA:Option Addr}{vc:Nat}{vs:List Vl}(h:(Vl.mk n m sA sc ss cA cc cs vA vc vs).Inp P w):jzt P w cA (jzl cs)/\jzt P w vA (jzj vs)/\(∀ k∈cs,k.Inp P w)/\∀ v∈vs,v.Inp P w:=by
 cases h with | mk _ _ _ _ _ _ _ _ _ _ _ _ _ _ _ _ h1 _ h2 h3 _ h4=>exact⟨h1,h3,h2,h4⟩
theorem jty{α:Type}{l:List α}{k:Nat}{x:α}(h:l[k]?=some x)(p:α->Bool):(l.take (k+1)).any p=((l.take k).any p || p x):=by
 rw[jwk h,List.any_append];simp
theorem jr0{α β:Type}:∀ {a:List α} {b:List β} {j:Nat} {m:α} {v:β},a[j]?=some m->(a.zip b).set j (m,v)=a.zip (b.set j v)
  | [],_,_,_,_,h=>by simp at h
  | _ :: _,[],_,_,_,_=>rfl
  | x :: a,y :: b,0,m,v,h=>by
    have:x=m:=by simpa using h
    subst this;rfl
  | x :: a,y :: b,j+1,m,v,h=>by
    have ih:=jr0 (b:=b) (v:=v) (show a[j]?=some m by simpa using h)
    rw[List.zip_cons_cons,List.set_cons_succ,List.set_cons_succ,List.zip_cons_cons,ih]
theorem jcl{M V:Type}{c:M->M->Int}{z:V}{P:M->Bool}{A B:List (M×V)}{i:Nat}(_ha:Up c A)(_hb:Up c B):((Fm c z P (A.take i) (B.take (i - A.length))).map (·.1)).length<=A.length+B.length:=by
 rw[List.length_map];unfold Fm;refine leT (List.length_filter_le _ _) (leT (mix_len c z _ _) ?_);have h1:(A.take i).length<=A.length:=by rw[List.length_take];omega
 have h2:(B.take (i - A.length)).length<=B.length:=by rw[List.length_take];omega
 omega
theorem beq_dec(q r:Int):(q == r)=decide (q=r):=by
 by_cases h:q=r
 ·subst h;simp
 ·rw[decide_eq_false h];exact beq_eq_false_iff_ne.2 h
end J5
namespace J5
open Go.RowKit Go.Shelf
def jb4(md:Region.Mode)(ops:Array Oper)(D:Nat->Bool)(i:Nat):Bool :=
  (List.range ops.size).all fun j=>!D j || match ops[j]? with
    | some o=>o.after.any fun e=>Region.binds md e && (e.on == i || D e.on)
    | none=>true
theorem jua{md:Region.Mode}{ops:Array Oper}{D:Nat->Bool}{i:Nat}(h:jb4 md ops D i=true){j:Nat}{o:Oper}(hj:ops[j]?=some o)(hl:D j=true):∃ e∈o.after,Region.binds md e=true/\(e.on=i\/D e.on=true):=by
 unfold jb4 at h;have hlt:j<ops.size:=(Array.getElem?_eq_some_iff.1 hj).1;have:=List.all_eq_true.1 h j (List.mem_range.2 hlt);rw[hl,hj] at this;simp only[Bool.not_true,Bool.false_or] at this;obtain⟨x,hx,he⟩:=Array.any_eq_true.1 this;simp only[Bool.and_eq_true,Bool.or_eq_true,beq_iff_eq] at he;exact⟨_,Array.getElem_mem hx,he.1,he.2⟩
theorem jpg{D:Nat->Bool}{listed:Array Bool}{k:Nat}(h1:D k=true)(h2:listed.getD k false=true):jqs D listed=true:=by
 have hk:k<listed.size:=by (
 rcases Nat.lt_or_ge k listed.size with h | h
 ·exact h
 ·simp[Array.getElem?_eq_none h] at h2)
 exact List.any_eq_true.2 ⟨k,List.mem_range.2 hk,by rw[h1,h2];rfl⟩
theorem jln{D late:Nat->Bool}{listed:Array Bool}(hD:∀ j,late j=true->D j=true)(h:jqs D listed=false):jqs late listed=false:=by
 cases hl:jqs late listed with
 | false=>rfl
 | true=>(obtain⟨k,_,hk⟩:=List.any_eq_true.1 hl;rw[Bool.and_eq_true] at hk;rw[jpg (hD k hk.1) hk.2] at h;cases h)
section
variable {P:Program} {ops:Array Oper} {Q:Exit->Act->World->Prop} {md:Region.Mode} {late:Nat->Bool} {S T:World->Prop}
theorem jma{i:Nat}{oi:Oper}{v:Value}(D:Nat->Bool)(hi:ops[i]?=some oi)(jt:∀ (j:Nat) (o:Oper) cs b,ops[j]?=some o->o.op ≠ .select cs b)(hQ:∀ c a w,Q (.panic c) (a.put oi.dst v) w->Q (.panic c) a w)(hle:D i=false)(hD:∀ j,late j=true->D j=true)(hw:jb4 md ops D i=true):∀ (fuel:Nat) (listed:Array Bool) (a:Act) (w:World),(∀ (j:Nat) (oj:Oper),ops[j]?=some oj->j≠i->listed.getD j true=false->(∀ e∈oj.after,Region.binds md e=true->e.on≠i)->oi.apart ops oj=true)->i∈Region.ready md ops listed->jqs D listed=false->YieldsIf P ops S oi v a->T w->S w->jqu P md ops Q late S T fuel (listed.setIfInBounds i true) (a.put oi.dst v) w->jqu P md ops Q late S T (fuel+1) listed a w:=by
 intro fuel;induction fuel with
 | zero=>(
 intro listed a w _ hr _ hy hT hS H;refine⟨fun h=>(by rw[h] at hr;cases hr),fun j hj=>?_⟩;by_cases fp:j=i
 ·subst fp;exact hy.wpOp hi hS ⟨⟨hT,fun _=>hS⟩,H⟩
 ·(have:=ready_mono hj fp;rw[H.1] at this;cases this))
 | succ fuel ih=>(
 intro listed a w fH hr jR hy hT hS H;refine⟨fun h=>(by rw[h] at hr;cases hr),fun j hj=>?_⟩;by_cases fp:j=i
 ·subst fp;exact hy.wpOp hi hS ⟨⟨hT,fun _=>hS⟩,H⟩
 ·(
 have h1:=H.2 j (ready_mono hj fp);obtain⟨jD,oj,lK,bu⟩:=mem_ready.1 hj;have jZ:=jgc hr bu;have lN:D j=false:=by (
 cases hl:D j with
 | false=>rfl
 | true=>(
 obtain⟨e,he,hb,ho | ho⟩:=jua hw lK hl
 ·exact absurd ho (jZ e he hb)
 ·rw[jpg ho (bu e he hb)] at jR;cases jR))
 have h2:=wpOp_putIf lK (fH j oj lK fp jD jZ) (fun cs b=>jt i oi cs b hi) (fun cs b=>jt j oj cs b lK) hQ hy h1;refine wpOp_mono (fun a' w' h3=>?_) h2;have mJ:=jj2 lN jR;have qu:S w':=h3.2.1.2 (by rw[Array.setIfInBounds_comm _ _ (Ne.symm fp)];exact jln hD (jj2 hle mJ));refine⟨⟨h3.2.1.1,fun _=>qu⟩,ih (listed.setIfInBounds j true) a' w' (fun k ok hk lj pC mH=>?_) (ready_mono hr (Ne.symm fp)) mJ h3.1 h3.2.1.1 qu ?_⟩
 ·(
 refine fH k ok hk lj ?_ mH;by_cases qg:j=k
 ·subst qg;exact jD
 ·rw[getD_set_ne true qg] at pC;exact pC)
 ·(rw[Array.setIfInBounds_comm _ _ fp];exact h3.2.2)))
theorem jkh(D:Nat->Bool)(i d:Nat){oi:Oper}{v:Value}{fuel:Nat}{listed:Array Bool}{l:List Value}{df:List Deferred}{w:World}(hi:ops[i]?=some oi)(hd:oi.dst=some d)(hs:Region.noSelect ops=true)(hf:Region.free md ops listed i=true)(hr:(Region.ready md ops listed).contains i=true)(hle:D i=false)(hD:∀ j,late j=true->D j=true)(hw:jb4 md ops D i=true)(jR:jqs D listed=false)(hQ:∀ c a w,Q (.panic c) (Act.put a (some d) v) w->Q (.panic c) a w)(hy:YieldsIf P ops S oi v ⟨l.toArray,df⟩)(hT:T w)(hS:S w)(h:jqu P md ops Q late S T fuel (listed.setIfInBounds i true) ⟨(l.set d v).toArray,df⟩ w):jqu P md ops Q late S T (fuel+1) listed ⟨l.toArray,df⟩ w:=by
 refine jma D hi (Region.noSelect_spec hs) (by rw[hd];exact hQ) hle hD hw fuel listed ⟨l.toArray,df⟩ w (Region.free_spec hi hf) (by simpa using hr) jR hy hT hS ?_;rw[hd];simpa[Act.put] using h
end
end J5
namespace J5
open Go.RowKit Go.Shelf
theorem jx5{P:Program}{Q:Exit->Act->World->Prop}{ops:Array Oper}{id:Nat}{a:Act}{w:World}(late:Nat->Bool)(S T:World->Prop)(hm:P.follows .mixedOrders=true)
    (h:jqu P .any ops Q late S T ops.size (Array.replicate ops.size false) a w.drew):(Code.region id ops true).wp P Q a w:=wp_region_any hm (jyj _ _ _ _ h)
end J5
namespace J5
open Go.RowKit Go.Shelf
open C3 (jzf)
open V4 (Va Vl Ck jzl jzj)
theorem ju5{W:World}{base:Nat}{e:TypeId}{size n c:Nat}{A:Option Addr}{xs:List Value}(h:W.ownsRow base e size (.slice A n c) n xs):(A=none/\n=0/\c=0)\/∃ g,A=some ⟨g,0,none⟩:=by
 rcases h.2 with ⟨h1,h2⟩ | ⟨g,cap,cur,hv,_⟩
 ·simp only[Value.slice.injEq] at h1;exact .inl ⟨h1.1,h2,h1.2.2⟩
 ·simp only[Value.slice.injEq] at hv;exact .inr ⟨g,hv.1⟩
theorem jvo:∀ (l:List Vl) (k:Nat),jzj (l.take k)=(jzj l).take (k*5)
  | [],k=>by simp[jzj]
  | x :: l,0=>rfl
  | x :: l,k+1=>by
    have e:∀ v:Vl,∀ l:List Vl,jzj (v :: l) = .int .u64 v.n :: .int .u64 v.m :: v.s1 :: v.c1 :: v.v1 :: jzj l:=fun _ _=>rfl
    rw[List.take_succ_cons,e,e,jvo l k,show (k+1)*5=k*5+5 by omega]
    rfl
theorem jvp:∀ (l:List Vl) (k:Nat),jzj (l.drop k)=(jzj l).drop (k*5)
  | [],k=>by simp[jzj]
  | x :: l,0=>rfl
  | x :: l,k+1=>by
    have e:∀ v:Vl,∀ l:List Vl,jzj (v :: l) = .int .u64 v.n :: .int .u64 v.m :: v.s1 :: v.c1 :: v.v1 :: jzj l:=fun _ _=>rfl
    rw[List.drop_succ_cons,e,jvp l k,show (k+1)*5=k*5+5 by omega]
    rfl
theorem jjt(l:List Vl)(k:Nat)(v:Vl):jzj (l.take k)++[.int .u64 v.n,.int .u64 v.m,v.s1,v.c1,v.v1]++jzj (l.drop k)=jzj (l.take k++v :: l.drop k):=by
 rw[V4.jxb,List.append_assoc];rfl
theorem jfv{W:World}{base g n c:Nat}{e:TypeId}{l:List Vl}(h:W.ownsRow base e 5 (.slice (some ⟨g,0,none⟩) n c) n (jzj l))(k:Nat):V4.jzt (fun b=>b<W.heap.size) W (some ⟨g,0,none⟩) (jzj (l.take k)):=by
 rcases (jz8 h).1 with h0 | ⟨b,off,hA,hb,hc⟩
 ·(refine .inl ?_;rw[jvo,h0,List.take_nil])
 ·(
 cases hA
 refine .inr ⟨g,0,rfl,hb.2,fun i u hu=>hc i u ?_⟩;rw[jvo,List.getElem?_take] at hu;split at hu
 ·exact hu
 ·cases hu)
theorem jo5{W:World}{base g n c:Nat}{e:TypeId}{l:List Vl}(h:W.ownsRow base e 5 (.slice (some ⟨g,0,none⟩) n c) n (jzj l))(k:Nat):V4.jzt (fun b=>b<W.heap.size) W (some ⟨g,k*5,none⟩) (jzj (l.drop k)):=by
 rcases (jz8 h).1 with h0 | ⟨b,off,hA,hb,hc⟩
 ·(refine .inl ?_;rw[jvp,h0,List.drop_nil])
 ·(
 cases hA
 refine .inr ⟨g,k*5,rfl,hb.2,fun i u hu=>?_⟩;have:=hc (k*5+i) u (by rwa [jvp,List.getElem?_drop] at hu);rwa [Nat.zero_add] at this)
section
variable {P:Nat->Prop} {U W W':World} {oc ov:Value} {ocs:List Ck} {ovs:List Vl}
theorem jm4{α:Type}{l:List α}{k:Nat}{x:α}(hk:k<=l.length):(l.take k++x :: l.drop k).length=l.length+1:=by
 simp only[List.length_append,List.length_take,List.length_cons,List.length_drop];omega
theorem jne{α:Type}{l:List α}{k:Nat}{x y:α}(h:y∈l.take k++x :: l.drop k):y=x\/y∈l:=by
 rcases List.mem_append.1 h with h | h
 ·exact .inr (List.mem_of_mem_take h)
 ·(
 rcases List.mem_cons.1 h with h | h
 ·exact .inl h
 ·exact .inr (List.mem_of_mem_drop h))
theorem McM.insC{k:Nat}{x:Ck}{oc':Value}(h:McM P U ocs ovs oc ov W)(hP:∀ k,P k->k<U.heap.size)(hb:Below W.heap.size W W')(hk:k<=ocs.length)(hr:W'.ownsRow W.heap.size 54 1 oc' (ocs.length+1) (jzl (ocs.take k++x :: ocs.drop k)))(hx:x.Inp P W):McM P U (ocs.take k++x :: ocs.drop k) ovs oc' ov (W'.setCell ⟨U.heap.size,3,none⟩ oc') :=
  h.putC hP hb (by rw[jm4 hk];exact hr) fun y hy=>by
    rcases jne hy with rfl | hy
    · exact hx
    · exact h.kc y hy
theorem McM.insV{k:Nat}{x:Vl}{ov':Value}(h:McM P U ocs ovs oc ov W)(hP:∀ k,P k->k<U.heap.size)(hb:Below W.heap.size W W')(hk:k<=ovs.length)(hr:W'.ownsRow W.heap.size 30 5 ov' (ovs.length+1) (jzj (ovs.take k++x :: ovs.drop k)))(hx:x.Inp (fun b=>(P b\/U.heap.size<b)/\b<W.heap.size) W):McM P U ocs (ovs.take k++x :: ovs.drop k) oc ov' (W'.setCell ⟨U.heap.size,4,none⟩ ov') :=
  h.putV hP hb (by rw[jm4 hk];exact hr) fun y hy=>by
    rcases jne hy with rfl | hy
    · exact hx
    · exact (h.vk y hy).mono fun _ hb=>⟨hb.1,hb.2.1⟩
end
end J5
namespace J5
open Go.RowKit Go.Shelf
open C3 (Tk)
open V4 (Va Vl Ck)
theorem jf9{α β:Type}:∀ (a:List α) (b:List β) (k:Nat),(a.zip b).take k=(a.take k).zip (b.take k)
  | [],b,k=>by simp
  | x :: a,[],k=>by simp
  | x :: a,y :: b,0=>rfl
  | x :: a,y :: b,k+1=>by simp[jf9 a b k]
theorem jlo{α β:Type}:∀ (a:List α) (b:List β) (k:Nat),(a.zip b).drop k=(a.drop k).zip (b.drop k)
  | [],b,k=>by simp
  | x :: a,[],k=>by simp
  | x :: a,y :: b,0=>rfl
  | x :: a,y :: b,k+1=>by simp[jlo a b k]
theorem put_at{f:Va->Va->Option Va}{PP:List Tk->Bool}{AA BB:List (List Tk×Va)}{i k:Nat}{ok:Bool}{ocs:List Ck}{ovs:List Vl}{ck:Ck}{vi:Vl}(h:RcS jkv Va.zero f PP AA BB i ((ocs.map Ck.l).zip (ovs.map Vl.er)) ok)(uA:Up jkv AA)(uB:Up jkv BB)(fA:∀ p∈AA,f p.2 .zero=some p.2)(fB:∀ p∈BB,f .zero p.2=some p.2)(aq:ocs.length=ovs.length)(hk:k<=ocs.length)(h1:∀ o∈ocs.take k,V4.jz2 o.l ck.l=true)(h2:∀ o,ocs[k]?=some o->V4.jz2 o.l ck.l=false)(jR:∀ o∈ocs,o.l≠ck.l)(he:(AA++BB)[i]?=some (ck.l,vi.er))(hp:PP ck.l=true):RcS jkv Va.zero f PP AA BB (i+1) (((ocs.take k++ck :: ocs.drop k).map Ck.l).zip ((ovs.take k++vi :: ovs.drop k).map Vl.er)) ok:=by
 have mem:∀ {l:List Ck} {v:List Va} {p:List Tk×Va},p∈(l.map Ck.l).zip v->∃ o∈l,o.l=p.1:=fun {l v p} hp=>by (obtain⟨a,b⟩:=p;obtain⟨o,ho,e⟩:=List.mem_map.1 (List.of_mem_zip hp).1;exact⟨o,ho,e⟩)
 have hput:=h.put jy4 uA uB fA fB he hp fun p hp=>by (obtain⟨o,ho,e⟩:=mem hp;rw[<- e];exact jR o ho)
 have e1:((ocs.take k++ck :: ocs.drop k).map Ck.l).zip ((ovs.take k++vi :: ovs.drop k).map Vl.er)=((ocs.map Ck.l).zip (ovs.map Vl.er)).take k++(ck.l,vi.er) :: ((ocs.map Ck.l).zip (ovs.map Vl.er)).drop k:=by rw[List.map_append,List.map_append,List.map_cons,List.map_cons,List.zip_append (by simp[aq]),List.zip_cons_cons,jf9,jlo,List.map_take,List.map_take,List.map_drop,List.map_drop]
 rw[e1,<- jnf (c:=jkv) ?_ ?_ ?_]
 ·exact hput
 ·(intro q hq;rw[jf9,<- List.map_take] at hq;obtain⟨o,ho,e⟩:=mem hq;rw[<- e];exact jvn.2 (h1 o ho))
 ·(
 intro q hq hlt;obtain⟨a,b⟩:=q;rw[List.getElem?_zip_eq_some] at hq;have h3:=hq.1;rw[List.getElem?_map] at h3;cases h4:ocs[k]? with
 | none=>rw[h4] at h3;cases h3
 | some o=>(rw[h4] at h3;have h5:=h2 o h4;have h6:o.l=a:=Option.some.inj h3;rw[<- h6] at hlt;rw[jvn.1 hlt] at h5;cases h5))
 ·simp only[List.length_zip,List.length_map];omega
open C3 (Tk In jzk jzf isC jxt)
open S2 (Sc Tr isT)
open V4 (Va Vl Ck isV jqv jzt jzl jzj jzh jzw)
theorem jf0{W:World}{D b:Nat}{t:TypeId}{z0 z1 z2 z3 z4:Value}(v0 v1 v2 v3 v4:Value)(hne:b≠D)(q:Blk W b t #[z0,z1,z2,z3,z4]):(jz9 W D v0 v1 v2 v3 v4).cell? ⟨b,0,none⟩=some z0/\(jz9 W D v0 v1 v2 v3 v4).cell? ⟨b,1,none⟩=some z1/\(jz9 W D v0 v1 v2 v3 v4).cell? ⟨b,2,none⟩=some z2/\(jz9 W D v0 v1 v2 v3 v4).cell? ⟨b,3,none⟩=some z3/\(jz9 W D v0 v1 v2 v3 v4).cell? ⟨b,4,none⟩=some z4:=by
 have h:Blk (jz9 W D v0 v1 v2 v3 v4) b t #[z0,z1,z2,z3,z4]:=(jzn hne).trans q;exact⟨jza h 0 _ rfl,jza h 1 _ rfl,jza h 2 _ rfl,jza h 3 _ rfl,jza h 4 _ rfl⟩
theorem jn3{f:Va->Va->Option Va}{PP:List Tk->Bool}{AA BB:List (List Tk×Va)}{N:Nat}{ocs:List Ck}{ovs:List Vl}{ok g:Bool}{res:Option Va}(oA:Option Addr)(oc:Nat)(uA:Option Addr)(uc:Nat)(h:RcS jkv .zero f PP AA BB N ((ocs.map Ck.l).zip (ovs.map Vl.er)) ok)(hn:AA.length+BB.length<=N)(hl:ocs.length=ovs.length)(hr:res=(jwy f (Fm jkv .zero PP AA BB)).map fun l => .mk 0 0 [] (l.map (·.1)) (l.map (·.2)))(hg:g=(ok && decide ((ocs.length:Int)<=40))):(g=true/\res=some (Vl.mk 0 0 none 0 [] oA oc ocs uA uc ovs).er)\/(g=false/\res=none):=by
 have hz:((ocs.map Ck.l).zip (ovs.map Vl.er)).length=ocs.length:=by rw[List.length_zip,List.length_map,List.length_map,hl,Nat.min_self]
 rw[h.done hn,hz] at hr;by_cases hc:ok=true/\ocs.length<=40
 ·(
 rw[if_pos hc] at hr;refine .inl ⟨?_,?_⟩
 ·rw[hg,hc.1,Bool.true_and];exact decide_eq_true (by omega)
 ·(
 rw[hr,jzw];show some (Va.mk 0 0 [] (((ocs.map Ck.l).zip (ovs.map Vl.er)).map (·.1)) (((ocs.map Ck.l).zip (ovs.map Vl.er)).map (·.2)))=_
 rw[List.map_fst_zip (by rw[List.length_map,List.length_map,hl];exact Nat.le_refl _),List.map_snd_zip (by rw[List.length_map,List.length_map,hl];exact Nat.le_refl _)]))
 ·(
 rw[if_neg hc] at hr;refine .inr ⟨?_,hr⟩;rw[hg];cases ok with
 | false=>rfl
 | true=>rw[Bool.true_and];exact decide_eq_false fun h=>hc ⟨rfl,by omega⟩)
theorem jtt{P Q:Nat->Prop}{U W:World}{ocs:List Ck}{ovs:List Vl}{oA uA:Option Addr}{oc uc:Nat}(h:McM P U ocs ovs (.slice oA ocs.length oc) (.slice uA ovs.length uc) W)(fY:ocs.length<=80)(hl:ocs.length=ovs.length)(hc:∀ b,U.heap.size+1<=b/\b<W.heap.size->Q b)(hk:∀ b,P b->Q b)(hv:∀ b,(P b\/U.heap.size<b)/\b<W.heap.size->Q b):(Vl.mk 0 0 none 0 [] oA oc ocs uA uc ovs).Inp Q W:=by
 have r1:=jz8 h.rc;have r2:=jz8 h.rv;exact .mk _ _ _ _ _ _ _ _ _ _ _ (by omega) (by omega) (.inl rfl) (by simp) (by simp) (r1.1.mono hc) ⟨r1.2.1,r1.2.2,by omega⟩ (fun k eN=>(h.kc k eN).mono hk) (r2.1.mono hc) ⟨r2.2.1,r2.2.2,by omega⟩ (fun v lJ=>(h.vk v lJ).mono fun b hb=>hv b ⟨hb.1,hb.2.1⟩)
end J5
end Go.Proofs.YtobggoephhjofaaGreatDoor
