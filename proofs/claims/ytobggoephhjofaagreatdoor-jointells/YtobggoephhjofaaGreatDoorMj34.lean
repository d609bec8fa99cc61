/- A part. No condition. -/
import Derived.Test.YtobggoephhjofaaGreatDoorMj31
import Derived.Test.YtobggoephhjofaaGreatDoorMj33
set_option maxRecDepth 100000
set_option maxHeartbeats 16000000
namespace Go.Proofs.YtobggoephhjofaaGreatDoor
namespace J5
open Go.RowKit Go.Shelf
open C3 (Tk In jzj jzf)
open S2 (Sc Tr isT)
open V4 (Va Vl Ck isV jqh jzr jzh jzt jkj)
inductive NoP:Tr->Prop
  | mk (k:Int) (l:List Tr):k≠5->(∀ x∈l,NoP x)->NoP (.mk k l)
def jpj:Prop:=∀ (A:Option Addr) (c:Nat) (a b:Sc) (x y:Vl) (f g:Va->Va->Option Va) (w:World),S2.jwq w.heap.size w A [a,b]->a.In w.heap.size w->b.In w.heap.size w->x.In w->y.In w->(x.vs=[]\/x.vs.length=2)->(y.vs=[]\/y.vs.length=2) ->
  (∀ W:World,Below w.heap.size w W->Calls Tryz.prog 21 #[a.val,(jja x 0).val,(jja y 0).val] W (jyb W (f (jq2 x.er 0) (jq2 y.er 0)))) ->
  (∀ W:World,Below w.heap.size w W->Calls Tryz.prog 21 #[b.val,(jja x 1).val,(jja y 1).val] W (jyb W (g (jq2 x.er 1) (jq2 y.er 1)))) ->
  Calls Tryz.prog 43 #[.slice A 2 c,x.val,y.val] w (jyb w (ju7 f g x.er y.er))
theorem join_5(HP:jpj)(A:Option Addr)(c:Nat)(a b:Sc)(x y:Vl)(f g:Va->Va->Option Va)(w:World)(hs:S2.jwq w.heap.size w A [a,b])(ha:a.In w.heap.size w)(hb:b.In w.heap.size w)(hx:x.In w)(hy:y.In w)(lx:x.vs=[]\/x.vs.length=2)(ly:y.vs=[]\/y.vs.length=2)(hf:∀ W:World,Below w.heap.size w W->Calls Tryz.prog 21 #[a.val,(jja x 0).val,(jja y 0).val] W (jyb W (f (jq2 x.er 0) (jq2 y.er 0))))(hg:∀ W:World,Below w.heap.size w W->Calls Tryz.prog 21 #[b.val,(jja x 1).val,(jja y 1).val] W (jyb W (g (jq2 x.er 1) (jq2 y.er 1)))):Calls Tryz.prog 21 #[(Sc.mk 5 A c [a,b]).val,x.val,y.val] w (jyb w (ju7 f g x.er y.er)):=by
 have HJ:=Lh (fun W (hb':Below w.heap.size w W)=>HP A c a b x y f g W ((hs.below hb').up hb'.size) (ha.later hb') (hb.later hb') (hx.later hb') (hy.later hb') lx ly (fun W2 h2=>hf W2 (hb'.trans (h2.mono hb'.size))) (fun W2 h2=>hg W2 (hb'.trans (h2.mono hb'.size))));obtain⟨res,hres⟩:=exq (ju7 f g x.er y.er);rw[hres] at HJ;rw[hres];clear hx hy hres hf hg hs ha hb lx ly HP;obtain⟨n,m,sA,sc,ss,cA,cc,cs,vA,vc,vs⟩:=x;obtain⟨n',m',sA',sc',ss',cA',cc',cs',vA',vc',vs'⟩:=y;simp only[jzh] at HJ;simp only[S2.jzh,jzh,List.length_cons,List.length_nil,Nat.zero_add,Nat.reduceAdd];obtain⟨V,hV⟩:=exq ((((w.alloc (.cells #[.int .i64 5,.slice A 2 c] 24)).alloc (.cells #[.int .u64 n,.int .u64 m,.slice sA ss.length sc,.slice cA cs.length cc,.slice vA vs.length vc] 30)).alloc (.cells #[.int .u64 n',.int .u64 m',.slice sA' ss'.length sc',.slice cA' cs'.length cc',.slice vA' vs'.length vc'] 30)).alloc (.cells #[.int .u64 0,.int .u64 0,.slice none 0 0,.slice none 0 0,.slice none 0 0] 30));obtain⟨q3,q4,q5,q6,hbV,hs0⟩:=jbr hV;have hsV:w.heap.size+4<=V.heap.size:=by omega
 clear hs0;obtain⟨e0,e1⟩:=blk2c q3;obtain⟨a0,a1,a2,a3,a4⟩:=blk5 q4;obtain⟨b0,b1,b2,b3,b4⟩:=blk5 q5;go_enter Tryz.func21,Tryz.ntmps21;go_wp2_with fail;refine (HJ.out V hbV).mono ?_;rintro e U hr;obtain⟨⟨zn,zm,zK,zL,zM,zN,zO,zP,zQ,zR,zS⟩,ev,rfl,hzi,hbU,hcase⟩:=jqu hr;simp only[jzh];have HZ:=Lh hzi;have HC:=Lh hcase;have q6U:=q6.below (W':=U) hbU;clear hr hzi hcase e0 e1 a0 a1 a2 a3 a4 b0 b1 b2 b3 b4 q3 q4 q5 hV;obtain⟨d0,d1,d2,d3,d4⟩:=blk5 q6U;obtain⟨f0,f1,f2,f3,f4⟩:=fro5 q6U;go_wp2_with fail;refine bodyPost_ret (rcv5 rfl _ _ (w.heap.size+1+1+1) (.int .u64 zn) (.int .u64 zm) (.slice zK zM.length zL) (.slice zN zP.length zO) (.slice zQ zS.length zR) rfl (jzc q6U)) rfl ?_;exact jjh hbV hbU (by omega) (by omega) HZ.out HC.out
theorem jbx{n:Nat}{t:Tr}{x:Va}(hn:n<=16)(h:isT n t=true)(h5:t.k≠5)(o:OkV t x):isV t x=true:=o.elim id fun e=>e▸isV_zero hn h h5
theorem join_any(Q:Prop)(HP:Q->jpj):∀ (s:Sc) (n:Nat),n<=16->isT n s.er=true->(Q\/NoP s.er)->∀ (x y:Vl) (w:World),s.In w.heap.size w->x.In w->y.In w->OkV s.er x.er->OkV s.er y.er->Calls Tryz.prog 21 #[s.val,x.val,y.val] w (jyb w (jzs s.er x.er y.er)):=by
 intro s;induction s using S2.Sc.ind with
 | h k A c l ih=>(
 intro n hn ht hq x y w hs hx hy ox oy;rw[S2.jzt] at ht hq ox oy ⊢;obtain⟨m,hm,hc⟩:=jq5 ht;rcases hc with ⟨k',hk,e⟩ | ⟨k',a',hk,e,ha⟩ | ⟨a',b',e,ha,hb_⟩
 ·(
 obtain⟨rfl,hl⟩:=(Tr.mk.injEq _ _ _ _).mp e;obtain rfl:l=[]:=List.map_eq_nil_iff.1 hl;have h5:(Tr.mk k []).k≠5:=by simp only[Tr.k];omega
 have vx:=jbx hn ht h5 ox;have vy:=jbx hn ht h5 oy;simp only[List.map_nil] at vx vy ⊢;rcases hk with rfl | rfl | rfl | rfl | rfl
 ·rw[jzs,if_neg (by decide),if_neg (by decide),if_neg (by decide)];exact join_1 A c x y w hx hy
 ·rw[jzs,if_neg (by decide),if_neg (by decide),if_neg (by decide)];exact join_2 A c x y w hx hy
 ·(
 rw[jzs,if_pos rfl];obtain⟨s1,e1,a1,a2,_⟩:=jjs.1 vx;obtain⟨s2,e2,b1,b2,_⟩:=jjs.1 vy;exact join_3 A c x y w hx hy (by rw[e1];exact a1) (by rw[e2];exact b1) (by rw[e1];exact leT a2 (by decide)) (by rw[e2];exact leT b2 (by decide)))
 ·rw[jzs,if_neg (by decide),if_pos rfl];exact join_6 A c x y w hx hy
 ·(
 rw[jzs,if_neg (by decide),if_neg (by decide),if_pos rfl];have cl:∀ {x:Va},isV (.mk 7 []) x=true->x.c.length<=1/\∀ k∈x.c,k.length<=40:=fun {x} h=>by (
 rcases jki.1 h with rfl | ⟨c,rfl,h1,_⟩
 ·exact⟨by simp[Va.zero,Va.c],fun k hk=>by cases hk⟩
 ·(
 refine⟨by simp[Va.c],fun k hk=>?_⟩;simp only[Va.c,List.mem_singleton] at hk;subst hk;exact (C3.jww h1).1))
 refine join_7 A c x y w hx hy (cl vx).1 (cl vy).1 fun k hk=>?_
 rcases List.mem_append.1 hk with h | h
 ·exact (cl vx).2 k h
 ·exact (cl vy).2 k h))
 ·(
 obtain⟨rfl,hl⟩:=(Tr.mk.injEq _ _ _ _).mp e;obtain⟨a,rfl,rfl⟩:∃ a,l=[a]/\a.er=a':=by (
 match l,hl with
 | [a],hl=>exact⟨a,rfl,by simpa using hl⟩)
 have h5:(Tr.mk k [a.er]).k≠5:=by simp only[Tr.k];omega
 simp only[List.map_cons,List.map_nil] at ht hq ox oy ⊢;have vx:=jbx hn ht h5 ox;have vy:=jbx hn ht h5 oy;obtain⟨hls,_,_,hall⟩:=hs.out;have hqa:Q\/NoP a.er:=hq.imp id fun h=>by cases h with | mk _ _ _ h=>exact h _ (by simp)
 have hin:=hall a (by simp);have hj:∀ (X Y:Vl),X.In w->Y.In w->(∀ u∈X.vs,isV a.er u.er=true)->(∀ u∈Y.vs,isV a.er u.er=true)->∀ u v:Vl,(u∈X.vs\/u=vlZ)->(v∈Y.vs\/v=vlZ)->∀ W:World,Below w.heap.size w W->Calls Tryz.prog 21 #[a.val,u.val,v.val] W (jyb W (jzs a.er u.er v.er)):=by (
 intro X Y hX hY vX vY u v hu hv W hb;have up:∀ {X u:Vl},X.In w->(∀ u∈X.vs,isV a.er u.er=true)->(u∈X.vs\/u=vlZ)->u.In W/\OkV a.er u.er:=fun {X u} hX vX hu=>by (
 rcases hu with hu | rfl
 ·(
 obtain⟨n,m,sA,sc,ss,cA,cc,cs,vA,vc,vs⟩:=X;exact⟨(hX.out.vk u hu).later hb,.inl (vX u hu)⟩)
 ·exact⟨V4.jq7 _ _,.inr jb7⟩)
 exact ih a (by simp) m (by omega) ha hqa u v W (hin.later hb) (up hX vX hu).1 (up hY vY hv).1 (up hX vX hu).2 (up hY vY hv).2)
 have vse:∀ X:Vl,X.er.v=X.vs.map Vl.er:=fun X=>by cases X;rw[jzt];rfl
 rcases hk with rfl | rfl
 ·(
 rw[jzs,if_pos rfl];have fact:∀ {X:Vl},isV (.mk 4 [a.er]) X.er=true->X.er.s.length=X.vs.length/\∀ u∈X.vs,isV a.er u.er=true:=fun {X} h=>by (
 obtain⟨s,v,e,_,h2,_,_,h5⟩:=jkh.1 h;have ev:=vse X;rw[e] at ev ⊢;simp only[Va.v,Va.s] at ev ⊢;refine⟨by rw[h2,ev,List.length_map],fun u hu=>(h5 _ (by rw[ev];exact List.mem_map.2 ⟨u,hu,rfl⟩)).1⟩)
 exact join_4 A c a x y _ w hls hx hy (fact vx).1 (fact vy).1 (hj x y hx hy (fact vx).2 (fact vy).2))
 ·(
 rw[jzs,if_neg (by decide)];have fact:∀ {X:Vl},isV (.mk 8 [a.er]) X.er=true->X.er.c.length=X.vs.length/\X.vs.length<=1000/\(∀ k∈X.er.c,C3.Asc k/\k.length<=1000)/\∀ u∈X.vs,isV a.er u.er=true:=fun {X} h=>by (
 obtain⟨s,v,e,h2,h3,_,h4,h5⟩:=jq4.1 h;have ev:=vse X;rw[e] at ev ⊢;simp only[Va.v,Va.c] at ev ⊢;have hlen:X.vs.length=v.length:=by rw[ev,List.length_map]
 refine⟨by omega,by omega,fun k hk=>?_,fun u hu=>h5 _ (by rw[ev];exact List.mem_map.2 ⟨u,hu,rfl⟩)⟩;have:=C3.jww (h4 k hk);exact⟨this.2.1,by omega⟩)
 refine join_8 A c a x y _ w hls hx hy (fact vx).1 (fact vy).1 (fact vx).2.1 (fact vy).2.1 (fun k hk=>?_) (hj x y hx hy (fact vx).2.2.2 (fact vy).2.2.2);rcases List.mem_append.1 hk with h | h
 ·exact (fact vx).2.2.1 k h
 ·exact (fact vy).2.2.1 k h))
 ·(
 obtain⟨rfl,hl⟩:=(Tr.mk.injEq _ _ _ _).mp e;obtain⟨a,b,rfl,rfl,rfl⟩:∃ a b,l=[a,b]/\a.er=a'/\b.er=b':=by (
 match l,hl with
 | [a,b],hl=>simp at hl;exact⟨a,b,rfl,hl.1,hl.2⟩)
 simp only[List.map_cons,List.map_nil] at ht hq ox oy ⊢;rcases hq with hq | hq
 ·(
 obtain⟨hls,_,_,hall⟩:=hs.out;have ina:=hall a (by simp);have inb:=hall b (by simp);have fact:∀ {X:Vl},X.In w->OkV (.mk 5 [a.er,b.er]) X.er->(X.vs=[]\/X.vs.length=2)/\(∀ i,(jja X i).In w)/\OkV a.er (jja X 0).er/\OkV b.er (jja X 1).er:=fun {X} hX o=>by (
 have hin:∀ i,(jja X i).In w:=fun i=>by (
 obtain⟨n,m,sA,sc,ss,cA,cc,cs,vA,vc,vs⟩:=X;unfold jja;simp only[V4.Vl.vs];cases e:vs[i]? with
 | none=>exact V4.jq7 _ _
 | some u=>exact hX.out.vk u (List.mem_of_getElem? e))
 have vse:X.er.v=X.vs.map Vl.er:=by cases X;rw[jzt];rfl
 rw[jkw,jkw];rcases o with o | o
 ·(
 obtain⟨p,q,e,h1,h2⟩:=jj2.1 o;rw[e] at vse ⊢;refine⟨.inr ?_,hin,.inl h1,.inl h2⟩;have:=congrArg List.length vse;simpa[Va.v] using this.symm)
 ·(
 rw[o] at vse ⊢;refine⟨.inl ?_,hin,.inr rfl,.inr rfl⟩;exact List.map_eq_nil_iff.1 vse.symm))
 obtain⟨lx,ix,ox0,ox1⟩:=fact hx ox;obtain⟨ly,iy,oy0,oy1⟩:=fact hy oy;rw[jzs];refine join_5 (HP hq) A c a b x y _ _ w hls ina inb hx hy lx ly (fun W hb=>?_) (fun W hb=>?_)
 ·(
 rw[<- jkw,<- jkw];exact ih a (by simp) m (by omega) ha (.inl hq) _ _ W (ina.later hb) ((ix 0).later hb) ((iy 0).later hb) ox0 oy0)
 ·(
 rw[<- jkw,<- jkw];exact ih b (by simp) m (by omega) hb_ (.inl hq) _ _ W (inb.later hb) ((ix 1).later hb) ((iy 1).later hb) ox1 oy1))
 ·cases hq with | mk _ _ h _=>exact absurd rfl h))
def jny(w:World)(o:Except Int Va)(e:Ending)(w':World):Prop :=
  (∃ x:Vl,o = .ok x.er/\e = .returned (.tuple #[x.val,.nilIface])/\x.Inp (fun b=>w.heap.size<=b/\b<w'.heap.size) w'/\Below w.heap.size w w') \/
  (∃ n,o = .error n/\e = .returned (.tuple #[vlZ.val,jkm n])/\Below w.heap.size w w')
def jxs(t:Tr)(x y:Va):Except Int Va:=if isT 16 t=true then jxg t x y else .error 14
theorem jmz{t:Tr}{x y:Va}(h:(isT 16 t && isV t x)=false\/(isT 16 t && isV t y)=false):jxs t x y = .error 14:=by
 unfold jxs;split
 ·(
 rename_i ht
 rw[ht,Bool.true_and,Bool.true_and] at h;unfold jxg;rw[if_neg];rintro ⟨h1,h2⟩;rw[h1,h2] at h;simp at h)
 ·rfl
theorem jv1{t:Tr}{x y:Va}(h1:(isT 16 t && isV t x)=true)(h2:(isT 16 t && isV t y)=true):isT 16 t=true/\isV t x=true/\isV t y=true/\jxs t x y=match jzs t x y with | some z => .ok z | none => .error 13:=by
 rw[Bool.and_eq_true] at h1 h2;refine⟨h1.1,h1.2,h2.2,?_⟩;unfold jxs jxg;rw[if_pos h1.1,if_pos ⟨h1.2,h2.2⟩];cases jzs t x y <;> rfl
theorem jr8{w:World}{t:Tr}{x y:Va}{e:Ending}{w':World}(hF:jxs t x y=match jzs t x y with | some z => .ok z | none => .error 13)(h:jyb w (jzs t x y) e w'):jny w (jxs t x y) e w':=by
 rw[hF];rcases h with ⟨z,ho,h⟩ | ⟨ho,h⟩
 ·rw[ho];exact .inl ⟨z,rfl,h⟩
 ·rw[ho];exact .inr ⟨13,rfl,h⟩
theorem jkz(Q:Prop)(HP:Q->jpj)(s:Sc)(x y:Vl)(w:World)(hs:s.In w.heap.size w)(hx:x.In w)(hy:y.In w)(hq:isT 16 s.er=true->Q\/NoP s.er):Calls Tryz.prog 6 #[s.val,x.val,y.val] w (jny w (jxs s.er x.er y.er)):=by
 obtain⟨p1,hp1⟩:=exq ((isT 16 s.er && isV s.er x.er));obtain⟨p2,hp2⟩:=exq ((isT 16 s.er && isV s.er y.er));have H1:=Lh (fun W (hb:Below w.heap.size w W)=>V4.jv9 s x W (hs.later hb) (hx.later hb));have H2:=Lh (fun W (hb:Below w.heap.size w W)=>V4.jv9 s y W (hs.later hb) (hy.later hb));have HJ:Hid (p1=true->p2=true->∀ W,Below w.heap.size w W->Calls Tryz.prog 21 #[s.val,x.val,y.val] W (jyb W (jzs s.er x.er y.er))):=fun e1 e2 W hb=>by (
 obtain⟨h1,h2,h3,_⟩:=jv1 (hp1.trans e1) (hp2.trans e2);exact join_any Q HP s 16 (Nat.le_refl _) h1 (hq h1) x y W (hs.later hb) (hx.later hb) (hy.later hb) (.inl h2) (.inl h3))
 rw[hp1] at H1;rw[hp2] at H2;have HNO:Hid (p1=false\/p2=false->jxs s.er x.er y.er = .error 14):=fun h=>jmz (h.imp (fun e=>hp1.trans e) (fun e=>hp2.trans e))
 have HYES:Hid (p1=true->p2=true->jxs s.er x.er y.er=match jzs s.er x.er y.er with | some z => .ok z | none => .error 13):=fun e1 e2=>(jv1 (hp1.trans e1) (hp2.trans e2)).2.2.2
 obtain⟨R,hR⟩:=exq (jny w (jxs s.er x.er y.er));have HR:=Lh hR;rw[hR];obtain⟨jo,hjo⟩:=exq (jzs s.er x.er y.er);rw[hjo] at HJ;have HJO:=Lh hjo;obtain⟨s0,hs0⟩:=exq (s);obtain⟨x0,hx0⟩:=exq (x);obtain⟨y0,hy0⟩:=exq (y);rw[hs0,hx0,hy0] at HNO HYES HR HJO;clear hs hx hy hq hp1 hp2 hR hjo hs0 hx0 hy0;obtain⟨k,A,c,l⟩:=s;obtain⟨n,m,sA,sc,ss,cA,cc,cs,vA,vc,vs⟩:=x;obtain⟨n',m',sA',sc',ss',cA',cc',cs',vA',vc',vs'⟩:=y;simp only[S2.jzh,jzh] at H1 H2 HJ;simp only[S2.jzh,jzh];obtain⟨V,hV⟩:=exq ((((w.alloc (.cells #[.int .i64 k,.slice A l.length c] 24)).alloc (.cells #[.int .u64 n,.int .u64 m,.slice sA ss.length sc,.slice cA cs.length cc,.slice vA vs.length vc] 30)).alloc (.cells #[.int .u64 n',.int .u64 m',.slice sA' ss'.length sc',.slice cA' cs'.length cc',.slice vA' vs'.length vc'] 30)).alloc (.cells #[.int .u64 0,.int .u64 0,.slice none 0 0,.slice none 0 0,.slice none 0 0] 30));obtain⟨q3,q4,q5,q6,hbV,hs0⟩:=jbr hV;have hsV:w.heap.size+4<=V.heap.size:=by omega
 clear hs0;obtain⟨e0,e1⟩:=blk2c q3;obtain⟨a0,a1,a2,a3,a4⟩:=blk5 q4;obtain⟨b0,b1,b2,b3,b4⟩:=blk5 q5;go_enter Tryz.func6,Tryz.ntmps6;go_wp2_with fail;refine (H1.out V hbV).mono ?_;rintro e V1 ⟨rfl,hb1⟩;have hbV1:=hbV.trans (hb1.mono hbV.size);have hs1:=hb1.size;replace q3:=q3.below hb1;replace q4:=q4.below hb1;replace q5:=q5.below hb1;replace q6:=q6.below hb1;clear e0 e1 a0 a1 a2 a3 a4 b0 b1 b2 b3 b4 hV H1;obtain⟨e0,e1⟩:=blk2c q3;obtain⟨a0,a1,a2,a3,a4⟩:=blk5 q4;obtain⟨b0,b1,b2,b3,b4⟩:=blk5 q5;cases p1 with
 | false=>(
 clear e0 e1 a0 a1 a2 a3 a4 b0 b1 b2 b3 b4;obtain⟨d0,d1,d2,d3,d4⟩:=blk5 q6;obtain⟨f0,f1,f2,f3,f4⟩:=fro5 q6;go_wp2_with fail;refine bodyPost_ret (rcv5 rfl _ _ (w.heap.size+1+1+1) (.int .u64 0) (.int .u64 0) (.slice none 0 0) (.slice none 0 0) (.slice none 0 0) rfl (jzc q6)) rfl ?_;rw[<- HR.out,HNO.out (by simp)];exact .inr ⟨14,rfl,rfl,jzl hbV1 (by omega)⟩)
 | true=>(
 go_wp2_with fail;refine (H2.out V1 hbV1).mono ?_;rintro e V2 ⟨rfl,hb2⟩;have hbV2:=hbV1.trans (hb2.mono hbV1.size);have hs2:=hb2.size;replace q3:=q3.below hb2;replace q4:=q4.below hb2;replace q5:=q5.below hb2;replace q6:=q6.below hb2;clear e0 e1 a0 a1 a2 a3 a4 b0 b1 b2 b3 b4 H2;obtain⟨e0,e1⟩:=blk2c q3;obtain⟨a0,a1,a2,a3,a4⟩:=blk5 q4;obtain⟨b0,b1,b2,b3,b4⟩:=blk5 q5;cases p2 with
 | false=>(
 clear e0 e1 a0 a1 a2 a3 a4 b0 b1 b2 b3 b4;obtain⟨d0,d1,d2,d3,d4⟩:=blk5 q6;obtain⟨f0,f1,f2,f3,f4⟩:=fro5 q6;go_wp2_with fail;refine bodyPost_ret (rcv5 rfl _ _ (w.heap.size+1+1+1) (.int .u64 0) (.int .u64 0) (.slice none 0 0) (.slice none 0 0) (.slice none 0 0) rfl (jzc q6)) rfl ?_;rw[<- HR.out,HNO.out (by simp)];exact .inr ⟨14,rfl,rfl,jzl hbV2 (by omega)⟩)
 | true=>(
 go_wp2_with fail;refine (HJ.out (by simp) (by simp) V2 hbV2).mono ?_;rintro e U hr;obtain⟨⟨zn,zm,zK,zL,zM,zN,zO,zP,zQ,zR,zS⟩,ev,rfl,hzi,hbU,hcase⟩:=jqu hr;simp only[jzh];have HZ:=Lh hzi;have HC:=Lh hcase;have q6U:=q6.below (W':=U) hbU;clear hr hzi hcase e0 e1 a0 a1 a2 a3 a4 b0 b1 b2 b3 b4 q3 q4 q5;obtain⟨d0,d1,d2,d3,d4⟩:=blk5 q6U;obtain⟨f0,f1,f2,f3,f4⟩:=fro5 q6U;go_wp2_with fail;refine bodyPost_ret (rcv5 rfl _ _ (w.heap.size+1+1+1) (.int .u64 zn) (.int .u64 zm) (.slice zK zM.length zL) (.slice zN zP.length zO) (.slice zQ zS.length zR) rfl (jzc q6U)) rfl ?_;rw[<- HR.out];refine jr8 (HYES.out (by simp) (by simp)) ?_;rw[HJO.out];exact jjh hbV2 hbU (by omega) (by omega) HZ.out HC.out))
def RetQ(P:Nat->Prop)(w:World)(o:Except Int Va)(e:Ending)(w':World):Prop :=
  ∃ (z:Vl) (n:Int),e = .returned (.tuple #[z.val,.int .i64 n])/\z.Inp (fun k=>(P k\/w.heap.size<=k)/\k<w'.heap.size) w'/\Below w.heap.size w w'/\((o = .ok z.er/\n=0)\/(o = .error n/\(n=13\/n=14)/\z.er=Va.zero))
theorem jyj{P:Nat->Prop}{w w':World}{o:Except Int Va}{n:Int}(ho:o = .error n)(hn:n=13\/n=14)(hb:Below w.heap.size w w'):RetQ P w o (.returned (.tuple #[.agg #[.int .u64 0,.int .u64 0,.slice none 0 0,.slice none 0 0,.slice none 0 0],.int .i64 n])) w' :=
  ⟨vlZ,n,rfl,V4.jq7 _ _,hb,.inr ⟨ho,hn,jb7⟩⟩
theorem joh{P:Nat->Prop}{w V U X:World}{o:Except Int Va}{D:Nat}{zn zm:Int}{zK:Option Addr}{zL:Nat}{zM:List Str}{zN:Option Addr}{zO:Nat}{zP:List Ck}{zQ:Option Addr}{zR:Nat}{zS:List Vl}(hP:∀ k,P k->k<w.heap.size)(hbV:Below w.heap.size w V)(hbU:Below V.heap.size V U)(hbX:Below U.heap.size U X)(hD:w.heap.size<=D)(hD2:D<V.heap.size)
    (hi:(Vl.mk zn zm zK zL zM zN zO zP zQ zR zS).Inp (fun k=>(P k\/V.heap.size<=k)/\k<U.heap.size) U) (ho:o = .ok (Vl.mk zn zm zK zL zM zN zO zP zQ zR zS).er) :
    RetQ P w o (.returned (.tuple #[.agg #[.int .u64 zn,.int .u64 zm,.slice zK zM.length zL,.slice zN zP.length zO,.slice zQ zS.length zR],.int .i64 0])) (jz9 X D (.int .u64 zn) (.int .u64 zm) (.slice zK zM.length zL) (.slice zN zP.length zO) (.slice zQ zS.length zR)) :=
  ⟨_,0,rfl,(hi.keep fun b hb=>(jzn (by rcases hb.1 with h | h;(have:=hP b h;omega);omega)).trans (hbX.block b hb.2)).mono fun b hb=>⟨hb.1.imp id (leT hbV.size),ltl hb.2 (leT hbX.size (Nat.le_of_eq jzp.symm))⟩,jzl (hbV.trans ((hbU.trans (hbX.mono hbU.size)).mono hbV.size)) hD,.inl ⟨ho,rfl⟩⟩
theorem jy7(s:Sc)(P:Nat->Prop)(x y:Vl)(w:World)(hP:∀ k,P k->k<w.heap.size)(hs:s.In w.heap.size w)(hx:x.Inp P w)(hy:y.Inp P w):Calls Tryz.prog 7 #[s.val,x.val,y.val] w (RetQ P w (jxs s.er x.er y.er)):=by
 obtain⟨p1,hp1⟩:=exq ((isT 16 s.er && isV s.er x.er));obtain⟨p2,hp2⟩:=exq ((isT 16 s.er && isV s.er y.er));have H1:=Lh (fun W (hb:Below w.heap.size w W)=>V4.jfe s x W (hs.later hb) (V4.Vl.In.later (hx.mono hP) hb));have H2:=Lh (fun W (hb:Below w.heap.size w W)=>V4.jfe s y W (hs.later hb) (V4.Vl.In.later (hy.mono hP) hb));have HJ:Hid (p1=true->p2=true->∀ W,Below w.heap.size w W->Calls Tryz.prog 23 #[s.val,x.val,y.val] W (jp0 P W (jzs s.er x.er y.er))):=fun e1 e2 W hb=>by (
 obtain⟨h1,h2,h3,_⟩:=jv1 (hp1.trans e1) (hp2.trans e2);exact jgl s 16 (Nat.le_refl _) h1 P x y W (fun k hk=>ltl (hP k hk) hb.size) (hs.later hb) (hx.keep fun b h=>hb.block b (hP b h)) (hy.keep fun b h=>hb.block b (hP b h)) h2 h3)
 rw[hp1] at H1;rw[hp2] at H2;have HNO:Hid (p1=false\/p2=false->jxs s.er x.er y.er = .error 14):=fun h=>jmz (h.imp (fun e=>hp1.trans e) (fun e=>hp2.trans e))
 have HYES:Hid (p1=true->p2=true->jxs s.er x.er y.er=match jzs s.er x.er y.er with | some z => .ok z | none => .error 13):=fun e1 e2=>(jv1 (hp1.trans e1) (hp2.trans e2)).2.2.2
 obtain⟨R,hR⟩:=exq (jxs s.er x.er y.er);rw[hR] at HNO HYES;rw[hR];obtain⟨jo,hjo⟩:=exq (jzs s.er x.er y.er);rw[hjo] at HJ HYES;clear hs hx hy hp1 hp2 hR hjo;obtain⟨k,A,c,l⟩:=s;obtain⟨n,m,sA,sc,ss,cA,cc,cs,vA,vc,vs⟩:=x;obtain⟨n',m',sA',sc',ss',cA',cc',cs',vA',vc',vs'⟩:=y;simp only[S2.jzh,jzh] at H1 H2 HJ;simp only[S2.jzh,jzh];obtain⟨V,hV⟩:=exq ((((w.alloc (.cells #[.int .i64 k,.slice A l.length c] 24)).alloc (.cells #[.int .u64 n,.int .u64 m,.slice sA ss.length sc,.slice cA cs.length cc,.slice vA vs.length vc] 30)).alloc (.cells #[.int .u64 n',.int .u64 m',.slice sA' ss'.length sc',.slice cA' cs'.length cc',.slice vA' vs'.length vc'] 30)).alloc (.cells #[.int .u64 0,.int .u64 0,.slice none 0 0,.slice none 0 0,.slice none 0 0] 30));obtain⟨q3,q4,q5,q6,hbV,hs0⟩:=jbr hV;have hsV:w.heap.size+4<=V.heap.size:=by omega
 clear hs0;obtain⟨e0,e1⟩:=blk2c q3;obtain⟨a0,a1,a2,a3,a4⟩:=blk5 q4;obtain⟨b0,b1,b2,b3,b4⟩:=blk5 q5;go_enter Tryz.func7,Tryz.ntmps7;go_wp2_with fail;refine (H1.out V hbV).mono ?_;rintro e V1 ⟨rfl,hb1⟩;have hbV1:=hbV.trans (hb1.mono hbV.size);have hs1:=hb1.size;replace q3:=q3.below hb1;replace q4:=q4.below hb1;replace q5:=q5.below hb1;replace q6:=q6.below hb1;clear e0 e1 a0 a1 a2 a3 a4 b0 b1 b2 b3 b4 hV H1;obtain⟨e0,e1⟩:=blk2c q3;obtain⟨a0,a1,a2,a3,a4⟩:=blk5 q4;obtain⟨b0,b1,b2,b3,b4⟩:=blk5 q5;cases p1 with
 | false=>(
 clear e0 e1 a0 a1 a2 a3 a4 b0 b1 b2 b3 b4;obtain⟨d0,d1,d2,d3,d4⟩:=blk5 q6;obtain⟨f0,f1,f2,f3,f4⟩:=fro5 q6;go_wp2_with fail;refine bodyPost_ret (rcv5 rfl _ _ (w.heap.size+1+1+1) (.int .u64 0) (.int .u64 0) (.slice none 0 0) (.slice none 0 0) (.slice none 0 0) rfl (jzc q6)) rfl ?_;exact jyj (HNO.out (by simp)) (.inr rfl) (jzl hbV1 (by omega)))
 | true=>(
 go_wp2_with fail;refine (H2.out V1 hbV1).mono ?_;rintro e V2 ⟨rfl,hb2⟩;have hbV2:=hbV1.trans (hb2.mono hbV1.size);have hs2:=hb2.size;replace q3:=q3.below hb2;replace q4:=q4.below hb2;replace q5:=q5.below hb2;replace q6:=q6.below hb2;clear e0 e1 a0 a1 a2 a3 a4 b0 b1 b2 b3 b4 H2;obtain⟨e0,e1⟩:=blk2c q3;obtain⟨a0,a1,a2,a3,a4⟩:=blk5 q4;obtain⟨b0,b1,b2,b3,b4⟩:=blk5 q5;cases p2 with
 | false=>(
 clear e0 e1 a0 a1 a2 a3 a4 b0 b1 b2 b3 b4;obtain⟨d0,d1,d2,d3,d4⟩:=blk5 q6;obtain⟨f0,f1,f2,f3,f4⟩:=fro5 q6;go_wp2_with fail;refine bodyPost_ret (rcv5 rfl _ _ (w.heap.size+1+1+1) (.int .u64 0) (.int .u64 0) (.slice none 0 0) (.slice none 0 0) (.slice none 0 0) rfl (jzc q6)) rfl ?_;exact jyj (HNO.out (by simp)) (.inr rfl) (jzl hbV2 (by omega)))
 | true=>(
 go_wp2_with fail;refine (HJ.out (by simp) (by simp) V2 hbV2).mono ?_;rintro e U ⟨⟨zn,zm,zK,zL,zM,zN,zO,zP,zQ,zR,zS⟩,bo,rfl,hzi,hbU,hcase⟩;simp only[jzh];replace HYES:=Lh (HYES.out (by simp) (by simp));have HZ:=Lh hzi;have HC:=Lh hcase;obtain⟨X,hX⟩:=exq (U.alloc (.cells #[.int .u64 zn,.int .u64 zm,.slice zK zM.length zL,.slice zN zP.length zO,.slice zQ zS.length zR] 30));have hbX:Below U.heap.size U X:=by rw[<- hX];exact jzf _ _
 have qX:Blk X U.heap.size 30 #[.int .u64 zn,.int .u64 zm,.slice zK zM.length zL,.slice zN zP.length zO,.slice zQ zS.length zR]:=by rw[<- hX];exact Blk.new _ _ _
 have q6X:=(q6.below (W':=U) hbU).below hbX;have lU:=qX.lt;clear hzi hcase e0 e1 a0 a1 a2 a3 a4 b0 b1 b2 b3 b4 q3 q4 q5 q6;obtain⟨z0,z1,z2,z3,z4⟩:=blk5 qX;obtain⟨d0,d1,d2,d3,d4⟩:=blk5 q6X;obtain⟨f0,f1,f2,f3,f4⟩:=fro5 q6X;cases bo with
 | true=>(
 go_wp2_with fail;refine bodyPost_ret (rcv5 rfl _ _ (w.heap.size+1+1+1) (.int .u64 zn) (.int .u64 zm) (.slice zK zM.length zL) (.slice zN zP.length zO) (.slice zQ zS.length zR) rfl (jzc q6X)) rfl ?_;refine joh hP hbV2 hbU hbX (by omega) (by omega) HZ.out ?_;rcases HC.out with ⟨-,h⟩ | ⟨h,-⟩
 ·rw[HYES.out,h]
 ·cases h)
 | false=>(
 go_wp2_with fail;refine bodyPost_ret (rcv5 rfl _ _ (w.heap.size+1+1+1) (.int .u64 0) (.int .u64 0) (.slice none 0 0) (.slice none 0 0) (.slice none 0 0) rfl (jzc q6X)) rfl ?_;refine jyj ?_ (.inl rfl) (jzl (hbV2.trans ((hbU.trans (hbX.mono hbU.size)).mono hbV2.size)) (by omega));rcases HC.out with ⟨h,-⟩ | ⟨-,h⟩
 ·cases h
 ·rw[HYES.out,h])))
open V4 (Va Vl Ck isV jqh jzr jzk jzh jzt)
theorem ju0{W:World}{o:Except Int Va}{e:Ending}{W':World}(h:jny W o e W'):∃ (x:Vl) (ev:Value),e = .returned (.tuple #[x.val,ev])/\x.Inp (fun b=>W.heap.size<=b/\b<W'.heap.size) W'/\Below W.heap.size W W'/\((o = .ok x.er/\ev = .nilIface)\/(∃ n,o = .error n/\x=vlZ/\ev=jkm n)):=by
 rcases h with ⟨x,ho,rfl,hi,hb⟩ | ⟨n,ho,rfl,hb⟩
 ·exact⟨x,_,rfl,hi,hb,.inl ⟨ho,rfl⟩⟩
 ·exact⟨vlZ,_,rfl,V4.jq7 _ _,hb,.inr ⟨n,ho,rfl,rfl⟩⟩
structure AllM (w:World) (sv:Array Value) (B6:Nat) (t:Tr) (l:List Vl) (k:Nat) (g:Vl) (W:World):Prop where
  q0:Blk W w.heap.size 24 sv
  q1:Blk W (w.heap.size+1) 30 #[.int .u64 0,.int .u64 0,.slice none 0 0,.slice none 0 0,.slice none 0 0]
  q2:Blk W B6 30 #[.int .u64 g.n,.int .u64 g.m,g.s1,g.c1,g.v1]
  hg:g.Inp (fun b=>w.heap.size+2<=b/\b<W.heap.size/\b≠B6) W
  fold:((l.map Vl.er).take k).foldlM (jxg t) (jqh t) = .ok g.er
  bel:Below w.heap.size w W
  b6:w.heap.size+2<=B6
theorem getL{l:List Vl}{k:Nat}{v:Vl}(hv:l[k]?=some v):(l.map Vl.er)[k]?=some v.er:=by rw[List.getElem?_map,hv];rfl
theorem jn6(Q:Prop)(HP:Q->jpj)(s:Sc)(A:Option Addr)(c:Nat)(l:List Vl)(w:World)(hs:s.In w.heap.size w)(hl:jzr (fun b=>b<w.heap.size) w A (jzk l))(hv:∀ v∈l,v.In w)(hn:l.length<=1000000)(hq:isT 16 s.er=true->Q\/NoP s.er):Calls Tryz.prog 8 #[s.val,.slice A l.length c] w (jny w (jf0 s.er (l.map Vl.er))):=by
 obtain⟨p,hp⟩:=exq (isT 16 s.er);have HIS:=Lh (fun W (hb:Below w.heap.size w W)=>S2.jv9 s W (hs.later hb));rw[hp] at HIS;have HBO:=Lh (fun W (hb:Below w.heap.size w W)=>V4.jrk s W (hs.later hb));have HJ:=Lh (fun x y W (hb:Below w.heap.size w W) (hx:x.In W) (hy:y.In W)=>jkz Q HP s x y W (hs.later hb) hx hy hq);have HF:Hid (p=true->jf0 s.er (l.map Vl.er)=(l.map Vl.er).foldlM (jxg s.er) (jqh s.er)):=fun e=>by show jf0 _ _=_;unfold jf0;rw[if_pos (hp.trans e)]
 have HJF:Hid (p=true->∀ x y,jxs s.er x y=jxg s.er x y):=fun e x y=>by show jxs _ _ _=_;unfold jxs;rw[if_pos (hp.trans e)]
 have HN:Hid (p=false->jf0 s.er (l.map Vl.er) = .error 14):=fun e=>by show jf0 _ _=_;unfold jf0;rw[if_neg (by rw[hp,e];decide)]
 obtain⟨R,hR⟩:=exq (jf0 s.er (l.map Vl.er));rw[hR] at HF HN;rw[hR];clear hR hq hs hp;have HL:=Lh hl;have HV:=Lh hv;have hln:l.length<=9223372036854775807:=by omega
 clear hl hv hn;obtain⟨t,ht⟩:=exq (s.er);rw[ht] at HBO HJ HF HJF;clear ht;obtain⟨k0,A0,sc0,sl⟩:=s;simp only[S2.jzh] at HIS HBO HJ ⊢;obtain⟨V,hV⟩:=exq ((w.alloc (.cells #[.int .i64 k0,.slice A0 sl.length sc0] 24)).alloc (.cells #[.int .u64 0,.int .u64 0,.slice none 0 0,.slice none 0 0,.slice none 0 0] 30));obtain⟨q0,q1,hbV,hs0⟩:=blk2 hV;have hsV:w.heap.size+2<=V.heap.size:=by omega
 clear hs0;obtain⟨e0,e1⟩:=blk2c q0;go_enter Tryz.func8,Tryz.ntmps8;go_wp2_with fail;refine (HIS.out V hbV).mono ?_;rintro e V1 ⟨rfl,hb1⟩;have hbV1:=hbV.trans (hb1.mono hbV.size);have hs1:=hb1.size;replace q0:=q0.below hb1;replace q1:=q1.below hb1;clear e0 e1 hV HIS hb1;cases p with
 | false=>(
 obtain⟨d0,d1,d2,d3,d4⟩:=blk5 q1;obtain⟨f0,f1,f2,f3,f4⟩:=fro5 q1;go_wp2_with fail;refine bodyPost_ret (rcv5 rfl _ _ (w.heap.size+1) (.int .u64 0) (.int .u64 0) (.slice none 0 0) (.slice none 0 0) (.slice none 0 0) rfl (jzc q1)) rfl ?_;rw[HN.out (by simp)];exact .inr ⟨14,rfl,rfl,jzl hbV1 (by omega)⟩)
 | true=>(
 replace HF:=Lh (HF.out rfl);replace HJF:=Lh (HJF.out rfl);clear HN;obtain⟨e0,e1⟩:=blk2c q0;go_wp2_with fail;refine (HBO.out V1 hbV1).mono ?_;rintro e U ⟨⟨gn,gm,gK,gL,gM,gN,gO,gP,gQ,gR,gS⟩,rfl,hge,hgi,hbU⟩;simp only[jzh];have hsU:=hbU.size;obtain⟨X,hX⟩:=exq (U.alloc (.cells #[.int .u64 gn,.int .u64 gm,.slice gK gM.length gL,.slice gN gP.length gO,.slice gQ gS.length gR] 30));have hbX:Below U.heap.size U X:=by rw[<- hX];exact jzf _ _
 have q2:Blk X U.heap.size 30 #[.int .u64 gn,.int .u64 gm,.slice gK gM.length gL,.slice gN gP.length gO,.slice gQ gS.length gR]:=by rw[<- hX];exact Blk.new _ _ _
 have HM:Hid (AllM w #[.int .i64 k0,.slice A0 sl.length sc0] U.heap.size t l 0 (.mk gn gm gK gL gM gN gO gP gQ gR gS) X):=by (
 refine⟨(q0.below hbU).below hbX,(q1.below hbU).below hbX,q2,(hgi.keep fun b hP=>hbX.block b hP.2).mono fun b hP=>⟨by have:=hP.1;omega,?_,by have:=hP.2;omega⟩,?_,hbV1.trans ((hbU.trans (hbX.mono hbU.size)).mono hbV1.size),by omega⟩
 ·exact ltl hP.2 hbX.size
 ·rw[hge];rfl)
 obtain⟨B6,hB6⟩:=exq (U.heap.size);rw[hB6] at HM;clear q0 q1 q2 e0 e1 hge hgi hbX HBO;go_wp2_with fail;clear hB6 hX hbU hsU hbV1 hs1;go_loopw [20] (fun iv wr=>∃ (k:Nat) (g:Vl),k<=l.length/\iv = .int .i64 k/\Hid (AllM w #[.int .i64 k0,.slice A0 sl.length sc0] B6 t l k g wr)) (fun iv _=>l.length - (intOf iv).toNat)
 case atStart=>exact⟨0,_,Nat.zero_le _,rfl,HM⟩
 case round=>(
 clear HM;obtain⟨k,⟨gn,gm,gK,gL,gM,gN,gO,gP,gQ,gR,gS⟩,hk,rfl,HM⟩:=hrel;have q0:=HM.out.q0;have q1:=HM.out.q1;have q2:=HM.out.q2;have h6:=HM.out.b6;have hbr:=HM.out.bel;simp only[V4.Vl.n,V4.Vl.m,V4.Vl.s1,V4.Vl.c1,V4.Vl.v1] at q2;by_cases hlt:k<l.length
 ·(
 obtain⟨x,hx⟩:∃ x,l[k]?=some x:=⟨_,List.getElem?_eq_getElem hlt⟩
 obtain⟨b,off,rfl,hbb,c0,c1,c2,c3,c4⟩:=V4.jqm HL.out hx;have HX:=Lh hx;have HXI:=Lh (HV.out x (List.mem_of_getElem? hx));obtain⟨x0,hx0⟩:=exq (x);rw[hx0] at HX;have HX0:=Lh hx0;clear hx hx0;obtain⟨kn,km,kK,kL,kM,kN,kO,kQ,kR,kS,kT⟩:=x;simp only[V4.Vl.n,V4.Vl.m,V4.Vl.s1,V4.Vl.c1,V4.Vl.v1] at c0 c1 c2 c3 c4;replace c0:=(hbr.cell (p:=⟨b,off+k*5,none⟩) hbb).trans c0;replace c1:=(hbr.cell (p:=⟨b,off+k*5+1,none⟩) hbb).trans c1;replace c2:=(hbr.cell (p:=⟨b,off+k*5+2,none⟩) hbb).trans c2;replace c3:=(hbr.cell (p:=⟨b,off+k*5+3,none⟩) hbb).trans c3;replace c4:=(hbr.cell (p:=⟨b,off+k*5+4,none⟩) hbb).trans c4;obtain⟨Y,hY⟩:=exq (wr.alloc (.cells #[.int .u64 kn,.int .u64 km,.slice kK kM.length kL,.slice kN kQ.length kO,.slice kR kT.length kS] 30));have hbY:Below wr.heap.size wr Y:=by rw[<- hY];exact jzf _ _
 have r8:Blk Y wr.heap.size 30 #[.int .u64 kn,.int .u64 km,.slice kK kM.length kL,.slice kN kQ.length kO,.slice kR kT.length kS]:=by rw[<- hY];exact Blk.new _ _ _
 have r0:=q0.below hbY;have r1:=q1.below hbY;have r2:=q2.below hbY;have hbwY:=hbr.trans (hbY.mono hbr.size);have hsY:=hbY.size;have hl1:=r1.lt;have hl2:=q2.lt;have hl3:=q1.lt;have hl8:=r8.lt;obtain⟨e0,e1⟩:=blk2c r0;obtain⟨a0,a1,a2,a3,a4⟩:=blk5 r2;obtain⟨b0,b1,b2,b3,b4⟩:=blk5 r8;have HJY:Hid (Calls Tryz.prog 6 #[.agg #[.int .i64 k0,.slice A0 sl.length sc0],.agg #[.int .u64 gn,.int .u64 gm,.slice gK gM.length gL,.slice gN gP.length gO,.slice gQ gS.length gR],.agg #[.int .u64 kn,.int .u64 km,.slice kK kM.length kL,.slice kN kQ.length kO,.slice kR kT.length kS]] Y (jny Y (jxs t (Vl.mk gn gm gK gL gM gN gO gP gQ gR gS).er (Vl.mk kn km kK kL kM kN kO kQ kR kS kT).er))) :=
   HJ.out _ _ Y hbwY ((HM.out.hg.keep fun b hP=>hbY.block b hP.2.1).mono fun b hP=>ltl hP.2.1 hbY.size) (HXI.out.later hbwY)
 rw[HJF.out] at HJY;obtain⟨st,hst⟩:=exq (jxg t (Vl.mk gn gm gK gL gM gN gO gP gQ gR gS).er (Vl.mk kn km kK kL kM kN kO kQ kR kS kT).er);rw[hst] at HJY;have HST:Hid (((l.map Vl.er).take (k+1)).foldlM (jxg t) (jqh t)=st):=by (
 show _=_
 rw[jg4 (getL HX.out),HM.out.fold,<- hst,<- HX0.out];rfl)
 clear hst q0 q2;go_wp2_with fail;refine HJY.out.mono ?_;rintro e T hr;obtain⟨⟨zn,zm,zK,zL,zM,zN,zO,zP,zQ,zR,zS⟩,ev,rfl,hzi,hbT,hcase⟩:=ju0 hr;simp only[jzh];clear hr HJY e0 e1 a0 a1 a2 a3 a4 b0 b1 b2 b3 b4 c0 c1 c2 c3 c4 hbb hY;have hsT:=hbT.size;obtain⟨Z,hZ⟩:=exq (T.alloc (.cells #[.int .u64 zn,.int .u64 zm,.slice zK zM.length zL,.slice zN zP.length zO,.slice zQ zS.length zR] 30));have hbZ:Below T.heap.size T Z:=by rw[<- hZ];exact jzf _ _
 have r9:Blk Z T.heap.size 30 #[.int .u64 zn,.int .u64 zm,.slice zK zM.length zL,.slice zN zP.length zO,.slice zQ zS.length zR]:=by rw[<- hZ];exact Blk.new _ _ _
 have z0:=(r0.below hbT).below hbZ;have z1:=(r1.below hbT).below hbZ;have z2:=(r2.below hbT).below hbZ;have hbwZ:Below w.heap.size w Z:=(hbwY.trans (hbT.mono hbwY.size)).trans (hbZ.mono (leT hbwY.size hbT.size));have hsZ:=hbZ.size;have HZI:Hid ((Vl.mk zn zm zK zL zM zN zO zP zQ zR zS).Inp (fun b=>Y.heap.size<=b/\b<T.heap.size) Z):=hzi.keep fun b hP=>hbZ.block b hP.2
 clear hzi r0 r1 r2 r8;rcases hcase with ⟨ho,rfl⟩ | ⟨en,ho,hz,rfl⟩
 ·(
 have HO:=Lh ho;clear ho;obtain⟨a0,a1,a2,a3,a4⟩:=blk5 r9;obtain⟨b0,b1,b2,b3,b4⟩:=blk5 z2;obtain⟨f0,f1,f2,f3,f4⟩:=fro5 z2;have HM2:Hid (AllM w #[.int .i64 k0,.slice A0 sl.length sc0] B6 t l (k+1) (.mk zn zm zK zL zM zN zO zP zQ zR zS) (jz9 Z B6 (.int .u64 zn) (.int .u64 zm) (.slice zK zM.length zL) (.slice zN zP.length zO) (.slice zQ zS.length zR))):=by (
 refine⟨(jzn (by omega)).trans z0,(jzn (by omega)).trans z1,jzc z2,(HZI.out.keep fun b hP=>jzn (by have:=hP.1;omega)).mono fun b hP=>⟨by have:=hP.1;omega,?_,by have:=hP.1;omega⟩,HST.out.trans HO.out,jzl hbwZ (by omega),h6⟩;exact ltl (ltl hP.2 hbZ.size) (Nat.le_of_eq jzp.symm))
 clear z0 z1 z2 r9 HM;go_wp2_with fail;go_roundw
 case rel=>exact⟨k+1,_,by omega,by go_num,HM2⟩
 case measure=>simp[intOf];omega)
 ·(
 have HO:=Lh ho;clear ho;have hev:jkm en = .iface 56 (.int .i64 en):=rfl;rw[hev];obtain⟨d0,d1,d2,d3,d4⟩:=blk5 z1;obtain⟨f0,f1,f2,f3,f4⟩:=fro5 z1;clear HM;go_wp2_with fail;refine bodyPost_ret (rcv5 rfl _ _ (w.heap.size+1) (.int .u64 0) (.int .u64 0) (.slice none 0 0) (.slice none 0 0) (.slice none 0 0) rfl (jzc z1)) rfl ?_;refine .inr ⟨en,?_,rfl,jzl hbwZ (by omega)⟩;rw[HF.out];exact jkl (HST.out.trans HO.out)))
 ·(
 have hkk:k=l.length:=by omega
 obtain⟨a0,a1,a2,a3,a4⟩:=blk5 q2;obtain⟨d0,d1,d2,d3,d4⟩:=blk5 q1;obtain⟨f0,f1,f2,f3,f4⟩:=fro5 q1;have hl2:=q2.lt;have HQ:=Lh (And.intro q0 q2);clear q0 q2;go_wp2_with fail;refine bodyPost_ret (rcv5 rfl _ _ (w.heap.size+1) (.int .u64 gn) (.int .u64 gm) (.slice gK gM.length gL) (.slice gN gP.length gO) (.slice gQ gS.length gR) rfl (jzc q1)) rfl ?_;refine .inl ⟨.mk gn gm gK gL gM gN gO gP gQ gR gS,?_,rfl,(HM.out.hg.keep fun b hP=>jzn (by have:=hP.1;omega)).mono fun b hP=>⟨by have:=hP.1;omega,?_⟩,jzl hbr (by omega)⟩
 ·(
 rw[HF.out];have:=HM.out.fold;rwa [List.take_of_length_le (by simp;omega)] at this)
 ·exact ltl hP.2.1 (Nat.le_of_eq jzp.symm))))
end J5
end Go.Proofs.YtobggoephhjofaaGreatDoor
