/- A part. No condition. -/
import Derived.Test.YtobggoephhjofaaGreatDoorMk23
set_option maxRecDepth 100000
set_option maxHeartbeats 16000000
namespace Go.Proofs.YtobggoephhjofaaGreatDoor
namespace J5
open Go.RowKit Go.Shelf
open C3 (Tk In jzk jzf)
open V4 (Va Vl Ck jzt jzj jzh jzw)
theorem jz8{w:World}{base:Nat}{e:TypeId}{size:Nat}{A:Option Addr}{n c:Nat}{xs:List Value}(h:w.ownsRow base e size (.slice A n c) n xs):jzt (fun b=>base<=b/\b<w.heap.size) w A xs/\n<=c/\c<=maxLen:=by
 have hl:=h;rcases h.2 with ⟨e1,h0⟩ | ⟨g,cap,cur,e1,hb,hg,j0,d8,_⟩
 ·(
 cases e1
 refine⟨.inl (List.eq_nil_of_length_eq_zero (by rw[h.1,Nat.zero_mul])),Nat.le_refl _,Nat.zero_le _⟩)
 ·(
 cases e1
 refine⟨.inr ⟨g,0,rfl,⟨hb,(Array.getElem?_eq_some_iff.1 hg).1⟩,fun i u hu=>?_⟩,j0,d8⟩;have:=World.ownsRow.cells hl (g:=g) rfl i u hu;rw[Addr.add_lit] at this;exact this)
theorem jf6{M V W:Type}{f:V->V->Option W}:∀ {l:List (M×V×V)} {r:List (M×W)},jxf f l=some r->r.map (·.1)=l.map (·.1)
  | [],r,h=>by simp[jxf] at h;subst h;rfl
  | q :: l,r,h=>by
    rw[jxf] at h
    cases hf:f q.2.1 q.2.2 with
    | none=>rw[hf] at h;simp at h
    | some v =>
      rw[hf] at h
      cases ha:jxf f l with
      | none=>rw[ha] at h;simp at h
      | some x=>rw[ha] at h;simp at h;subst h;simp[jf6 ha]
theorem jfd{M V W:Type}{f:V->V->Option W}{l:List (M×V×V)}{r:List (M×W)}(h:jwy f l=some r):r.map (·.1)=l.map (·.1):=by
 unfold jwy at h;split at h
 ·cases h
 ·exact jf6 h
theorem zip_er{M:Type}(ss:List M)(vs:List Vl):(ss.zip vs).map (fun p=>(p.1,p.2.er))=ss.zip (vs.map Vl.er):=by
 induction ss generalizing vs with
 | nil=>rfl
 | cons s ss ih=>cases vs with
   | nil=>rfl
   | cons v vs=>simp[ih]
theorem mapE_er(f:Va->Va->Option Va)(x y:Vl):jo2 f x.er y.er=(jwy f ((mix jjh vlZ (x.er.s.zip x.vs) (y.er.s.zip y.vs)).map er3S)).map fun l => .mk 0 0 (l.map (·.1)) [] (l.map (·.2)):=by
 have h:=jht (c:=jjh) (c':=jx1) (z:=vlZ) (z':=Va.zero) id Vl.er (fun _ _=>rfl) jp9 (x.er.s.zip x.vs) (y.er.s.zip y.vs);unfold jo2;obtain⟨n,m,sA,sc,ss,cA,cc,cs,vA,vc,vs⟩:=x;obtain⟨n',m',sA',sc',ss',cA',cc',cs',vA',vc',vs'⟩:=y;rw[jzw,jzw] at h ⊢;simp only[Va.s,Va.v,V4.Vl.vs,id] at h ⊢;rw[zip_er,zip_er] at h;rw[<- h];rfl
theorem jbu{w V:World}{t0 t1 t2 t3:TypeId}{c0 c1 c2 c3:Array Value}(hV:(((w.alloc (.cells c0 t0)).alloc (.cells c1 t1)).alloc (.cells c2 t2)).alloc (.cells c3 t3)=V):Blk V w.heap.size t0 c0/\Blk V (w.heap.size+1) t1 c1/\Blk V (w.heap.size+1+1) t2 c2/\Blk V (w.heap.size+1+1+1) t3 c3/\Below w.heap.size w V/\V.heap.size=w.heap.size+4:=by
 refine⟨?_,?_,?_,?_,?_,?_⟩
 ·rw[<- hV];exact (((Blk.new w _ _).below (jzf _ _)).below (jzf _ _)).below (jzf _ _)
 ·(rw[<- hV];have:=Blk.new (w.alloc (.cells c0 t0)) t1 c1;rw[World.size_alloc] at this;exact (this.below (jzf _ _)).below (jzf _ _))
 ·(rw[<- hV];have:=Blk.new ((w.alloc (.cells c0 t0)).alloc (.cells c1 t1)) t2 c2;rw[World.size_alloc,World.size_alloc] at this;exact this.below (jzf _ _))
 ·(rw[<- hV];have:=Blk.new (((w.alloc (.cells c0 t0)).alloc (.cells c1 t1)).alloc (.cells c2 t2)) t3 c3;rw[World.size_alloc,World.size_alloc,World.size_alloc] at this;exact this)
 ·rw[<- hV];exact jzk (jzk (jzk (jzk (Below.refl _ _))))
 ·rw[<- hV];simp
theorem LnS.In.mono{N N':Nat}{w:World}{L:LnS}(h:L.In N w)(hN:N<=N'):L.In N' w :=
  ⟨h.ml.mono fun _ hb=>ltl hb hN,h.vl.mono fun _ hb=>ltl hb hN,h.cap,h.top,h.dap,h.dop,fun _ _=>trivial,fun p hp=>(h.vk p hp).mono fun _ hb=>ltl hb hN⟩
theorem LnT.In.mono{N N':Nat}{w:World}{L:LnT}(h:L.In N w)(hN:N<=N'):L.In N' w :=
  ⟨h.ml.mono fun _ hb=>ltl hb hN,h.vl.mono fun _ hb=>ltl hb hN,h.cap,h.top,h.dap,h.dop,fun p hp=>V4.Ck.Inp.mono (h.mo p hp) fun _ hb=>ltl hb hN,fun p hp=>(h.vk p hp).mono fun _ hb=>ltl hb hN⟩
theorem zip_mS{ms:List Str}{vs:List Vl}(hl:ms.length=vs.length):(ms.zip vs).map (fun p=>jyh p.1)=V4.jx4 ms/\(ms.zip vs).map (·.2)=vs/\(ms.zip vs).length=ms.length:=by
 have h1:(ms.zip vs).map Prod.fst=ms:=List.map_fst_zip (by omega);refine⟨?_,List.map_snd_zip (by omega),by simp[hl]⟩;rw[show (fun p:Str×Vl=>jyh p.1)=jyh ∘ Prod.fst from rfl,<- List.map_map,h1];rfl
theorem lnS_in{w:World}{n m:Int}{sA:Option Addr}{sc:Nat}{ss:List Str}{cA:Option Addr}{cc:Nat}{cs:List Ck}{vA:Option Addr}{vc:Nat}{vs:List Vl}(h:(Vl.mk n m sA sc ss cA cc cs vA vc vs).In w)(hl:ss.length=vs.length):(LnS.mk sA sc vA vc (ss.zip vs)).In w.heap.size w:=by
 obtain⟨h1,h2,h3⟩:=zip_mS hl;cases h with
 | mk _ _ _ _ _ _ _ _ _ _ _ hn hm a1 a2 a3 b1 b2 b3 c1 c2 c3=>exact⟨by show jzt _ _ _ _;rw[h1];exact a1,by show jzt _ _ _ _;rw[h2];exact c1,by show List.length _<=_;rw[h3];exact a2.1,a2.2.1,by show List.length _<=_;rw[h3,hl];exact c2.1,c2.2.1,fun p hp=>trivial,fun p hp=>c3 _ (List.of_mem_zip hp).2⟩
theorem jh0(sA:Option Addr)(sc:Nat){ss:List Str}(vA:Option Addr)(vc:Nat){vs:List Vl}(hl:ss.length=vs.length):(LnS.mk sA sc vA vc (ss.zip vs)).val = .agg #[.slice sA ss.length sc,.slice vA vs.length vc]:=by
 unfold LnS.val;rw[(zip_mS hl).2.2,hl]
theorem zip_mT{ms:List Ck}{vs:List Vl}(hl:ms.length=vs.length):(ms.zip vs).map (fun p=>jjk p.1)=V4.jzl ms/\(ms.zip vs).map (·.2)=vs/\(ms.zip vs).length=ms.length:=by
 have h1:(ms.zip vs).map Prod.fst=ms:=List.map_fst_zip (by omega);refine⟨?_,List.map_snd_zip (by omega),by simp[hl]⟩;rw[show (fun p:Ck×Vl=>jjk p.1)=jjk ∘ Prod.fst from rfl,<- List.map_map,h1];rfl
theorem lnT_in{w:World}{n m:Int}{sA:Option Addr}{sc:Nat}{ss:List Str}{cA:Option Addr}{cc:Nat}{cs:List Ck}{vA:Option Addr}{vc:Nat}{vs:List Vl}(h:(Vl.mk n m sA sc ss cA cc cs vA vc vs).In w)(hl:cs.length=vs.length):(LnT.mk cA cc vA vc (cs.zip vs)).In w.heap.size w:=by
 obtain⟨h1,h2,h3⟩:=zip_mT hl;cases h with
 | mk _ _ _ _ _ _ _ _ _ _ _ hn hm a1 a2 a3 b1 b2 b3 c1 c2 c3=>exact⟨by show jzt _ _ _ _;rw[h1];exact b1,by show jzt _ _ _ _;rw[h2];exact c1,by show List.length _<=_;rw[h3];exact b2.1,b2.2.1,by show List.length _<=_;rw[h3,hl];exact c2.1,c2.2.1,fun p hp=>b3 _ (List.of_mem_zip hp).1,fun p hp=>c3 _ (List.of_mem_zip hp).2⟩
theorem jhz(cA:Option Addr)(cc:Nat){cs:List Ck}(vA:Option Addr)(vc:Nat){vs:List Vl}(hl:cs.length=vs.length):(LnT.mk cA cc vA vc (cs.zip vs)).val = .agg #[.slice cA cs.length cc,.slice vA vs.length vc]:=by
 unfold LnT.val;rw[(zip_mT hl).2.2,hl]
def jz9(W:World)(D:Nat)(v0 v1 v2 v3 v4:Value):World:=((((W.setCell ⟨D,0,none⟩ v0).setCell ⟨D,1,none⟩ v1).setCell ⟨D,2,none⟩ v2).setCell ⟨D,3,none⟩ v3).setCell ⟨D,4,none⟩ v4
section
variable {w W:World} {D N:Nat} {v0 v1 v2 v3 v4 z0 z1 z2 z3 z4:Value} {t:TypeId}
theorem jzc(h:Blk W D t #[z0,z1,z2,z3,z4]):Blk (jz9 W D v0 v1 v2 v3 v4) D t #[v0,v1,v2,v3,v4]:=((((h.set 0 v0).set 1 v1).set 2 v2).set 3 v3).set 4 v4
theorem jzn{b:Nat}(h:b≠D):(jz9 W D v0 v1 v2 v3 v4).heap[b]?=W.heap[b]?:=by
 unfold jz9;iterate 5 rw[Below.heap_setCell _ _ _ _ (by simpa using h)]
theorem jzu:(jz9 W D v0 v1 v2 v3 v4).heap.size=W.heap.size:=by unfold jz9;simp
theorem jzm(h:Below N w W)(hD:N<=D):Below N w (jz9 W D v0 v1 v2 v3 v4):=((((h.setCell hD v0).setCell hD v1).setCell hD v2).setCell hD v3).setCell hD v4
end
theorem Hd.valS{base:Nat}{X:Nat->Prop}{A A2:Option Addr}{n c c2:Nat}{out:List (Str×Vl)}{U:World}(h:Hd jyh 9 base X (.slice A n c) (.slice A2 n c2) out U)(hn:n=out.length)(hl:out.length<=40)(hm:∀ p∈out,p.1.length<=maxLen):(Vl.mk 0 0 A c (out.map (·.1)) none 0 [] A2 c2 (out.map (·.2))).Inp (fun b=>base<=b/\b<U.heap.size) U:=by
 subst hn;obtain⟨a1,a2,a3⟩:=jz8 h.rm;obtain⟨b1,b2,b3⟩:=jz8 h.rv;refine .mk _ _ _ _ _ _ _ _ _ _ _ (by omega) (by omega) ?_ (by simp only[List.length_map];omega) ?_ (.inl rfl) (by simp) (by simp) b1 (by simp only[List.length_map];omega) ?_
 ·simpa[V4.jx4,jyh,Function.comp_def] using a1
 ·intro s hs;obtain⟨p,hp,rfl⟩:=List.mem_map.1 hs;exact hm p hp
 ·intro x hx;obtain⟨p,hp,rfl⟩:=List.mem_map.1 hx;exact (h.vk p hp).mono fun b hP=>⟨hP.1,hP.2.1⟩
theorem jco(s:S2.Sc)(x y:Vl)(f:Va->Va->Option Va)(w:World)(hx:x.In w)(hy:y.In w)(lx:x.er.s.length=x.vs.length)(ly:y.er.s.length=y.vs.length)(hj:∀ u v:Vl,(u∈x.vs\/u=vlZ)->(v∈y.vs\/v=vlZ)->∀ W:World,Below w.heap.size w W->Calls Tryz.prog 21 #[s.val,u.val,v.val] W (jyi W (f u.er v.er))):Calls Tryz.prog 42 #[s.val,x.val,y.val] w (jyi w (jo2 f x.er y.er)):=by
 rw[mapE_er];obtain⟨sk,sA0,sc0,sl⟩:=s;obtain⟨n,m,sA,sc,ss,cA,cc,cs,vA,vc,vs⟩:=x;obtain⟨n',m',sA',sc',ss',cA',cc',cs',vA',vc',vs'⟩:=y;rw[jzw] at lx ly ⊢;rw[jzw];simp only[Va.s,V4.Vl.vs] at lx ly hj ⊢;have li:=Lh (fun W h1 h2=>jlk (.mk sA sc vA vc (ss.zip vs)) (.mk sA' sc' vA' vc' (ss'.zip vs')) W h1 h2);rw[jh0 _ _ _ _ lx,jh0 _ _ _ _ ly] at li;obtain⟨zs,fS⟩:=exq (mix jjh vlZ (ss.zip vs) (ss'.zip vs'));have xd:=Lh (lnS_in hx lx);have iG:=Lh (lnS_in hy ly);have HZ:=Lh fS;have HM:Hid (∀ p∈zs,(p.2.1∈vs\/p.2.1=vlZ)/\(p.2.2∈vs'\/p.2.2=vlZ)/\(p.1∈ss\/p.1∈ss')):=fun p hp=>by (obtain⟨h1,h2,h3⟩:=jyv jjh vlZ _ _ (fS▸hp);exact⟨h1.imp (fun ⟨q,hq,e⟩=>e▸(List.of_mem_zip hq).2) id,h2.imp (fun ⟨q,hq,e⟩=>e▸(List.of_mem_zip hq).2) id,h3.imp (fun ⟨q,hq,e⟩=>e▸(List.of_mem_zip hq).1) (fun ⟨q,hq,e⟩=>e▸(List.of_mem_zip hq).1)⟩)
 have mq:=Lh (And.intro hx.out.st hy.out.st);have HJ:=Lh hj;rw[fS] at li ⊢;clear fS hj hx hy lx ly;simp only[S2.Sc.val,jzh] at HJ ⊢;obtain⟨V,hV⟩:=exq ((((w.alloc (.cells #[.int .i64 sk,.slice sA0 sl.length sc0] 24)).alloc (.cells #[.int .u64 n,.int .u64 m,.slice sA ss.length sc,.slice cA cs.length cc,.slice vA vs.length vc] 30)).alloc (.cells #[.int .u64 n',.int .u64 m',.slice sA' ss'.length sc',.slice cA' cs'.length cc',.slice vA' vs'.length vc'] 30)).alloc (.cells #[.int .u64 0,.int .u64 0,.slice none 0 0,.slice none 0 0,.slice none 0 0] 30));obtain⟨q3,q4,q5,q6,ai,dm⟩:=jbu hV;have e0:V.cell? ⟨w.heap.size+1,2,none⟩=some (.slice sA ss.length sc):=jza q4 2 _ rfl;have e1:V.cell? ⟨w.heap.size+1,4,none⟩=some (.slice vA vs.length vc):=jza q4 4 _ rfl;have e2:V.cell? ⟨w.heap.size+1+1,2,none⟩=some (.slice sA' ss'.length sc'):=jza q5 2 _ rfl;have e3:V.cell? ⟨w.heap.size+1+1,4,none⟩=some (.slice vA' vs'.length vc'):=jza q5 4 _ rfl;have w9:=Lh ((xd.out.keep ai).mono (N':=V.heap.size) (by omega));have rg:=Lh ((iG.out.keep ai).mono (N':=V.heap.size) (by omega));clear xd iG;go_enter Tryz.func42,Tryz.ntmps42;go_wp2_with fail;refine (li.out V w9.out rg.out).mono ?_;rintro e W ⟨b1,b2,b3,rfl,af,bw⟩;have i8:=Lh (bw W.heap.size W (Below.refl _ _) (Nat.le_refl _) (Nat.le_refl _));have eX:Below w.heap.size w W:=ai.trans (af.mono (by omega));have HT:=Lh (jmg (.mk sk sA0 sc0 sl) #[.pointer (some ⟨b1,0,none⟩),.pointer (some ⟨b2,0,none⟩),.pointer (some ⟨b3,0,none⟩)] f zs W i8.out fun x hx W' hb=>HJ.out _ _ (HM.out x hx).1 (HM.out x hx).2.1 W' (eX.trans (hb.mono eX.size)));have q3W:=q3.below af;have q6W:=q6.below af;clear e0 e1 e2 e3 bw i8 li w9 rg HJ q3 q4 q5 q6;obtain⟨e0,e1⟩:=blk2c q3W;have nR:=af.size;go_wp2_with fail;refine HT.out.mono ?_;clear e0 e1 q3W HT af;rintro e U (⟨vm,vv,out,ho,rfl,hH,j8,ab⟩ | ⟨ho,rfl,ab⟩)
 ·(
 obtain⟨A,c,rfl,_⟩:=jzy hH.rm;obtain⟨A2,c2,rfl,_⟩:=jzy hH.rv;have q6U:=q6W.below ab;have hsU:=ab.size;have HO:=Lh ho;have HH:=Lh hH;clear ho hH q6W;obtain⟨U1,lV⟩:=exq (U.alloc (.cells #[.slice A out.length c,.slice A2 out.length c2] 130));have ki:Below U.heap.size U U1:=by rw[<- lV];exact jzf _ _
 have q9:Blk U1 U.heap.size 130 #[.slice A out.length c,.slice A2 out.length c2]:=by rw[<- lV];exact Blk.new _ _ _
 have q6U1:=q6U.below ki;obtain⟨e0,e1⟩:=blk2c q9;obtain⟨d0,d1,d2,d3,d4⟩:=blk5 q6U1;obtain⟨f0,f1,f2,f3,f4⟩:=fro5 q6U1;go_wp2_with fail;refine bodyPost_ret (rcv5 rfl _ _ (w.heap.size+1+1+1) (.int .u64 0) (.int .u64 0) (.slice A out.length c) (.slice none 0 0) (.slice A2 out.length c2) rfl (jzc q6U1)) rfl ?_;have tz:=jfd HO.out;have j5:∀ p∈out,p.1.length<=maxLen:=fun p hp=>by (
 have h1:p.1∈(out.map er2S).map (·.1):=by rw[List.map_map];exact List.mem_map.2 ⟨p,hp,rfl⟩
 rw[tz,List.map_map] at h1;obtain⟨q,hq,e⟩:=List.mem_map.1 h1;rw[<- e];rcases (HM.out q hq).2.2 with h | h
 ·exact mq.out.1 _ h
 ·exact mq.out.2 _ h)
 refine .inl ⟨.mk 0 0 A c (out.map (·.1)) none 0 [] A2 c2 (out.map (·.2)),?_,?_,((HH.out.valS rfl j8 j5).keep fun b hP=>?_).mono fun b hP=>⟨by omega,?_⟩,jzm ((eX.trans (ab.mono (by omega))).trans (ki.mono (by omega))) (by omega)⟩
 ·(rw[HO.out,jzw];simp[er2S,Function.comp_def])
 ·simp[jzh]
 ·exact (jzn (by omega)).trans (ki.block b hP.2)
 ·(have:=ki.size;have h5:=jzu (W:=U1) (D:=w.heap.size+1+1+1) (v0 := .int .u64 0) (v1 := .int .u64 0) (v2 := .slice A out.length c) (v3 := .slice none 0 0) (v4 := .slice A2 out.length c2);exact ltl (ltl hP.2 this) (Nat.le_of_eq h5.symm)))
 ·(
 have q6U:=q6W.below ab;have hsU:=ab.size;have HO:=Lh ho;clear ho q6W;obtain⟨U1,lV⟩:=exq (U.alloc (.cells #[.slice none 0 0,.slice none 0 0] 130));have ki:Below U.heap.size U U1:=by rw[<- lV];exact jzf _ _
 have q9:Blk U1 U.heap.size 130 #[.slice none 0 0,.slice none 0 0]:=by rw[<- lV];exact Blk.new _ _ _
 have q6U1:=q6U.below ki;obtain⟨e0,e1⟩:=blk2c q9;have g0:=jzb q9 0;have g1:=jzb q9 1;obtain⟨d0,d1,d2,d3,d4⟩:=blk5 q6U1;obtain⟨f0,f1,f2,f3,f4⟩:=fro5 q6U1;have q6X:=(q6U1.other (b:=U.heap.size) (by omega) 0 (.slice none 0 0)).other (b:=U.heap.size) (by omega) 1 (.slice none 0 0);go_wp2_with fail;refine bodyPost_ret (rcv5 rfl _ _ (w.heap.size+1+1+1) (.int .u64 0) (.int .u64 0) (.slice none 0 0) (.slice none 0 0) (.slice none 0 0) rfl (jzc q6X)) rfl ?_;refine .inr ⟨by rw[HO.out];rfl,rfl,jzm (((((eX.trans (ab.mono (by omega))).trans (ki.mono (by omega))).setCell ?_ _).setCell ?_ _)) (by omega)⟩ <;> (simp only;omega))
end J5
namespace J5
open Go.RowKit Go.Shelf
open C3 (Tk In jjd jzk jzf)
open V4 (Va Vl Ck jzt jzh jzw jxr jzd)
theorem jy0(x:Str)(w:World):Calls Tryz.prog 167 #[.string (S x)] w fun e w'=>e = .returned (.bool false)/\w=w':=by
 go_enter Tryz.func167,Tryz.ntmps167;go_wp2
 go_ret;exact⟨rfl,rfl⟩
theorem cmpS_lt{x y:Str}(h:x<y):jx1 x y = -1:=by unfold jx1;rw[if_pos h]
theorem cmpS_gt{x y:Str}(h:y<x):jx1 x y=1:=by unfold jx1;rw[if_neg (R1.jxg h),if_pos h]
theorem cmpS_eq(x:Str):jx1 x x=0:=by unfold jx1;rw[if_neg (R1.jqf x),if_neg (R1.jqf x)]
theorem jcz(x y:Str)(w:World):Calls Tryz.prog 155 #[.string (S x),.string (S y)] w fun e w'=>e = .returned (.int .i64 (jx1 x y))/\w=w':=by
 rcases R1.jvg x y with h | h | h
 ·(
 rw[cmpS_lt h];have af:=R1.jkx h;go_enter Tryz.func155,Tryz.ntmps155;go_wp2_with (go_at_call 167;refine (jy0 _ _).mono ?_;rintro e w' ⟨rfl,rfl⟩)
 go_ret;exact⟨rfl,rfl⟩)
 ·(
 subst h;rw[cmpS_eq];have af:=R1.jwb (R1.jqf x);go_enter Tryz.func155,Tryz.ntmps155;go_wp2_with (go_at_call 167;refine (jy0 _ _).mono ?_;rintro e w' ⟨rfl,rfl⟩)
 go_ret;exact⟨rfl,rfl⟩)
 ·(
 rw[cmpS_gt h];have af:=R1.jkx h;have ab:=R1.jwb (R1.jxg h);have bj:=jvr (Ne.symm (R1.jwo h));go_enter Tryz.func155,Tryz.ntmps155;go_wp2_with (go_at_call 167;refine (jy0 _ _).mono ?_;rintro e w' ⟨rfl,rfl⟩)
 go_ret;exact⟨rfl,rfl⟩)
theorem jc0{a b:List Str}{i:Nat}{x y:Str}(hx:a[i]?=some x)(hy:b[i]?=some y):jjl (a.drop i) (b.drop i)=if jx1 x y=0 then jjl (a.drop (i+1)) (b.drop (i+1)) else jx1 x y:=by
 obtain⟨hi,he⟩:=List.getElem?_eq_some_iff.1 hx;obtain⟨hj,hf⟩:=List.getElem?_eq_some_iff.1 hy;rw[List.drop_eq_getElem_cons hi,List.drop_eq_getElem_cons hj,he,hf,jjl]
theorem cmpL_eq0{a b:List Str}{i:Nat}{x y:Str}(hx:a[i]?=some x)(hy:b[i]?=some y)(h:jx1 x y=0):jjl (a.drop i) (b.drop i)=jjl (a.drop (i+1)) (b.drop (i+1)):=by rw[jc0 hx hy,if_pos h]
theorem cmpL_ne{a b:List Str}{i:Nat}{x y:Str}(hx:a[i]?=some x)(hy:b[i]?=some y)(h:jx1 x y≠0):jjl (a.drop i) (b.drop i)=jx1 x y:=by rw[jc0 hx hy,if_neg h]
theorem cmpL_gt{a b:List Str}{i:Nat}(h1:i<a.length)(h2:b.length<=i):jjl (a.drop i) (b.drop i)=1:=by
 rw[List.drop_eq_getElem_cons h1,List.drop_of_length_le h2,jjl]
theorem cmpL_lt{a b:List Str}{i:Nat}(h1:a.length<=i)(h2:i<b.length):jjl (a.drop i) (b.drop i) = -1:=by
 rw[List.drop_eq_getElem_cons h2,List.drop_of_length_le h1,jjl]
theorem cmpL_end{a b:List Str}{i:Nat}(h1:a.length<=i)(h2:b.length<=i):jjl (a.drop i) (b.drop i)=0:=by
 rw[List.drop_of_length_le h1,List.drop_of_length_le h2,jjl]
theorem jmj(A A':Option Addr)(c c':Nat)(l l':List Str)(w:World)(hl:jqr w A l)(cR:jqr w A' l')(hn:l.length<=maxLen)(rz:l'.length<=maxLen):Calls Tryz.prog 124 #[.slice A l.length c,.slice A' l'.length c'] w fun e w'=>e = .returned (.int .i64 (jjl l l'))/\w=w':=by
 have eI:l.length<=9223372036854775807:=by unfold maxLen at hn;omega
 have rC:l'.length<=9223372036854775807:=by unfold maxLen at rz;omega
 clear hn rz;go_enter Tryz.func124,Tryz.ntmps124;go_wp2_with fail;go_loopw [11] (fun iv wr=>∃ k:Nat,k<=l.length/\k<=l'.length/\iv = .int .i64 k/\wr=w/\Hid (jjl l l'=jjl (l.drop k) (l'.drop k))) (fun iv _=>l.length - (intOf iv).toNat)
 case atStart=>exact⟨0,Nat.zero_le _,Nat.zero_le _,rfl,rfl,rfl⟩
 case round=>(
 obtain⟨k,hk,eN,rfl,rfl,h0⟩:=hrel;by_cases hlt:k<l.length
 ·(
 obtain⟨b,off,rfl,hb,hc⟩:=hl.get hlt;obtain⟨x,hx⟩:∃ x,l[k]?=some x:=⟨_,List.getElem?_eq_getElem hlt⟩
 have cq:=hc k x hx;have HX:=Lh hx;clear hx hc hl;by_cases cJ:k<l'.length
 ·(
 obtain⟨b',off',rfl,ct,cP⟩:=cR.get cJ;obtain⟨y,hy⟩:∃ y,l'[k]?=some y:=⟨_,List.getElem?_eq_getElem cJ⟩
 have fI:=cP k y hy;have HY:=Lh hy;clear hy cP cR;have d1:¬ (l'.length<=k):=by omega
 obtain⟨q,hq⟩:=exq (jx1 x y);have HQ:=Lh hq;clear hq;go_wp2_with fail;refine (jcz x y _).mono ?_;rintro e w' ⟨rfl,rfl⟩;rw[HQ.out];by_cases jY:q=0
 ·(
 have k0:(q != 0)=false:=by simp[jY]
 go_wp2_with fail;go_roundw
 case rel=>exact⟨k+1,by omega,by omega,by go_num,trivial,by show _=_;rw[h0.out];exact cmpL_eq0 HX.out HY.out (HQ.out.trans jY)⟩
 case measure=>simp[intOf];omega)
 ·(
 have k0:(q != 0)=true:=by simp[jY]
 go_wp2_with fail;go_ret;refine⟨jxd ?_,rfl⟩;rw[h0.out,cmpL_ne HX.out HY.out (by rw[HQ.out];exact jY),HQ.out]))
 ·(
 have d1:l'.length<=k:=by omega
 go_wp2_with fail;go_ret;refine⟨jxd ?_,rfl⟩;rw[h0.out,cmpL_gt hlt d1]))
 ·(
 by_cases rD:l.length<l'.length
 ·(go_wp2_with fail;go_ret;refine⟨jxd ?_,rfl⟩;rw[h0.out,cmpL_lt (by omega) (by omega)])
 ·(go_wp2_with fail;go_ret;refine⟨jxd ?_,rfl⟩;rw[h0.out,cmpL_end (by omega) (by omega)])))
def or3(x y z:Int):Int:=if x=0 then (if y=0 then z else y) else x
theorem or3_any(b:Nat)(x y z:Int)(w:World)(h0:w.cell? ⟨b,0,none⟩=some (.int .i64 x))(h1:w.cell? ⟨b,1,none⟩=some (.int .i64 y))(h2:w.cell? ⟨b,2,none⟩=some (.int .i64 z)):Calls Tryz.prog 122 #[.slice (some ⟨b,0,none⟩) 3 3] w fun e w'=>e = .returned (.int .i64 (or3 x y z))/\w=w':=by
 go_enter Tryz.func122,Tryz.ntmps122;go_wp2_with fail;go_loopw [8] (fun iv wr=>∃ k:Nat,k<=3/\iv = .int .i64 k/\wr=w/\Hid (1<=k->x=0)/\Hid (2<=k->y=0)/\Hid (3<=k->z=0)) (fun iv _=>3 - (intOf iv).toNat)
 case atStart=>exact⟨0,Nat.zero_le _,rfl,rfl,(fun h=>by omega),(fun h=>by omega),fun h=>by omega⟩
 case round=>(
 obtain⟨k,hk,rfl,rfl,g0,g1,g2⟩:=hrel;rcases (by omega:k=0\/k=1\/k=2\/k=3) with rfl | rfl | rfl | rfl
 ·(
 by_cases hx:x=0
 ·(
 have k1:(x != 0)=false:=by simp[hx]
 have HX:=Lh hx;clear hx;go_wp2_with fail;go_roundw
 case rel=>exact⟨1,by omega,by go_num,trivial,(fun _=>HX.out),(fun h=>by omega),fun h=>by omega⟩
 case measure=>simp[intOf])
 ·(
 have k1:(x != 0)=true:=by simp[hx]
 go_wp2_with fail;go_ret;exact⟨by rw[or3,if_neg hx];rfl,rfl⟩))
 ·(
 have HX:=Lh (g0.out (by omega));by_cases hy:y=0
 ·(
 have k1:(y != 0)=false:=by simp[hy]
 have HY:=Lh hy;clear hy;go_wp2_with fail;go_roundw
 case rel=>exact⟨2,by omega,by go_num,trivial,(fun _=>HX.out),(fun _=>HY.out),fun h=>by omega⟩
 case measure=>simp[intOf])
 ·(
 have k1:(y != 0)=true:=by simp[hy]
 go_wp2_with fail;go_ret;exact⟨by rw[or3,if_pos HX.out,if_neg hy];rfl,rfl⟩))
 ·(
 have HX:=Lh (g0.out (by omega));have HY:=Lh (g1.out (by omega));by_cases hz:z=0
 ·(
 have k1:(z != 0)=false:=by simp[hz]
 have HZ:=Lh hz;clear hz;go_wp2_with fail;go_roundw
 case rel=>exact⟨3,by omega,by go_num,trivial,(fun _=>HX.out),(fun _=>HY.out),fun _=>HZ.out⟩
 case measure=>simp[intOf])
 ·(
 have k1:(z != 0)=true:=by simp[hz]
 go_wp2_with fail;go_ret;exact⟨by rw[or3,if_pos HX.out,if_pos HY.out];rfl,rfl⟩))
 ·(have HX:=Lh (g0.out (by omega));have HY:=Lh (g1.out (by omega));have HZ:=Lh (g2.out (by omega));go_wp2_with fail;go_ret;exact⟨by rw[or3,if_pos HX.out,if_pos HY.out,HZ.out];rfl,rfl⟩))
theorem blk2{w V:World}{t0 t1:TypeId}{c0 c1:Array Value}(hV:(w.alloc (.cells c0 t0)).alloc (.cells c1 t1)=V):Blk V w.heap.size t0 c0/\Blk V (w.heap.size+1) t1 c1/\Below w.heap.size w V/\V.heap.size=w.heap.size+2:=by
 refine⟨?_,?_,?_,?_⟩
 ·rw[<- hV];exact (Blk.new w _ _).below (jzf _ _)
 ·(rw[<- hV];have:=Blk.new (w.alloc (.cells c0 t0)) t1 c1;rw[World.size_alloc] at this;exact this)
 ·rw[<- hV];exact jzk (jzk (Below.refl _ _))
 ·rw[<- hV];simp
theorem jc1(x y:Vl)(w:World)(hx:x.In w)(hy:y.In w):Calls Tryz.prog 79 #[x.val,y.val] w (jz6 w (.int .i64 (jxc x.er y.er))):=by
 obtain⟨n,m,sA,sc,ss,cA,cc,cs,vA,vc,vs⟩:=x;obtain⟨n',m',sA',sc',ss',cA',cc',cs',vA',vc',vs'⟩:=y;have px:=hx.out;have py:=hy.out;obtain⟨p,hp⟩:=exq (jjd n n');obtain⟨q,hq⟩:=exq (jjd m m');obtain⟨r,hr⟩:=exq (jjl ss ss');have HR:Hid (jxc (Vl.mk n m sA sc ss cA cc cs vA vc vs).er (Vl.mk n' m' sA' sc' ss' cA' cc' cs' vA' vc' vs').er=or3 p q r):=by (
 show jxc _ _=_
 rw[jzw,jzw,<- hp,<- hq,<- hr];rfl)
 have HP:=Lh hp;have HQ:=Lh hq;have HL:=Lh hr;have HC:Hid (∀ W,Below w.heap.size w W->Calls Tryz.prog 124 #[.slice sA ss.length sc,.slice sA' ss'.length sc'] W fun e w'=>e = .returned (.int .i64 (jjl ss ss'))/\W=w'):=fun W hb =>
   jmj sA sA' sc sc' ss ss' W (px.sl.below hb) (py.sl.below hb) (by have:=px.sb;omega) (by have:=py.sb;omega)
 rw[HR.out];clear hx hy px py hp hq hr HR;simp only[jzh];obtain⟨V,hV⟩:=exq ((w.alloc (.cells #[.int .u64 n,.int .u64 m,.slice sA ss.length sc,.slice cA cs.length cc,.slice vA vs.length vc] 30)).alloc (.cells #[.int .u64 n',.int .u64 m',.slice sA' ss'.length sc',.slice cA' cs'.length cc',.slice vA' vs'.length vc'] 30));obtain⟨q0,q1,im,ae⟩:=blk2 hV;have a0:V.cell? ⟨w.heap.size,0,none⟩=some (.int .u64 n):=jza q0 0 _ rfl;have a1:V.cell? ⟨w.heap.size,1,none⟩=some (.int .u64 m):=jza q0 1 _ rfl;have a2:V.cell? ⟨w.heap.size,2,none⟩=some (.slice sA ss.length sc):=jza q0 2 _ rfl;have b0:V.cell? ⟨w.heap.size+1,0,none⟩=some (.int .u64 n'):=jza q1 0 _ rfl;have b1:V.cell? ⟨w.heap.size+1,1,none⟩=some (.int .u64 m'):=jza q1 1 _ rfl;have b2:V.cell? ⟨w.heap.size+1,2,none⟩=some (.slice sA' ss'.length sc'):=jza q1 2 _ rfl;have HB:=Lh im;have HS:=Lh ae;have bz:w.heap.size<V.heap.size:=by omega
 have fm:w.heap.size+1<V.heap.size:=by omega
 clear q0 q1 im ae;go_enter Tryz.func79,Tryz.ntmps79;go_wp2_with fail;refine wp_region_noPanic ?_;refine wp_region_held_drew (S:=(fun w'=>w'.cell? ⟨w.heap.size,0,none⟩=some (.int .u64 n)/\w'.cell? ⟨w.heap.size,1,none⟩=some (.int .u64 m)/\w'.cell? ⟨w.heap.size,2,none⟩=some (.slice sA ss.length sc)/\w'.cell? ⟨w.heap.size+1,0,none⟩=some (.int .u64 n')/\w'.cell? ⟨w.heap.size+1,1,none⟩=some (.int .u64 m')/\w'.cell? ⟨w.heap.size+1,2,none⟩=some (.slice sA' ss'.length sc'))) (by kernel_rfl) ?_ (fun hHeld=>?_)
 ·(first | exact⟨a0,a1,a2,b0,b1,b2⟩ | (refine⟨?_,?_,?_,?_,?_,?_⟩ <;> go_simp))
 refine tkH 0 5 ?_;refine tkH 1 6 ?_;refine tkH 2 7 ?_;refine tkH 3 8 ?_;refine tkH 5 10 ?_;refine tkH 6 11 ?_;refine tkH 7 12 ?_;refine tkH 8 13 ?_;refine tkH 10 15 ?_;refine tkH 11 16 ?_;refine tkH 12 17 ?_;refine tkH 13 18 ?_;refine rdH 4 (fun K hK=>?_);go_simp;go_wp2_with (go_at_call 123;refine (jxr n n' _).mono ?_;rintro e w4 ⟨rfl,rfl⟩;rw[HP.out])
 refine hK.out _ _ ?_ (fun hHeld=>?_)
 ·(first | exact⟨a0,a1,a2,b0,b1,b2⟩ | (refine⟨?_,?_,?_,?_,?_,?_⟩ <;> go_simp))
 clear hK K;refine rdH 9 (fun K hK=>?_);go_simp;go_wp2_with (go_at_call 123;refine (jxr m m' _).mono ?_;rintro e w4 ⟨rfl,rfl⟩;rw[HQ.out])
 refine hK.out _ _ ?_ (fun hHeld=>?_)
 ·(first | exact⟨a0,a1,a2,b0,b1,b2⟩ | (refine⟨?_,?_,?_,?_,?_,?_⟩ <;> go_simp))
 clear hK K;refine rdH 14 (fun K hK=>?_);go_simp;go_wp2_with (go_at_call 124;refine (HC.out _ HB.out.drew).mono ?_;rintro e w4 ⟨rfl,rfl⟩;rw[HL.out])
 refine hK.out _ _ ?_ (fun hHeld=>?_)
 ·(first | exact⟨a0,a1,a2,b0,b1,b2⟩ | (refine⟨?_,?_,?_,?_,?_,?_⟩ <;> go_simp))
 clear hK K;refine rdH 15 (fun K hK=>?_);go_simp;skip
 refine hK.out _ _ ?_ (fun hHeld=>?_)
 ·(first | exact⟨a0,a1,a2,b0,b1,b2⟩ | (refine⟨?_,?_,?_,?_,?_,?_⟩ <;> go_simp))
 clear hK K;refine rdH 16 (fun K hK=>?_);go_simp;go_wp2_with (go_at_call 122;refine (or3_any _ p q r _ (by simp) (by simp) (by simp)).mono ?_;rintro e w4 ⟨rfl,rfl⟩)
 refine hK.out _ _ ?_ (fun hHeld=>?_)
 ·(first | exact⟨a0,a1,a2,b0,b1,b2⟩ | (refine⟨?_,?_,?_,?_,?_,?_⟩ <;> go_simp))
 clear hK K;refine tkH 17 4 ?_;refine wpAnyH_done (by kernel_rfl) ?_ _;refine NoPanic.normal ?_;go_wp2_with fail;go_ret;exact⟨rfl,(jzk HB.out).drew⟩
open C3 (Tk In jzk jzf)
open V4 (Va Vl Ck jzt jrw jzh jzw)
theorem jo1(ss:List Str):((ss.map S).take ss.length).map Value.string=V4.jx4 ss:=by
 rw[List.take_of_length_le (by simp),List.map_map];rfl
theorem jf2(A:Option Addr)(c:Nat)(ss:List Str)(w:World)(hl:jqr w A ss)(hb:ss.length*16<=140737488351232):Calls Tryz.prog 80 #[.slice A ss.length c] w fun e w'=>∃ A' c',e = .returned (.slice A' ss.length c')/\jzt (fun b=>w.heap.size<=b/\b<w'.heap.size) w' A' (V4.jx4 ss)/\ss.length<=c'/\c'<=maxLen/\Below w.heap.size w w':=by
 cases A with
 | none=>(
 have h0:ss=[]:=by (
 rcases hl with h | ⟨_,_,h,_⟩
 ·exact h
 ·cases h)
 subst h0;refine (Go.Proofs.Tryz.slices_Clone_string_nil 0 c w).mono ?_;rintro e w' ⟨rfl,rfl⟩;exact⟨none,0,rfl,.inl rfl,Nat.le_refl _,Nat.zero_le _,Below.refl _ _⟩)
 | some a=>(
 by_cases h0:ss=[]
 ·(subst h0;refine (Go.Proofs.Tryz.slices_Clone_string_zero a c w).mono ?_;rintro e w' ⟨v,rfl,aj,_,hG⟩;obtain⟨A',c',rfl,_⟩:=jzy aj;obtain⟨h1,h2,h3⟩:=jz8 aj;exact⟨A',c',rfl,.inl rfl,h2,h3,hG⟩)
 ·(
 obtain⟨b,off,e,hlt,hc⟩:∃ b off,some a=some (⟨b,off,none⟩:Addr)/\b<w.heap.size/\∀ i x,ss[i]?=some x->w.cell? ⟨b,off+i,none⟩=some (.string (S x)):=by (
 rcases hl with h | h
 ·exact absurd h h0
 ·exact h)
 cases e
 refine (Go.Proofs.Tryz.slices_Clone_string b off ss.length c (ss.map S) w (by simp) (by omega) fun j hj=>?_).mono ?_
 ·(
 have hj':j<ss.length:=by simpa using hj
 rw[hc j _ (List.getElem?_eq_getElem hj')];congr 2
 rw[List.getD_eq_getElem?_getD,List.getElem?_map,List.getElem?_eq_getElem hj'];rfl)
 ·(rintro e w' ⟨v,rfl,aj,_,hG⟩;obtain⟨A',c',rfl,_⟩:=jzy aj;rw[jo1] at aj;obtain⟨h1,h2,h3⟩:=jz8 aj;exact⟨A',c',rfl,h1,h2,h3,hG⟩)))
theorem jdd{w V:World}{t0 t1 t2:TypeId}{c0 c1 c2:Array Value}(hV:((w.alloc (.cells c0 t0)).alloc (.cells c1 t1)).alloc (.cells c2 t2)=V):Blk V w.heap.size t0 c0/\Blk V (w.heap.size+1) t1 c1/\Blk V (w.heap.size+1+1) t2 c2/\Below w.heap.size w V/\V.heap.size=w.heap.size+3:=by
 refine⟨?_,?_,?_,?_,?_⟩
 ·rw[<- hV];exact ((Blk.new w _ _).below (jzf _ _)).below (jzf _ _)
 ·(rw[<- hV];have:=Blk.new (w.alloc (.cells c0 t0)) t1 c1;rw[World.size_alloc] at this;exact this.below (jzf _ _))
 ·(rw[<- hV];have:=Blk.new ((w.alloc (.cells c0 t0)).alloc (.cells c1 t1)) t2 c2;rw[World.size_alloc,World.size_alloc] at this;exact this)
 ·rw[<- hV];exact jzk (jzk (jzk (Below.refl _ _)))
 ·rw[<- hV];simp
theorem jbx{P:Nat->Prop}{W:World}{A:Option Addr}{c:Nat}{ss:List Str}(n m:Int)(hn:0<=n/\n<=18446744073709551615)(hm:0<=m/\m<=18446744073709551615)(hl:jzt P W A (V4.jx4 ss))(h1:ss.length<=c)(h2:c<=maxLen)(h3:ss.length*16<=140737488351232)(h4:∀ s∈ss,s.length<=maxLen) :
    (Vl.mk n m A c ss none 0 [] none 0 []).Inp P W :=
  .mk _ _ _ _ _ _ _ _ _ _ _ hn hm hl ⟨h1,h2,h3⟩ h4 (.inl rfl) (by simp) (by simp) (.inl rfl) (by simp) (by simp)
theorem jg0(x y:Vl)(w:World)(hx:x.In w)(hy:y.In w):Calls Tryz.prog 44 #[x.val,y.val] w (jrw w (jj4 x.er y.er)):=by
 obtain⟨q,hq⟩:=exq (jxc x.er y.er);have HW:=Lh (fun W h1 h2=>jc1 x y W h1 h2);rw[hq] at HW;have HL:Hid (jj4 x.er y.er=if q<0 then .mk y.er.n y.er.m y.er.s [] [] else .mk x.er.n x.er.m x.er.s [] []):=by show jj4 _ _=_;unfold jj4;rw[hq]
 obtain⟨res,a6⟩:=exq (jj4 x.er y.er);rw[a6] at HL;rw[a6];clear a6 hq;obtain⟨n,m,sA,sc,ss,cA,cc,cs,vA,vc,vs⟩:=x;obtain⟨n',m',sA',sc',ss',cA',cc',cs',vA',vc',vs'⟩:=y;rw[jzw,jzw] at HL;simp only[jzh] at HW ⊢;obtain⟨V,hV⟩:=exq (((w.alloc (.cells #[.int .u64 n,.int .u64 m,.slice sA ss.length sc,.slice cA cs.length cc,.slice vA vs.length vc] 30)).alloc (.cells #[.int .u64 n',.int .u64 m',.slice sA' ss'.length sc',.slice cA' cs'.length cc',.slice vA' vs'.length vc'] 30)).alloc (.cells #[.int .u64 0,.int .u64 0,.slice none 0 0,.slice none 0 0,.slice none 0 0] 30));obtain⟨q0,q1,q2,im,ae⟩:=jdd hV;have PX:=Lh hx.out;have PY:=Lh hy.out;have HWV:=Lh (HW.out V (hx.later im) (hy.later im));clear hx hy HW;obtain⟨a0,a1,a2,a3,a4⟩:=blk5 q0;obtain⟨b0,b1,b2,b3,b4⟩:=blk5 q1;go_enter Tryz.func44,Tryz.ntmps44;go_wp2_with fail;refine HWV.out.mono ?_;rintro e W ⟨rfl,af⟩;clear HWV hV a0 a1 a2 a3 a4 b0 b1 b2 b3 b4;have eX:Below w.heap.size w W:=im.trans (af.mono (by omega));have nR:w.heap.size+3<=W.heap.size:=by have:=af.size;omega
 replace q0:=q0.below af;replace q1:=q1.below af;replace q2:=q2.below af;clear im af ae;by_cases hd:q<0
 ·(
 have hk:decide (q<0)=true:=decide_eq_true hd;have hr:=HL.out;rw[if_pos hd] at hr;simp only[Va.n,Va.m,Va.s] at hr;subst hr;clear hd HL;obtain⟨Y,hY⟩:=exq (jz9 W w.heap.size (.int .u64 n') (.int .u64 m') (.slice sA' ss'.length sc') (.slice cA' cs'.length cc') (.slice vA' vs'.length vc'));obtain⟨a0,a1,a2,a3,a4⟩:=blk5 q0;obtain⟨b0,b1,b2,b3,b4⟩:=blk5 q1;obtain⟨f0,f1,f2,f3,f4⟩:=fro5 q0;have du:Below w.heap.size w Y:=by rw[<- hY];exact jzm eX (Nat.le_refl _)
 have rl:Y.heap.size=W.heap.size:=by rw[<- hY];exact jzu
 have q2Y:Blk Y (w.heap.size+1+1) 30 #[.int .u64 0,.int .u64 0,.slice none 0 0,.slice none 0 0,.slice none 0 0]:=by rw[<- hY];exact (jzn (by omega)).trans q2
 have q0Y:=jzc (v0 := .int .u64 n') (v1 := .int .u64 m') (v2 := .slice sA' ss'.length sc') (v3 := .slice cA' cs'.length cc') (v4 := .slice vA' vs'.length vc') q0;rw[hY] at q0Y;have bz:w.heap.size<Y.heap.size:=by omega
 have de:w.heap.size+1+1<Y.heap.size:=by omega
 go_wp2_with fail;rw[show ((((W.setCell ⟨w.heap.size,0,none⟩ (.int .u64 n')).setCell ⟨w.heap.size,1,none⟩ (.int .u64 m')).setCell ⟨w.heap.size,2,none⟩ (.slice sA' ss'.length sc')).setCell ⟨w.heap.size,3,none⟩ (.slice cA' cs'.length cc')).setCell ⟨w.heap.size,4,none⟩ (.slice vA' vs'.length vc')=Y from hY];clear hY a0 a1 a2 a3 a4 b0 b1 b2 b3 b4 f0 f1 f2 f3 f4 eX nR rl;replace q0:=q0Y;replace q2:=q2Y;clear q0Y q2Y;have a0:Y.cell? ⟨w.heap.size,0,none⟩=some (.int .u64 n'):=jza q0 0 _ rfl;have a1:Y.cell? ⟨w.heap.size,1,none⟩=some (.int .u64 m'):=jza q0 1 _ rfl;have a2:Y.cell? ⟨w.heap.size,2,none⟩=some (.slice sA' ss'.length sc'):=jza q0 2 _ rfl;have HC:=Lh (fun U (hb:Below Y.heap.size Y U)=>jf2 sA' sc' ss' U ((PY.out.sl.below du).below hb) PY.out.sb.2.2);have xC:=Lh du;have mr:=Lh q2;have hc:∀ i,i<5->True:=fun _ _=>trivial
 clear q0 q1 q2 du hc;go_region_held3 (fun w'=>w'.cell? ⟨w.heap.size,0,none⟩=some (.int .u64 n')/\w'.cell? ⟨w.heap.size,1,none⟩=some (.int .u64 m')/\w'.cell? ⟨w.heap.size,2,none⟩=some (.slice sA' ss'.length sc'))
   (first
     | with_reducible exact⟨a0,a1,a2⟩
     | (refine⟨?_,?_,?_⟩ <;> go_simp))
   (first | (go_at_call 80;refine (HC.out Y.drew (Below.refl _ _).drew).mono ?_;rintro e U ⟨A9,c9,rfl,wd,hn9,fz,jT⟩;(have HU:=Lh jT;have HL9:=Lh wd;clear wd;replace a0:=(jT.cell (p:=⟨w.heap.size,0,none⟩) bz).trans a0;replace a1:=(jT.cell (p:=⟨w.heap.size,1,none⟩) bz).trans a1;replace a2:=(jT.cell (p:=⟨w.heap.size,2,none⟩) bz).trans a2;have q2U:=mr.out.below (W':=U) ((Below.refl _ Y).drew.trans jT);have d0:U.cell? ⟨w.heap.size+1+1,0,none⟩=some (.int .u64 0):=jza q2U 0 _ rfl;have d1:U.cell? ⟨w.heap.size+1+1,1,none⟩=some (.int .u64 0):=jza q2U 1 _ rfl;have d2:U.cell? ⟨w.heap.size+1+1,2,none⟩=some (.slice none 0 0):=jza q2U 2 _ rfl;have d3:U.cell? ⟨w.heap.size+1+1,3,none⟩=some (.slice none 0 0):=jza q2U 3 _ rfl;have d4:U.cell? ⟨w.heap.size+1+1,4,none⟩=some (.slice none 0 0):=jza q2U 4 _ rfl;have f0:=jzb q2U 0;have f1:=jzb q2U 1;have f2:=jzb q2U 2;have f3:=jzb q2U 3;have f4:=jzb q2U 4;have Q2U:=Lh q2U;have hsU:w.heap.size+1+1≠w.heap.size:=(by omega);clear q2U jT)))
 go_wp2_with fail;refine bodyPost_ret (V4.jzv rfl _ _ (w.heap.size+1+1) (.int .u64 n') (.int .u64 m') (.slice A9 ss'.length c9) (.slice none 0 0) (.slice none 0 0) rfl (jza (jzc Q2U.out) 0 _ rfl) (jza (jzc Q2U.out) 1 _ rfl) (jza (jzc Q2U.out) 2 _ rfl) (jza (jzc Q2U.out) 3 _ rfl) (jza (jzc Q2U.out) 4 _ rfl)) rfl ?_;have az:Below w.heap.size w U:=xC.out.trans (((Below.refl _ Y).drew.trans HU.out).mono xC.out.size);refine⟨.mk n' m' A9 c9 ss' none 0 [] none 0 [],rfl,by rw[jzw];rfl,((jbx n' m' PY.out.hn PY.out.hm HL9.out hn9 fz PY.out.sb.2.2 PY.out.st).keep fun b hP=>jzn (by have:=hP.1;simp only[World.drew] at this;omega)).mono fun b hP=>⟨?_,?_⟩,jzm az (by omega)⟩
 ·have:=hP.1;simp only[World.drew] at this;omega
 ·exact ltl hP.2 (Nat.le_of_eq jzu.symm))
 ·(
 have hk:decide (q<0)=false:=decide_eq_false hd;have hr:=HL.out;rw[if_neg hd] at hr;simp only[Va.n,Va.m,Va.s] at hr;subst hr;clear hd HL;obtain⟨Y,hY⟩:∃ Y,Y=W:=⟨_,rfl⟩
 rw[<- hY] at eX nR q0 q1 q2;rw[<- hY];have du:=eX;have rl:=nR;clear hY eX nR;have bz:w.heap.size<Y.heap.size:=by omega
 have de:w.heap.size+1+1<Y.heap.size:=by omega
 go_wp2_with fail;have a0:Y.cell? ⟨w.heap.size,0,none⟩=some (.int .u64 n):=jza q0 0 _ rfl;have a1:Y.cell? ⟨w.heap.size,1,none⟩=some (.int .u64 m):=jza q0 1 _ rfl;have a2:Y.cell? ⟨w.heap.size,2,none⟩=some (.slice sA ss.length sc):=jza q0 2 _ rfl;have HC:=Lh (fun U (hb:Below Y.heap.size Y U)=>jf2 sA sc ss U ((PX.out.sl.below du).below hb) PX.out.sb.2.2);have xC:=Lh du;have mr:=Lh q2;have hc:∀ i,i<5->True:=fun _ _=>trivial
 clear q0 q1 q2 du hc;go_region_held3 (fun w'=>w'.cell? ⟨w.heap.size,0,none⟩=some (.int .u64 n)/\w'.cell? ⟨w.heap.size,1,none⟩=some (.int .u64 m)/\w'.cell? ⟨w.heap.size,2,none⟩=some (.slice sA ss.length sc))
   (first
     | with_reducible exact⟨a0,a1,a2⟩
     | (refine⟨?_,?_,?_⟩ <;> go_simp))
   (first | (go_at_call 80;refine (HC.out Y.drew (Below.refl _ _).drew).mono ?_;rintro e U ⟨A9,c9,rfl,wd,hn9,fz,jT⟩;(have HU:=Lh jT;have HL9:=Lh wd;clear wd;replace a0:=(jT.cell (p:=⟨w.heap.size,0,none⟩) bz).trans a0;replace a1:=(jT.cell (p:=⟨w.heap.size,1,none⟩) bz).trans a1;replace a2:=(jT.cell (p:=⟨w.heap.size,2,none⟩) bz).trans a2;have q2U:=mr.out.below (W':=U) ((Below.refl _ Y).drew.trans jT);have d0:U.cell? ⟨w.heap.size+1+1,0,none⟩=some (.int .u64 0):=jza q2U 0 _ rfl;have d1:U.cell? ⟨w.heap.size+1+1,1,none⟩=some (.int .u64 0):=jza q2U 1 _ rfl;have d2:U.cell? ⟨w.heap.size+1+1,2,none⟩=some (.slice none 0 0):=jza q2U 2 _ rfl;have d3:U.cell? ⟨w.heap.size+1+1,3,none⟩=some (.slice none 0 0):=jza q2U 3 _ rfl;have d4:U.cell? ⟨w.heap.size+1+1,4,none⟩=some (.slice none 0 0):=jza q2U 4 _ rfl;have f0:=jzb q2U 0;have f1:=jzb q2U 1;have f2:=jzb q2U 2;have f3:=jzb q2U 3;have f4:=jzb q2U 4;have Q2U:=Lh q2U;have hsU:w.heap.size+1+1≠w.heap.size:=(by omega);clear q2U jT)))
 go_wp2_with fail;refine bodyPost_ret (V4.jzv rfl _ _ (w.heap.size+1+1) (.int .u64 n) (.int .u64 m) (.slice A9 ss.length c9) (.slice none 0 0) (.slice none 0 0) rfl (jza (jzc Q2U.out) 0 _ rfl) (jza (jzc Q2U.out) 1 _ rfl) (jza (jzc Q2U.out) 2 _ rfl) (jza (jzc Q2U.out) 3 _ rfl) (jza (jzc Q2U.out) 4 _ rfl)) rfl ?_;have az:Below w.heap.size w U:=xC.out.trans (((Below.refl _ Y).drew.trans HU.out).mono xC.out.size);refine⟨.mk n m A9 c9 ss none 0 [] none 0 [],rfl,by rw[jzw];rfl,((jbx n m PX.out.hn PX.out.hm HL9.out hn9 fz PX.out.sb.2.2 PX.out.st).keep fun b hP=>jzn (by have:=hP.1;simp only[World.drew] at this;omega)).mono fun b hP=>⟨?_,?_⟩,jzm az (by omega)⟩
 ·have:=hP.1;simp only[World.drew] at this;omega
 ·exact ltl hP.2 (Nat.le_of_eq jzu.symm))
open C3 (Tk In Asc jxt jzk jzf)
open V4 (Va Vl Ck jzt jzl InC jzh)
theorem seen_any(m:Ck)(A:Option Addr)(c:Nat)(cs:List Ck)(w:World)(hm:InC w m)(am:Asc m.l)(lm:m.l.length<=1000)(hl:jzt (fun b=>b<w.heap.size) w A (jzl cs))(hn:cs.length<=maxLen)(ht:∀ k∈cs,InC w k/\Asc k.l/\k.l.length<=1000):Calls Tryz.prog 89 #[m.v,.slice A cs.length c] w (jz6 w (.bool (cs.any (jko m)))):=by
 obtain⟨V,hV⟩:=exq (w.alloc (.cells #[m.v] 54));have hb:Below w.heap.size w V:=by rw[<- hV];exact jzf _ _
 have hq:Blk V w.heap.size 54 #[m.v]:=by rw[<- hV];exact Blk.new _ _ _
 have HC:=Lh (jbr m w.heap.size A c cs V (hm.later hb) am lm (jza hq 0 _ rfl) hq.lt ((hl.below hb).mono fun _ h=>ltl h hb.size) hn fun k hk=>⟨(ht k hk).1.later hb,(ht k hk).2⟩);clear hm am lm hl hn ht hq;obtain⟨r,hr⟩:=exq (cs.any (jko m));rw[hr] at HC ⊢;clear hr;obtain⟨mA,mc,ml⟩:=m;simp only[V4.Ck.v] at HC hV ⊢;go_enter Tryz.func89,Tryz.ntmps89;go_wp2_with fail;refine HC.out.mono ?_;rintro e w' ⟨rfl,ab⟩;go_wp2_with fail;go_ret;exact⟨rfl,hb.trans (ab.mono hb.size)⟩
theorem jcf(x:Ck×Vl×Vl)(Bc:Nat)(A:Option Addr)(c:Nat)(cs:List Ck)(w:World)(hm:InC w x.1)(am:Asc x.1.l)(lm:x.1.l.length<=1000)(hl:jzt (fun b=>b<w.heap.size) w A (jzl cs))(hn:cs.length<=maxLen)(ht:∀ k∈cs,InC w k/\Asc k.l/\k.l.length<=1000)(hc:w.cell? ⟨Bc,0,none⟩=some (.slice A cs.length c)):Calls Tryz.prog 88 #[.agg (jzx x),.pointer (some ⟨Bc,0,none⟩)] w (jz6 w (.bool (cs.any (jko x.1)))):=by
 obtain⟨V,hV⟩:=exq (w.alloc (.cells (jzx x) 150));have hb:Below w.heap.size w V:=by rw[<- hV];exact jzf _ _
 have hq:Blk V w.heap.size 150 (jzx x):=by rw[<- hV];exact Blk.new _ _ _
 have HC:=Lh (seen_any x.1 A c cs V (hm.later hb) am lm ((hl.below hb).mono fun _ h=>ltl h hb.size) hn fun k hk=>⟨(ht k hk).1.later hb,(ht k hk).2⟩);have jl:=(hb.cell (p:=⟨Bc,0,none⟩) (World.block_lt_of_cell? w _ hc)).trans hc;clear hm am lm hl hn ht hc;obtain⟨r,hr⟩:=exq (cs.any (jko x.1));rw[hr] at HC ⊢;clear hr;obtain⟨⟨mA,mc,ml⟩,⟨an,aM,aK,aL,aN,aO,aP,aQ,aR,aS,aT⟩,bn,bM,bK,bL,bN,bP,bQ,bS,bT,bU,bW⟩:=x;simp only[jzx,jjk,V4.Ck.v,V4.Vl.n,V4.Vl.m,V4.Vl.s1,V4.Vl.c1,V4.Vl.v1] at HC hV hq ⊢;have e0:V.cell? ⟨w.heap.size,0,none⟩=some (.slice mA ml.length mc):=jza hq 0 _ rfl;clear hq;go_enter Tryz.func88,Tryz.ntmps88;go_wp2_with fail;refine HC.out.mono ?_;rintro e w' ⟨rfl,ab⟩;go_wp2_with fail;go_ret;exact⟨rfl,hb.trans (ab.mono hb.size)⟩
theorem jb9(u v:Value)(lb lc:Array Value)(g h:FuncId)(hu:u = .func (.func g) #[] lb)(hv:v = .func (.func h) #[] lc)(w:World):Calls Tryz.prog 87 #[u,v] w fun e w'=>e = .returned (.func (.func 134) #[] #[.pointer (some ⟨w.heap.size,0,none⟩),.pointer (some ⟨w.heap.size+1,0,none⟩)])/\(w.alloc (.cells #[u] 141)).alloc (.cells #[v] 152)=w':=by
 subst hu;subst hv;go_enter Tryz.func87,Tryz.ntmps87;go_wp2_with fail;go_ret;exact⟨rfl,rfl⟩
end J5
end Go.Proofs.YtobggoephhjofaaGreatDoor
