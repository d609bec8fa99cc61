/- A part. No condition. -/
import Derived.Test.YtobggoephhjofaaGreatDoorMk27
set_option maxRecDepth 100000
set_option maxHeartbeats 16000000
namespace Go.Proofs.YtobggoephhjofaaGreatDoor
namespace J5
open Go.RowKit Go.Shelf
open C3 (Tk In Asc jxt jzk jzf jkg)
open V4 (Va Vl Ck jzt jzl jzj jju InC jzh jzw)
theorem jyo{Z:World}{o:Option (List (Ck×Va))}{e:Ending}{U:World}(h:RetTT Z o e U):∃ (A:Option Addr) (k0 c:Nat) (A2:Option Addr) (c2:Nat) (ev:Value) (out:List (Ck×Vl)),e = .returned (.tuple #[.agg #[.slice A k0 c,.slice A2 k0 c2],ev])/\Hd jjk 54 Z.heap.size (fun _=>True) (.slice A k0 c) (.slice A2 k0 c2) out U/\out.length=k0/\k0<=40/\Below Z.heap.size Z U/\((o=some (out.map er2T)/\ev = .nilIface)\/(o=none/\out=[]/\ev=jwz 13/\A=none/\c=0/\A2=none/\c2=0/\k0=0)):=by
 rcases h with ⟨vm,vv,out,ho,rfl,hH,hl,hb⟩ | ⟨ho,rfl,hb⟩
 ·(obtain⟨A,c,rfl,_⟩:=jzy hH.rm;obtain⟨A2,c2,rfl,_⟩:=jzy hH.rv;exact⟨A,_,c,A2,c2,_,out,rfl,hH,rfl,hl,hb,.inl ⟨ho,rfl⟩⟩)
 ·exact⟨none,0,0,none,0,_,[],rfl,Hd.nil _ _ _,rfl,Nat.zero_le _,hb,.inr ⟨ho,rfl,rfl,rfl,rfl,rfl,rfl,rfl⟩⟩
theorem jp0(s:S2.Sc)(x y:Vl)(f:Va->Va->Option Va)(w:World)(hx:x.In w)(hy:y.In w)(lx:x.er.c.length=x.vs.length)(ly:y.er.c.length=y.vs.length)(n0:x.vs.length<=1000)(n1:y.vs.length<=1000)(ew:∀ k∈x.er.c++y.er.c,Asc k/\k.length<=1000)(hj:∀ u v:Vl,(u∈x.vs\/u=vlZ)->(v∈y.vs\/v=vlZ)->∀ W:World,Below w.heap.size w W->Calls Tryz.prog 21 #[s.val,u.val,v.val] W (jyi W (f u.er v.er))):Calls Tryz.prog 46 #[s.val,x.val,y.val] w (jyi w (jwu f x.er y.er)):=by
 obtain⟨sk,sA0,sc0,sl⟩:=s;obtain⟨n,m,sA,sc,ss,cA,cc,cs,vA,vc,vs⟩:=x;obtain⟨n',m',sA',sc',ss',cA',cc',cs',vA',vc',vs'⟩:=y;rw[jn4];rw[jzw] at lx ly ew;rw[jzw] at ew;simp only[Va.c,V4.Vl.vs,List.length_map] at lx ly n0 n1 hj;have jQ:Hid (∀ k∈cs++cs',InC w k/\Asc k.l/\k.l.length<=1000):=fun k hk=>by (
 have h2:=ew k.l (by simp only[Va.c];rw[<- List.map_append];exact List.mem_map.2 ⟨k,hk,rfl⟩);refine⟨?_,h2⟩;rcases List.mem_append.1 hk with hk | hk
 ·cases hx with | mk _ _ _ _ _ _ _ _ _ _ _ _ _ _ _ _ _ _ b3 _ _ _=>exact b3 k hk
 ·cases hy with | mk _ _ _ _ _ _ _ _ _ _ _ _ _ _ _ _ _ _ b3 _ _ _=>exact b3 k hk)
 have te:Hid (jzt (fun b=>b<w.heap.size) w cA (jzl cs)/\jzt (fun b=>b<w.heap.size) w cA' (jzl cs')):=by (
 constructor
 ·cases hx with | mk _ _ _ _ _ _ _ _ _ _ _ _ _ _ _ _ b1 _ _ _ _ _=>exact b1
 ·cases hy with | mk _ _ _ _ _ _ _ _ _ _ _ _ _ _ _ _ b1 _ _ _ _ _=>exact b1)
 have li:=Lh (fun W h1 h2=>jlj (.mk cA cc vA vc (cs.zip vs)) (.mk cA' cc' vA' vc' (cs'.zip vs')) W h1 h2);rw[jhz _ _ _ _ lx,jhz _ _ _ _ ly] at li;obtain⟨zs,fS⟩:=exq (mix jja vlZ (cs.zip vs) (cs'.zip vs'));have xd:=Lh (lnT_in hx lx);have iG:=Lh (lnT_in hy ly);have HM:Hid (∀ p∈zs,(p.2.1∈vs\/p.2.1=vlZ)/\(p.2.2∈vs'\/p.2.2=vlZ)/\p.1∈cs++cs'):=fun p hp=>by (obtain⟨h1,h2,h3⟩:=jyv jja vlZ _ _ (fS▸hp);exact⟨h1.imp (fun ⟨q,hq,e⟩=>e▸(List.of_mem_zip hq).2) id,h2.imp (fun ⟨q,hq,e⟩=>e▸(List.of_mem_zip hq).2) id,List.mem_append.2 (h3.imp (fun ⟨q,hq,e⟩=>e▸(List.of_mem_zip hq).1) (fun ⟨q,hq,e⟩=>e▸(List.of_mem_zip hq).1))⟩)
 have HJ:=Lh hj;have HN:=Lh (And.intro (lx▸n0) (ly▸n1));rw[fS] at li ⊢;clear fS hj hx hy lx ly n0 n1 ew;simp only[S2.Sc.val,jzh] at HJ ⊢;obtain⟨V,hV⟩:=exq ((((w.alloc (.cells #[.int .i64 sk,.slice sA0 sl.length sc0] 24)).alloc (.cells #[.int .u64 n,.int .u64 m,.slice sA ss.length sc,.slice cA cs.length cc,.slice vA vs.length vc] 30)).alloc (.cells #[.int .u64 n',.int .u64 m',.slice sA' ss'.length sc',.slice cA' cs'.length cc',.slice vA' vs'.length vc'] 30)).alloc (.cells #[.int .u64 0,.int .u64 0,.slice none 0 0,.slice none 0 0,.slice none 0 0] 30));obtain⟨q3,q4,q5,q6,ai,dm⟩:=jbu hV;have e0:V.cell? ⟨w.heap.size+1,3,none⟩=some (.slice cA cs.length cc):=jza q4 3 _ rfl;have e1:V.cell? ⟨w.heap.size+1,4,none⟩=some (.slice vA vs.length vc):=jza q4 4 _ rfl;have e2:V.cell? ⟨w.heap.size+1+1,3,none⟩=some (.slice cA' cs'.length cc'):=jza q5 3 _ rfl;have e3:V.cell? ⟨w.heap.size+1+1,4,none⟩=some (.slice vA' vs'.length vc'):=jza q5 4 _ rfl;have w9:=Lh ((xd.out.keep ai).mono (N':=V.heap.size) (by omega));have rg:=Lh ((iG.out.keep ai).mono (N':=V.heap.size) (by omega));clear xd iG;go_enter Tryz.func46,Tryz.ntmps46;go_wp2_with fail;refine (li.out V w9.out rg.out).mono ?_;rintro e W ⟨b1,b2,b3,rfl,af,bw⟩;have i8:=Lh bw;have eX:Below w.heap.size w W:=ai.trans (af.mono (by omega));have q3W:=q3.below af;have q6W:=q6.below af;have f0:W.cell? ⟨w.heap.size+1,3,none⟩=some (.slice cA cs.length cc):=jza (q4.below af) 3 _ rfl;have f2:W.cell? ⟨w.heap.size+1+1,3,none⟩=some (.slice cA' cs'.length cc'):=jza (q5.below af) 3 _ rfl;clear e0 e1 e2 e3 bw li w9 rg q3 q4 q5 q6;have nR:=af.size;obtain⟨V2,nt⟩:=exq (W.alloc (.cells #[.slice cA cs.length cc,.slice cA' cs'.length cc'] 27));have b9:Below W.heap.size W V2:=by rw[<- nt];exact jzf _ _
 have q7:Blk V2 W.heap.size 27 #[.slice cA cs.length cc,.slice cA' cs'.length cc']:=by rw[<- nt];exact Blk.new _ _ _
 have ez:Below w.heap.size w V2:=eX.trans (b9.mono eX.size);go_wp2_with fail;refine (jf1 W.heap.size 2 cA cc cs cA' cc' cs' V2 (jza q7 0 _ rfl) (jza q7 1 _ rfl) ((te.out.1.below ez).mono fun _ h=>ltl h ez.size) ((te.out.2.below ez).mono fun _ h=>ltl h ez.size) HN.out.1 HN.out.2).mono ?_;rintro e W3 ⟨v3,rfl,ap,bj⟩;obtain⟨A3,c3,rfl,_⟩:=jzy ap;have HR:=Lh (jz8 ap);have aq:(cs++cs').length<=2000:=by rw[List.length_append];have:=HN.out.1;have:=HN.out.2;omega
 obtain⟨n3,vB⟩:=exq ((cs++cs').length);rw[vB] at aq HR;rw[vB];have od:=Lh vB;have ke:Below W.heap.size W W3:=b9.trans (bj.mono b9.size);have q3U:=q3W.below ke;have q6U:=q6W.below ke;clear vB ap q7 nt b9 ez bj q3W q6W f0 f2;obtain⟨Vq,hVq⟩:=exq (W3.alloc (.cells #[.slice A3 n3 c3] 27));have jF:Below W3.heap.size W3 Vq:=by rw[<- hVq];exact jzf _ _
 have q9:Blk Vq W3.heap.size 27 #[.slice A3 n3 c3]:=by rw[<- hVq];exact Blk.new _ _ _
 have q3:=q3U.below jF;have q6:=q6U.below jF;obtain⟨g0,g1⟩:=blk2c q3;clear q3U q6U;have lO:Below w.heap.size w Vq:=(eX.trans (ke.mono eX.size)).trans (jF.mono (leT eX.size ke.size));have sw:Below W.heap.size W Vq:=ke.trans (jF.mono ke.size);have HT:Hid (∀ (Z:World) (Ba Bi:Nat),Below Vq.heap.size Vq Z->Blk Z Ba 141 #[.func (.func 129) #[] #[.pointer (some ⟨b1,0,none⟩),.pointer (some ⟨b2,0,none⟩),.pointer (some ⟨b3,0,none⟩)]]->Blk Z Bi 152 #[.func (.func 88) #[] #[.pointer (some ⟨W3.heap.size,0,none⟩)]] ->
     Calls Tryz.prog 86 #[.agg #[.int .i64 sk,.slice sA0 sl.length sc0],.func (.func 134) #[] #[.pointer (some ⟨Ba,0,none⟩),.pointer (some ⟨Bi,0,none⟩)]] Z (RetTT Z (jwy f ((zs.filter fun p=>!(cs++cs').any (jko p.1)).map jri)))):=by
   intro Z Ba Bi hZ ha hi
   have hWZ:Below W.heap.size W Z:=sw.trans (hZ.mono sw.size)
   have hwZ:Below w.heap.size w Z:=lO.trans (hZ.mono lO.size)
   refine jmf (.mk sk sA0 sc0 sl) _ f _ Z (jul Ba Bi W3.heap.size b1 b2 b3 (fun x=>(cs++cs').any (jko x.1)) zs Z.heap.size Z (Nat.le_refl _) (i8.out _ Z hWZ hWZ.size (Nat.le_refl _)) ?_ ha hi hi.lt) ?_
   · intro x hxz W' tD jg
     have ag:∀ b,b<Vq.heap.size->W'.heap[b]?=Vq.heap[b]?:=fun b hb=>(tD b (ltl hb hZ.size)).trans (hZ.block b hb)
     have inc:∀ k∈cs++cs',InC W' k/\Asc k.l/\k.l.length<=1000:=fun k hk =>
       ⟨((jQ.out k hk).1.keep fun b hb=>(ag b (ltl hb lO.size)).trans (lO.block b hb)).mono fun b hb=>ltl (ltl hb hwZ.size) jg,(jQ.out k hk).2⟩
     have hm:=inc x.1 (HM.out x hxz).2.2
     refine jcf x W3.heap.size A3 c3 (cs++cs') W' hm.1 hm.2.1 hm.2.2 ((HR.out.1.keep fun b hb=>(ag b (ltl hb.2 jF.size)).trans (jF.block b hb.2)).mono fun b hb=>ltl (ltl (ltl hb.2 jF.size) hZ.size) jg) ?_ inc ?_
     · have:=od.out;unfold maxLen;omega
     · have hq:Blk W' W3.heap.size 27 #[.slice A3 n3 c3]:=(ag _ q9.lt).trans q9
       rw[od.out]
       exact jza hq 0 _ rfl
   · intro x hx W' tD
     have hm:=HM.out x (List.mem_filter.1 hx).1
     exact HJ.out _ _ hm.1 hm.2.1 W' (hwZ.trans (tD.mono hwZ.size))
 have HE:=Lh (And.intro lO (And.intro q3 q6));have jW:w.heap.size+1+1+1<Vq.heap.size:=q6.lt;clear i8 HR od te q9 sw jF ke hV ai dm eX af nR HJ q3 q6;go_wp2_with fail;clear hVq;refine Code.wp_mono (Q:=fun e a' X=>e = .normal/\∃ (Ba Bi D k0:Nat) (A:Option Addr) (c:Nat) (A2:Option Addr) (c2:Nat) (ev:Value) (base:Nat) (out:List (Ck×Vl)),a'=⟨#[.agg #[.int .i64 sk,.slice sA0 sl.length sc0],.agg #[.int .u64 n,.int .u64 m,.slice sA ss.length sc,.slice cA cs.length cc,.slice vA vs.length vc],.agg #[.int .u64 n',.int .u64 m',.slice sA' ss'.length sc',.slice cA' cs'.length cc',.slice vA' vs'.length vc'],.pointer (some ⟨w.heap.size,0,none⟩),.pointer (some ⟨w.heap.size+1,0,none⟩),.pointer (some ⟨w.heap.size+1+1,0,none⟩),.pointer (some ⟨w.heap.size+1+1+1,0,none⟩),.nilIface,.func (.func 129) #[] #[.pointer (some ⟨b1,0,none⟩),.pointer (some ⟨b2,0,none⟩),.pointer (some ⟨b3,0,none⟩)],.pointer (some ⟨W3.heap.size,0,none⟩),.pointer (some ⟨D,0,none⟩),ev,undef,undef,.pointer (some ⟨w.heap.size+1,3,none⟩),.slice cA cs.length cc,.pointer (some ⟨w.heap.size+1,4,none⟩),.slice vA vs.length vc,.agg #[.slice cA cs.length cc,.slice vA vs.length vc],.pointer (some ⟨w.heap.size+1+1,3,none⟩),.slice cA' cs'.length cc',.pointer (some ⟨w.heap.size+1+1,4,none⟩),.slice vA' vs'.length vc',.agg #[.slice cA' cs'.length cc',.slice vA' vs'.length vc'],.func (.func 129) #[] #[.pointer (some ⟨b1,0,none⟩),.pointer (some ⟨b2,0,none⟩),.pointer (some ⟨b3,0,none⟩)],.pointer (some ⟨w.heap.size+1,3,none⟩),.slice cA cs.length cc,.pointer (some ⟨w.heap.size+1+1,3,none⟩),.slice cA' cs'.length cc',.slice (some ⟨W.heap.size,0,none⟩) 2 2,.slice A3 n3 c3,.tuple #[.agg #[.slice A k0 c,.slice A2 k0 c2],ev],.agg #[.int .i64 sk,.slice sA0 sl.length sc0],.func (.func 129) #[] #[.pointer (some ⟨b1,0,none⟩),.pointer (some ⟨b2,0,none⟩),.pointer (some ⟨b3,0,none⟩)],.func (.func 88) #[] #[.pointer (some ⟨W3.heap.size,0,none⟩)],.func (.func 134) #[] #[.pointer (some ⟨Ba,0,none⟩),.pointer (some ⟨Bi,0,none⟩)],.tuple #[.agg #[.slice A k0 c,.slice A2 k0 c2],ev],.agg #[.slice A k0 c,.slice A2 k0 c2],ev,undef,undef,undef,undef,undef,undef,undef,undef,undef,undef,undef,undef,undef,undef,undef,undef,undef,undef,undef,undef,undef],[]⟩ /\
     Blk X D 143 #[.slice A k0 c,.slice A2 k0 c2]/\Blk X (w.heap.size+1+1+1) 30 #[.int .u64 0,.int .u64 0,.slice none 0 0,.slice none 0 0,.slice none 0 0]/\Hd jjk 54 base (fun _=>True) (.slice A k0 c) (.slice A2 k0 c2) out X/\w.heap.size+1+1+1<base/\w.heap.size<D/\out.length=k0/\k0<=40/\Below w.heap.size w X /\
     ((jwy f ((zs.filter fun p=>!(cs++cs').any (jko p.1)).map jri)=some (out.map er2T)/\ev = .nilIface)\/(jwy f ((zs.filter fun p=>!(cs++cs').any (jko p.1)).map jri)=none/\out=[]/\ev=jwz 13/\A=none/\c=0/\A2=none/\c2=0/\k0=0))) ?_ ?_
 ·(
 rintro e a' X ⟨rfl,Ba,Bi,D,k0,A,c,A2,c2,ev,base,out,rfl,hD,hQ,hH,b6,hDw,iM,ii,eE,aB⟩;clear HT HE lO jW g0 g1;have HMK:Hid (∀ k∈out.map (·.1),InC w k/\k.l.length<=1000):=fun k hk=>by (
 rcases aB with ⟨h1,_⟩ | ⟨_,h1,_⟩
 ·(
 have h2:=jfd h1;have h3:k∈(out.map er2T).map (·.1):=by rw[List.map_map];exact hk
 rw[h2,List.map_map] at h3;obtain⟨q,hq,rfl⟩:=List.mem_map.1 h3;have h4:=jQ.out _ (HM.out q (List.mem_filter.1 hq).1).2.2;exact⟨h4.1,h4.2.2⟩)
 ·rw[h1] at hk;cases hk)
 have xw:=Lh aB;have HK:=Lh (And.intro (Mks.start hH) iM);have HQ:=Lh (And.intro hD (And.intro hQ eE));have HB:=Lh b6;clear aB hH iM b6 jQ HM;have d0:X.cell? ⟨D,0,none⟩=some (.slice A k0 c):=jza hD 0 _ rfl;clear hD hQ eE;dsimp only
 go_wp2_with fail;go_loopw [42] (fun iv wr=>∃ (i:Nat) (ms:List Ck),i<=k0/\iv = .int .i64 i/\Hid (Mks base i (.slice A k0 c) (.slice A2 k0 c2) ms (out.map (·.2)) wr)/\Hid (ms.length=k0/\ms.map Ck.l=out.map (·.1.l)/\∀ j,i<=j->ms[j]?=(out.map (·.1))[j]?)/\Hid (Blk wr D 143 #[.slice A k0 c,.slice A2 k0 c2]/\Blk wr (w.heap.size+1+1+1) 30 #[.int .u64 0,.int .u64 0,.slice none 0 0,.slice none 0 0,.slice none 0 0]/\Below w.heap.size w wr)) (fun iv _=>k0 - (intOf iv).toNat)
 case atStart=>exact⟨0,_,Nat.zero_le _,rfl,HK.out.1,⟨by rw[List.length_map];exact HK.out.2,by rw[List.map_map];rfl,fun _ _=>rfl⟩,HQ.out⟩
 case round=>(
 obtain⟨i,ms,hik,rfl,hM,mh,hG⟩:=hrel;by_cases hlt:i<k0
 ·(
 obtain⟨k,hk⟩:∃ k,ms[i]?=some k:=⟨_,List.getElem?_eq_getElem (by rw[mh.out.1];exact hlt)⟩
 have sa:=HMK.out k (List.mem_of_getElem? ((mh.out.2.2 i (Nat.le_refl _)).symm.trans hk));have tw:=hM.out.rm;obtain⟨g,rfl,cur,hg⟩:∃ g,A=some ⟨g,0,none⟩/\∃ cur,wr.heap[g]?=some (.cells cur 54 (0,0)):=by (
 rcases tw.2 with ⟨_,e2⟩ | ⟨g,cap,cur,e1,_,hg,_⟩
 ·have:=mh.out.1;omega
 ·cases e1;exact⟨g,rfl,cur,hg⟩)
 have cq:wr.cell? ⟨g,i,none⟩=some k.v:=by (have:=World.ownsRow.cells tw (g:=g) rfl i k.v (by unfold jzl;rw[List.getElem?_map,hk];rfl);rw[Addr.add_lit,Nat.zero_add] at this;exact this)
 have cJ:=hg;have hgD:D≠g:=fun e=>jk0 tw hG.out.1 (by decide) (by rw[e];rfl)
 have hgQ:w.heap.size+1+1+1≠g:=fun e=>jk0 tw hG.out.2.1 (by decide) (by rw[e];rfl)
 have qh:=tw.lt g rfl;have iG:=Lh ((sa.1.later hG.out.2.2).later (C3.jqz wr));have mO:=sa.2;have HG:=Lh hg;have HK:=Lh hk;obtain⟨kA,kc,kl⟩:=k;simp only[V4.Ck.v] at cq mO;clear tw sa hg hk cJ HMK d0 HQ;have d0r:wr.cell? ⟨D,0,none⟩=some (.slice (some ⟨g,0,none⟩) k0 c):=jza hG.out.1 0 _ rfl;go_wp2_with fail;refine wp_region_noPanic ?_;refine wp_region_held_drew (S:=fun w'=>w'.cell? ⟨D,0,none⟩=some (.slice (some ⟨g,0,none⟩) k0 c)) (by kernel_rfl) ?_ (fun hHeld=>?_)
 ·exact d0r
 refine tkH 0 47 ?_;refine tkH 1 48 ?_;refine tkH 2 49 ?_;refine tkH 3 50 ?_;refine rdH 4 (fun K hK=>?_);go_simp;go_wp2_with (go_at_call 90;refine (jrm ⟨kA,kc,kl⟩ _ iG.out mO).mono ?_;rintro e Y ⟨k',rfl,we,sd,du⟩)
 replace du:Below wr.heap.size wr Y:=(C3.jqz wr).trans du;obtain⟨kA',kc',kl'⟩:=k';simp only at we;subst we;have hgY:Y.heap[g]?=some (.cells cur 54 (0,0)):=(du.block g qh.2).trans HG.out;have io:Blk Y D 143 #[.slice (some ⟨g,0,none⟩) k0 c,.slice A2 k0 c2]:=hG.out.1.below du;have hQY:=hG.out.2.1.below du;have hbwY:Below w.heap.size w Y:=hG.out.2.2.trans (du.mono hG.out.2.2.size);have HMY:=Lh (hM.out.below du);have hc0Y:Y.cell? ⟨g,i,none⟩=some (.slice kA kl'.length kc):=(du.cell (p:=⟨g,i,none⟩) qh.2).trans cq;have fzY:Y.frozen? ⟨g,i,none⟩=false:=frozen_of_row Y g i cur _ hgY;have d0Y:Y.cell? ⟨D,0,none⟩=some (.slice (some ⟨g,0,none⟩) k0 c):=jza io 0 _ rfl;have HP:=Lh (HMY.out.put (k:=⟨kA',kc',kl'⟩) mh.out.1 (sd.mono fun b hb=>⟨leT (HMY.out.rm.lt g rfl).1 (leT (Nat.le_of_lt qh.2) hb.1),hb.2,fun e=>Nat.lt_irrefl _ (ltl (e▸qh.2) hb.1)⟩));simp only[V4.Ck.v] at HP ⊢;refine hK.out _ _ ?_ (fun hHeld=>?_)
 ·exact d0Y
 clear hK K sd d0r cq;refine tkH 5 52 ?_;refine rdH 6 (fun K hK=>?_);go_simp;refine hK.out _ _ ?_ (fun hHeld=>?_)
 ·exact jza (io.other hgD i _) 0 _ rfl
 clear hK K;refine wpAnyH_done (by kernel_rfl) ?_ _;refine NoPanic.normal ?_;go_wp2_with fail;go_roundw
 case rel=>(
 refine⟨i+1,ms.set i ⟨kA',kc',kl'⟩,by omega,by go_num,HP.out,⟨by rw[List.length_set];exact mh.out.1,?_,fun j hj=>?_⟩,io.other hgD i _,hQY.other hgQ i _,hbwY.setCell (by have:=(HMY.out.rm.lt g rfl).1;have:=HB.out;simp only;omega) _⟩
 ·(
 rw[List.map_set,<- mh.out.2.1];apply List.ext_getElem?;intro j;rw[List.getElem?_set];split
 ·(
 rename_i e;subst e
 rw[List.getElem?_map,HK.out];simp[mh.out.1,hlt])
 ·rfl)
 ·(rw[List.getElem?_set_ne (by omega)];exact mh.out.2.2 j (by omega)))
 case measure=>simp[intOf];omega)
 ·(
 have e9:i=k0:=by omega
 subst e9;have q6:=hG.out.2.1;have q10:=hG.out.1;obtain⟨e0,e1⟩:=blk2c q10;obtain⟨d0',d1,d2,d3,d4⟩:=blk5 q6;obtain⟨f0,f1,f2,f3,f4⟩:=fro5 q6;clear HMK d0 HQ;go_wp2_with fail;refine bodyPost_ret (rcv5 rfl _ _ (w.heap.size+1+1+1) (.int .u64 0) (.int .u64 0) (.slice none 0 0) (.slice A i c) (.slice A2 i c2) rfl (jzc q6)) rfl ?_;have vq:=HK.out.2;rcases xw.out with ⟨h1,rfl⟩ | ⟨h1,rfl,rfl,rfl,rfl,rfl,rfl,rfl⟩
 ·(
 refine .inl ⟨.mk 0 0 none 0 [] A c ms A2 c2 (out.map (·.2)),?_,?_,((hM.out.val mh.out.1 (by rw[List.length_map];exact vq) (by rw[mh.out.1];exact Nat.le_refl _) ii ii).keep fun b hP=>?_).mono fun b hP=>⟨by have:=HB.out;omega,?_⟩,jzm hG.out.2.2 (by omega)⟩
 ·(rw[h1,jzw,mh.out.2.1];simp[er2T,Function.comp_def])
 ·simp[jzh,mh.out.1,vq]
 ·exact jzn (by have:=HB.out;omega)
 ·(have h5:=jzu (W:=wr) (D:=w.heap.size+1+1+1) (v0 := .int .u64 0) (v1 := .int .u64 0) (v2 := .slice none 0 0) (v3 := .slice A i c) (v4 := .slice A2 i c2);exact ltl hP.2 (Nat.le_of_eq h5.symm)))
 ·exact .inr ⟨by rw[h1];rfl,rfl,jzm hG.out.2.2 (by omega)⟩)))
 ·(
 refine wp_region_noPanic ?_;refine wp_region_held_drew (S:=fun w'=>w'.cell? ⟨w.heap.size,0,none⟩=some (.int .i64 sk)/\w'.cell? ⟨w.heap.size,1,none⟩=some (.slice sA0 sl.length sc0)) (by kernel_rfl) ?_ (fun hHeld=>?_)
 ·exact⟨g0,g1⟩
 refine tkH 0 32 ?_;refine tkH 1 33 ?_;refine tkH 2 34 ?_;obtain⟨Z0,hZ0⟩:=exq (Vq.drew);rw[hZ0] at hHeld ⊢;have im:Below Vq.heap.size Vq Z0:=by rw[<- hZ0];exact C3.jqz Vq
 clear hZ0 g0 g1;refine wpAnyH_ready (rs:=[3,8]) (by kernel_rfl) (by simp) ?_;refine AllReadyH.cons rfl (fun K hK=>?c3) (AllReadyH.cons rfl (fun K hK=>?c8) AllReadyH.nil);case c3=>(
 go_simp;go_wp2_with (go_at_call 87;refine (jb9 _ _ _ _ _ _ rfl rfl Z0).mono ?_;rintro e Z1 ⟨rfl,sJ⟩)
 have wA:Below Z0.heap.size Z0 Z1:=by rw[<- sJ];exact jzk (jzf _ _)
 have mn:Blk Z1 Z0.heap.size 141 #[.func (.func 129) #[] #[.pointer (some ⟨b1,0,none⟩),.pointer (some ⟨b2,0,none⟩),.pointer (some ⟨b3,0,none⟩)]]:=by rw[<- sJ];exact (Blk.new _ _ _).below (jzf _ _)
 have jq:Blk Z1 (Z0.heap.size+1) 152 #[.func (.func 88) #[] #[.pointer (some ⟨W3.heap.size,0,none⟩)]]:=by (rw[<- sJ];have:=Blk.new (Z0.alloc (.cells #[.func (.func 129) #[] #[.pointer (some ⟨b1,0,none⟩),.pointer (some ⟨b2,0,none⟩),.pointer (some ⟨b3,0,none⟩)]] 141)) 152 #[.func (.func 88) #[] #[.pointer (some ⟨W3.heap.size,0,none⟩)]];rw[World.size_alloc] at this;exact this)
 have dg:Below Vq.heap.size Vq Z1:=im.trans (wA.mono im.size);refine hK.out _ _ ?_ (fun hHeld=>?_)
 ·exact⟨jza (HE.out.2.1.below dg) 0 _ rfl,jza (HE.out.2.1.below dg) 1 _ rfl⟩
 clear hK K;refine wpAnyH_ready (rs:=[4,8]) (by kernel_rfl) (by simp) ?_;refine AllReadyH.cons rfl (fun K hK=>?c34) (AllReadyH.cons rfl (fun K hK=>?c38) AllReadyH.nil);case c34=>(
 go_simp;go_wp2_with (go_at_call 86;refine (HT.out Z1 _ _ dg mn jq).mono ?_;rintro e U hU;obtain⟨A,k0,c,A2,c2,ev,out,rfl,hH,iM,ii,az,aB⟩:=jyo hU)
 have iQ:Below Vq.heap.size Vq U:=dg.trans (az.mono dg.size);refine hK.out _ _ ?_ (fun hHeld=>?_)
 ·exact⟨jza (HE.out.2.1.below iQ) 0 _ rfl,jza (HE.out.2.1.below iQ) 1 _ rfl⟩
 clear hK K;refine tkH 5 31 ?_;refine tkH 6 37 ?_;refine tkH 7 38 ?_;refine rdH 8 (fun K hK=>?_);go_simp;obtain⟨Y,lq⟩:=exq (U.alloc (.cells #[.slice none 0 0,.slice none 0 0] 143));rw[lq];have aa:Below U.heap.size U Y:=by rw[<- lq];exact jzf _ _
 have sR:Blk Y U.heap.size 143 #[.slice none 0 0,.slice none 0 0]:=by rw[<- lq];exact Blk.new _ _ _
 clear lq;have du:Below Vq.heap.size Vq Y:=iQ.trans (aa.mono iQ.size);refine hK.out _ _ ?_ (fun hHeld=>?_)
 ·exact⟨jza (HE.out.2.1.below du) 0 _ rfl,jza (HE.out.2.1.below du) 1 _ rfl⟩
 clear hK K;have io:=sR;have tC:=aa;have nY:Vq.heap.size<=U.heap.size:=iQ.size;have wK:Vq.heap.size<=Z1.heap.size:=dg.size;have qv:∀ b,Z1.heap.size<=b->b<U.heap.size->b≠U.heap.size:=fun b _ h=>Nat.ne_of_lt h
 obtain⟨c0,c1⟩:=blk2c io;have z0:=jzb io 0;have z1:=jzb io 1;have hDw:w.heap.size+1+1+1<U.heap.size:=ltl jW nY;refine rdH 9 (fun K hK=>?_);go_simp;refine hK.out _ _ ?_ (fun hHeld=>?_)
 ·exact⟨jza (((HE.out.2.1.below du).other (by omega) 0 _).other (by omega) 1 _) 0 _ rfl,jza (((HE.out.2.1.below du).other (by omega) 0 _).other (by omega) 1 _) 1 _ rfl⟩
 clear hK K;refine tkH 10 11 ?_;refine wpAnyH_done (by kernel_rfl) ?_ _;refine NoPanic.normal ?_;refine⟨rfl,Z0.heap.size,(Z0.heap.size+1),U.heap.size,k0,A,c,A2,c2,ev,Z1.heap.size,out,rfl,(io.set 0 _).set 1 _,((HE.out.2.2.below du).other (by omega) 0 _).other (by omega) 1 _,hH.keep (by rw[World.size_setCell,World.size_setCell];exact tC.size) (fun b h1 h2 _=>?_),ltl jW wK,by omega,iM,ii,((HE.out.1.trans (du.mono HE.out.1.size)).setCell (by simp only;omega) _).setCell (by simp only;omega) _,aB⟩;rw[Below.heap_setCell _ _ _ _ (qv b h1 h2),Below.heap_setCell _ _ _ _ (qv b h1 h2)];exact tC.block b h2)
 case c38=>(
 go_simp;obtain⟨Z2,lq⟩:=exq (Z1.alloc (.cells #[.slice none 0 0,.slice none 0 0] 143));rw[lq];have aa:Below Z1.heap.size Z1 Z2:=by rw[<- lq];exact jzf _ _
 have sR:Blk Z2 Z1.heap.size 143 #[.slice none 0 0,.slice none 0 0]:=by rw[<- lq];exact Blk.new _ _ _
 clear lq;have lQ:Below Vq.heap.size Vq Z2:=dg.trans (aa.mono dg.size);refine hK.out _ _ ?_ (fun hHeld=>?_)
 ·exact⟨jza (HE.out.2.1.below lQ) 0 _ rfl,jza (HE.out.2.1.below lQ) 1 _ rfl⟩
 clear hK K;replace mn:=mn.below aa;replace jq:=jq.below aa;refine rdH 4 (fun K hK=>?_);go_simp;go_wp2_with (go_at_call 86;refine (HT.out Z2 _ _ lQ mn jq).mono ?_;rintro e U hU;obtain⟨A,k0,c,A2,c2,ev,out,rfl,hH,iM,ii,az,aB⟩:=jyo hU)
 have iQ:Below Vq.heap.size Vq U:=lQ.trans (az.mono lQ.size);refine hK.out _ _ ?_ (fun hHeld=>?_)
 ·exact⟨jza (HE.out.2.1.below iQ) 0 _ rfl,jza (HE.out.2.1.below iQ) 1 _ rfl⟩
 clear hK K;refine tkH 5 31 ?_;refine tkH 6 37 ?_;refine tkH 7 38 ?_;have io:=sR.below az;have tC:=Below.refl U.heap.size U;have nY:Vq.heap.size<=Z1.heap.size:=dg.size;have wK:Vq.heap.size<=Z2.heap.size:=lQ.size;have hlz:=sR.lt;have qv:∀ b,Z2.heap.size<=b->b<U.heap.size->b≠Z1.heap.size:=fun b h _=>by omega
 obtain⟨c0,c1⟩:=blk2c io;have z0:=jzb io 0;have z1:=jzb io 1;have hDw:w.heap.size+1+1+1<Z1.heap.size:=ltl jW nY;refine rdH 9 (fun K hK=>?_);go_simp;refine hK.out _ _ ?_ (fun hHeld=>?_)
 ·exact⟨jza (((HE.out.2.1.below iQ).other (by omega) 0 _).other (by omega) 1 _) 0 _ rfl,jza (((HE.out.2.1.below iQ).other (by omega) 0 _).other (by omega) 1 _) 1 _ rfl⟩
 clear hK K;refine tkH 10 11 ?_;refine wpAnyH_done (by kernel_rfl) ?_ _;refine NoPanic.normal ?_;refine⟨rfl,Z0.heap.size,(Z0.heap.size+1),Z1.heap.size,k0,A,c,A2,c2,ev,Z2.heap.size,out,rfl,(io.set 0 _).set 1 _,((HE.out.2.2.below iQ).other (by omega) 0 _).other (by omega) 1 _,hH.keep (by rw[World.size_setCell,World.size_setCell];exact tC.size) (fun b h1 h2 _=>?_),ltl jW wK,by omega,iM,ii,((HE.out.1.trans (iQ.mono HE.out.1.size)).setCell (by simp only;omega) _).setCell (by simp only;omega) _,aB⟩;rw[Below.heap_setCell _ _ _ _ (qv b h1 h2),Below.heap_setCell _ _ _ _ (qv b h1 h2)]))
 case c8=>(
 go_simp;obtain⟨Zd,lq⟩:=exq (Z0.alloc (.cells #[.slice none 0 0,.slice none 0 0] 143));rw[lq];have aa:Below Z0.heap.size Z0 Zd:=by rw[<- lq];exact jzf _ _
 have sR:Blk Zd Z0.heap.size 143 #[.slice none 0 0,.slice none 0 0]:=by rw[<- lq];exact Blk.new _ _ _
 clear lq;have fu:Below Vq.heap.size Vq Zd:=im.trans (aa.mono im.size);refine hK.out _ _ ?_ (fun hHeld=>?_)
 ·exact⟨jza (HE.out.2.1.below fu) 0 _ rfl,jza (HE.out.2.1.below fu) 1 _ rfl⟩
 clear hK K;refine rdH 3 (fun K hK=>?_);go_simp;go_wp2_with (go_at_call 87;refine (jb9 _ _ _ _ _ _ rfl rfl Zd).mono ?_;rintro e Z1 ⟨rfl,sJ⟩)
 have wA:Below Zd.heap.size Zd Z1:=by rw[<- sJ];exact jzk (jzf _ _)
 have mn:Blk Z1 Zd.heap.size 141 #[.func (.func 129) #[] #[.pointer (some ⟨b1,0,none⟩),.pointer (some ⟨b2,0,none⟩),.pointer (some ⟨b3,0,none⟩)]]:=by rw[<- sJ];exact (Blk.new _ _ _).below (jzf _ _)
 have jq:Blk Z1 (Zd.heap.size+1) 152 #[.func (.func 88) #[] #[.pointer (some ⟨W3.heap.size,0,none⟩)]]:=by (rw[<- sJ];have:=Blk.new (Zd.alloc (.cells #[.func (.func 129) #[] #[.pointer (some ⟨b1,0,none⟩),.pointer (some ⟨b2,0,none⟩),.pointer (some ⟨b3,0,none⟩)]] 141)) 152 #[.func (.func 88) #[] #[.pointer (some ⟨W3.heap.size,0,none⟩)]];rw[World.size_alloc] at this;exact this)
 have dg:Below Vq.heap.size Vq Z1:=fu.trans (wA.mono fu.size);refine hK.out _ _ ?_ (fun hHeld=>?_)
 ·exact⟨jza (HE.out.2.1.below dg) 0 _ rfl,jza (HE.out.2.1.below dg) 1 _ rfl⟩
 clear hK K;refine rdH 4 (fun K hK=>?_);go_simp;go_wp2_with (go_at_call 86;refine (HT.out Z1 _ _ dg mn jq).mono ?_;rintro e U hU;obtain⟨A,k0,c,A2,c2,ev,out,rfl,hH,iM,ii,az,aB⟩:=jyo hU)
 have iQ:Below Vq.heap.size Vq U:=dg.trans (az.mono dg.size);refine hK.out _ _ ?_ (fun hHeld=>?_)
 ·exact⟨jza (HE.out.2.1.below iQ) 0 _ rfl,jza (HE.out.2.1.below iQ) 1 _ rfl⟩
 clear hK K;refine tkH 5 31 ?_;refine tkH 6 37 ?_;refine tkH 7 38 ?_;have io:=(sR.below wA).below az;have tC:=Below.refl U.heap.size U;have nY:Vq.heap.size<=Z0.heap.size:=im.size;have wK:Vq.heap.size<=Z1.heap.size:=dg.size;have hlz:=(sR.below wA).lt;have qv:∀ b,Z1.heap.size<=b->b<U.heap.size->b≠Z0.heap.size:=fun b h _=>by omega
 obtain⟨c0,c1⟩:=blk2c io;have z0:=jzb io 0;have z1:=jzb io 1;have hDw:w.heap.size+1+1+1<Z0.heap.size:=ltl jW nY;refine rdH 9 (fun K hK=>?_);go_simp;refine hK.out _ _ ?_ (fun hHeld=>?_)
 ·exact⟨jza (((HE.out.2.1.below iQ).other (by omega) 0 _).other (by omega) 1 _) 0 _ rfl,jza (((HE.out.2.1.below iQ).other (by omega) 0 _).other (by omega) 1 _) 1 _ rfl⟩
 clear hK K;refine tkH 10 11 ?_;refine wpAnyH_done (by kernel_rfl) ?_ _;refine NoPanic.normal ?_;refine⟨rfl,Zd.heap.size,(Zd.heap.size+1),Z0.heap.size,k0,A,c,A2,c2,ev,Z1.heap.size,out,rfl,(io.set 0 _).set 1 _,((HE.out.2.2.below iQ).other (by omega) 0 _).other (by omega) 1 _,hH.keep (by rw[World.size_setCell,World.size_setCell];exact tC.size) (fun b h1 h2 _=>?_),ltl jW wK,by omega,iM,ii,((HE.out.1.trans (iQ.mono HE.out.1.size)).setCell (by simp only;omega) _).setCell (by simp only;omega) _,aB⟩;rw[Below.heap_setCell _ _ _ _ (qv b h1 h2),Below.heap_setCell _ _ _ _ (qv b h1 h2)]))
end J5
namespace R1
open Go.RowKit
theorem jyx{ys:List Str}{y:Str}(h:ys[0]?=some y):((ys.length:Int) == 0)=false:=by
 have:=(List.getElem?_eq_some_iff.1 h).1;rw[beq_eq_false_iff_ne];omega
theorem jbf{ys:List Str}{y:Str}(h:ys[0]?=some y):0<ys.length:=(List.getElem?_eq_some_iff.1 h).1
def RetE(w:World)(x:Str)(k:Int)(e:Ending)(w':World):Prop:=e = .returned (.tuple #[.string (S x),.int .i64 k])/\∃ n,w'=w.drewN n
theorem jdy(A B:Option Addr)(c d:Nat)(xs:List Str)(x:Str)(w:World)(hl:jqr w A xs)(hx:xs[0]?=some x):Calls Tryz.prog 152 #[.slice A xs.length c,.slice B 0 d] w (RetE w x 0):=by
 have ie:=jbf hx;obtain⟨b,off,rfl,hb,hc⟩:=hl.get ie;have fV:w.cell? ⟨b,off,none⟩=some (.string (S x)):=hc 0 x hx;clear hc hl hx;go_enter Tryz.func152,Tryz.ntmps152;go_wp2
 go_quiet (fail)
 go_wp2
 go_ret2;exact⟨rfl,_,rfl⟩
theorem jhw(A B:Option Addr)(c d:Nat)(xs ys:List Str)(x y:Str)(w:World)(hl:jqr w A xs)(hm:jqr w B ys)(hx:xs[0]?=some x)(hy:ys[0]?=some y)(hlt:x<y):Calls Tryz.prog 152 #[.slice A xs.length c,.slice B ys.length d] w (RetE w x 0):=by
 have ie:=jbf hx;have gk:=jbf hy;have hz:=jyx hy;obtain⟨b,off,rfl,hb,hc⟩:=hl.get ie;obtain⟨b',off',rfl,ct,cP⟩:=hm.get gk;have fV:w.cell? ⟨b,off,none⟩=some (.string (S x)):=hc 0 x hx;have jj:w.cell? ⟨b',off',none⟩=some (.string (S y)):=cP 0 y hy;have af:=jkx hlt;have hd:decide (0<xs.length)=true:=decide_eq_true ie;clear hc hl hx cP hm hy hlt;go_enter Tryz.func152,Tryz.ntmps152;go_wp2
 go_quiet (fail)
 go_wp2
 go_ret2;exact⟨rfl,_,rfl⟩
theorem jdz(A B:Option Addr)(c d:Nat)(ys:List Str)(y:Str)(w:World)(hm:jqr w B ys)(hy:ys[0]?=some y):Calls Tryz.prog 152 #[.slice A 0 c,.slice B ys.length d] w (RetE w y 1):=by
 have gk:=jbf hy;have hz:=jyx hy;obtain⟨b',off',rfl,ct,cP⟩:=hm.get gk;have jj:w.cell? ⟨b',off',none⟩=some (.string (S y)):=cP 0 y hy;clear cP hm hy;go_enter Tryz.func152,Tryz.ntmps152;go_wp2
 go_quiet (fail)
 go_wp2
 go_quiet (fail)
 go_wp2
 go_ret2;exact⟨rfl,_,rfl⟩
theorem jhx(A B:Option Addr)(c d:Nat)(xs ys:List Str)(x y:Str)(w:World)(hl:jqr w A xs)(hm:jqr w B ys)(hx:xs[0]?=some x)(hy:ys[0]?=some y)(hlt:y<x):Calls Tryz.prog 152 #[.slice A xs.length c,.slice B ys.length d] w (RetE w y 1):=by
 have ie:=jbf hx;have gk:=jbf hy;have hz:=jyx hy;have hz':=jyx hx;obtain⟨b,off,rfl,hb,hc⟩:=hl.get ie;obtain⟨b',off',rfl,ct,cP⟩:=hm.get gk;have fV:w.cell? ⟨b,off,none⟩=some (.string (S x)):=hc 0 x hx;have jj:w.cell? ⟨b',off',none⟩=some (.string (S y)):=cP 0 y hy;have af:=jkx hlt;have ab:=jwb (jxg hlt);have hd:decide (0<xs.length)=true:=decide_eq_true ie;clear hc hl hx cP hm hy hlt;go_enter Tryz.func152,Tryz.ntmps152;go_wp2
 go_quiet (fail)
 go_wp2
 go_quiet (fail)
 go_wp2
 go_ret2;exact⟨rfl,_,rfl⟩
theorem jhy(A B:Option Addr)(c d:Nat)(xs ys:List Str)(x:Str)(w:World)(hl:jqr w A xs)(hm:jqr w B ys)(hx:xs[0]?=some x)(hy:ys[0]?=some x):Calls Tryz.prog 152 #[.slice A xs.length c,.slice B ys.length d] w (RetE w x 2):=by
 have ie:=jbf hx;have gk:=jbf hy;have hz:=jyx hy;have hz':=jyx hx;obtain⟨b,off,rfl,hb,hc⟩:=hl.get ie;obtain⟨b',off',rfl,ct,cP⟩:=hm.get gk;have fV:w.cell? ⟨b,off,none⟩=some (.string (S x)):=hc 0 x hx;have jj:w.cell? ⟨b',off',none⟩=some (.string (S x)):=cP 0 x hy;have ab:=jwb (jqf x);have hd:decide (0<xs.length)=true:=decide_eq_true ie;clear hc hl hx cP hm hy;go_enter Tryz.func152,Tryz.ntmps152;go_wp2
 go_quiet (fail)
 go_wp2
 go_quiet (fail)
 go_wp2
 go_ret2;exact⟨rfl,_,rfl⟩
end R1
namespace R1
open Go.RowKit Go.Shelf
attribute [local go_sem] Oper.semAt_some
def jkk(n₀:Nat)(w:World)(A:Option Addr)(xs:List Str):Prop :=
  xs=[]\/∃ b off,A=some ⟨b,off,none⟩/\b<n₀/\∀ i x,xs[i]?=some x->w.cell? ⟨b,off+i,none⟩=some (.string (S x))
theorem jqr.zero{w:World}{A:Option Addr}{xs:List Str}(h:jqr w A xs):jkk w.heap.size w A xs:=h
theorem jkk.lies{n₀:Nat}{w:World}{A:Option Addr}{xs:List Str}(h:jkk n₀ w A xs)(hn:n₀<=w.heap.size):jqr w A xs:=by
 rcases h with h | ⟨b,off,hA,hb,h⟩
 ·exact .inl h
 ·exact .inr ⟨b,off,hA,ltl hb hn,h⟩
theorem jkk.below{n₀:Nat}{w w':World}{A:Option Addr}{xs:List Str}(h:jkk n₀ w A xs)(hb:Below n₀ w w'):jkk n₀ w' A xs:=by
 rcases h with h | ⟨b,off,hA,hlt,h⟩
 ·exact .inl h
 ·exact .inr ⟨b,off,hA,hlt,fun i x hx=>(hb.cell (p:=⟨b,off+i,none⟩) hlt).trans (h i x hx)⟩
theorem jkk.drewN{n₀:Nat}{w:World}{A:Option Addr}{xs:List Str}(h:jkk n₀ w A xs)(n:Nat):jkk n₀ (w.drewN n) A xs:=h
theorem jkk.tail{n₀:Nat}{w:World}{A:Option Addr}{x:Str}{xr:List Str}(h:jkk n₀ w A (x :: xr)):∃ b off,A=some ⟨b,off,none⟩/\jkk n₀ w (some ⟨b,off+1,none⟩) xr:=by
 rcases h with h | ⟨b,off,hA,hlt,h⟩
 ·cases h
 ·(refine⟨b,off,hA,.inr ⟨b,off+1,rfl,hlt,fun i y hy=>?_⟩⟩;have:=h (i+1) y (by simpa using hy);rwa [show off+1+i=off+(i+1) by omega])
theorem jxs{J:List (Str×Int)->World->Prop}{B:Nat}(hJ:AbidesFrom B J){pre:List (Str×Int)}{w:World}(n:Nat)(h:J pre w):J pre (w.drewN n) :=
  hJ pre w (w.drewN n) none h ⟨rfl,rfl,rfl,Nat.le_refl _,fun _ _ _=>rfl⟩ (fun _ e=>by cases e)
def jpx:Value->Nat | .slice _ n _=>n | _=>0
theorem jru(n:Nat)(l Ba Bb n₀:Nat)(A B:Option Addr)(c d:Nat)(xs ys:List Str)(J Jx:List (Str×Int)->World->Prop)(W:World)(hJ:AbidesFrom W.heap.size J)(hY:∀ pre x W1,J pre W1->pre.length<xs.length+ys.length->YieldAt Fence.wide (n - 1) Tryz.prog l #[.string (S x.1),.int .i64 x.2] W1 fun e W'=>(e = .returned (.bool true)/\J (pre++[x]) W'/\Below n₀ W1 W')\/(e = .returned (.bool false)/\Jx (pre++[x]) W'))(jy:n₀<=W.heap.size)(mn:W.cell? ⟨Ba,0,none⟩=some (.slice A xs.length c))(hBb:W.cell? ⟨Bb,0,none⟩=some (.slice B ys.length d))(hc:xs.length<=c)(hd:ys.length<=d)(d8:c<=maxLen)(mW:d<=maxLen)(hl:jkk n₀ W A xs)(hm:jkk n₀ W B ys)(h0:J [] W):CallsIn Fence.wide n Tryz.prog 151 #[.func (.yield l) #[] #[],.pointer (some ⟨Ba,0,none⟩),.pointer (some ⟨Bb,0,none⟩)] W fun e W'=>(∃ v,e = .returned v)/\((∃ zs,zs=be xs ys/\J zs W')\/(∃ pre,pre <+: be xs ys/\Jx pre W')):=by
 unfold maxLen at d8 mW;refine callsIn_of_wp Tryz.func151 rfl trivial ?_ rfl;simp only[Tryz.ntmps151,List.size_toArray,List.length_cons,List.length_nil,Nat.reduceAdd,Nat.reduceSub,Array.replicate_succ,Array.replicate_zero,List.push_toArray,List.append_toArray,List.nil_append,List.cons_append];gi_wp2
 gi_quiet (fail)
 gi_wp2
 gi_loopw [4,5] (fun u v wr=>∃ (pre:List (Str×Int)) (xr yr:List Str) (A' B':Option Addr) (c' d':Nat),u = .slice A' xr.length c'/\v = .slice B' yr.length d'/\xr.length<=c'/\c'<=2 ^ 63 - 1/\yr.length<=d'/\d'<=2 ^ 63 - 1/\jkk n₀ wr A' xr/\jkk n₀ wr B' yr/\Hid (be xs ys=pre++be xr yr)/\J pre wr/\n₀<=wr.heap.size)
   (fun u v _=>jpx u+jpx v)
 case atStart=>exact⟨[],xs,ys,A,B,c,d,rfl,rfl,hc,d8,hd,mW,hl,hm,rfl,jxs hJ _ h0,jy⟩
 case round=>(
 obtain⟨pre,xr,yr,A',B',c',d',rfl,rfl,cB,gq,fM,hd2,fU,iK,h1,ku,eo⟩:=hrel;clear mn hBb hl hm h0 hc hd d8 mW;have eW:∀ x r,be xr yr=x :: r->pre.length<xs.length+ys.length:=by (
 intro x r e;have:=be_len xs ys;rw[h1.out,e] at this;simp at this
 omega)
 cases xr with
 | nil=>(
 cases yr with
 | nil=>(
 gi_wp2
 go_end0
 exact⟨⟨_,rfl⟩,.inl ⟨pre,by rw[h1.out,jtv];simp,ku⟩⟩)
 | cons y yr=>(
 have mF:=eW _ _ (jye y yr);have H1:Hid (be xs ys=(pre++[(y,1)])++be [] yr):=by (
 show be xs ys=_
 rw[h1.out,show _=_ from (jye y yr)];simp)
 clear eW h1;obtain⟨b',off',rfl,nP⟩:=iK.tail;have q2:yr.length+1<=d':=fM;gi_wp2_with fail
 refine⟨trivial,fun h=>absurd h (by simp[Fence.wide]),(callsIn_wide.2 (jdz A' _ c' d' (y :: yr) y wr (iK.lies eo) rfl)).mono ?_⟩;rintro e w' ⟨rfl,q,rfl⟩;obtain⟨fn,tmps,assign,body,hy,hR⟩:=hY pre (y,1) (wr.drewN q) (jxs hJ q ku) mF;dsimp only at hy
 clear hY;by_cases hdd:d'=1
 all_goals
   gi_wp2
   refine⟨fun h=>absurd h (by simp[Fence.wide]),hR.mono ?_⟩
   rintro e W3 (⟨rfl,jp,cG⟩ | ⟨rfl,fg⟩)
   · gi_wp2
     go_roundw
     case rel =>
       refine⟨pre++[(y,1)],[],yr,_,_,_,_,rfl,rfl,?_,?_,?_,?_,?_,?_,H1,jp,leT eo cG.size⟩
       all_goals first
         | exact (Or.inl rfl)
         | exact (nP.drewN q).below cG
         | (refine Or.inl (List.eq_nil_of_length_eq_zero ?_);omega)
         | (simp only[List.length_nil];omega)
         | (simp only[List.length_cons];omega)
         | omega
     case measure=>first | (simp[jpx];done) | (simp[jpx];omega)
   · gi_wp2
     refine bodyPost_ret (results_none rfl _ _ _) rfl ?_
     exact⟨⟨_,rfl⟩,.inr ⟨pre++[(y,1)],⟨_,H1.out.symm⟩,fg⟩⟩))
 | cons x xr=>(
 cases yr with
 | nil=>(
 have mF:=eW _ _ (jpe x xr);have H1:Hid (be xs ys=(pre++[(x,0)])++be xr []):=by (
 show be xs ys=_
 rw[h1.out,show _=_ from (jpe x xr)];simp)
 clear eW h1;obtain⟨b,off,rfl,ht⟩:=fU.tail;have q1:xr.length+1<=c':=cB;gi_wp2_with fail
 refine⟨trivial,fun h=>absurd h (by simp[Fence.wide]),(callsIn_wide.2 (jdy _ B' c' d' (x :: xr) x wr (fU.lies eo) rfl)).mono ?_⟩;rintro e w' ⟨rfl,q,rfl⟩;obtain⟨fn,tmps,assign,body,hy,hR⟩:=hY pre (x,0) (wr.drewN q) (jxs hJ q ku) mF;dsimp only at hy
 clear hY;by_cases qk:c'=1
 all_goals
   gi_wp2
   refine⟨fun h=>absurd h (by simp[Fence.wide]),hR.mono ?_⟩
   rintro e W3 (⟨rfl,jp,cG⟩ | ⟨rfl,fg⟩)
   · gi_wp2
     go_roundw
     case rel =>
       refine⟨pre++[(x,0)],xr,[],_,_,_,_,rfl,rfl,?_,?_,?_,?_,?_,?_,H1,jp,leT eo cG.size⟩
       all_goals first
         | exact (Or.inl rfl)
         | exact (ht.drewN q).below cG
         | (refine Or.inl (List.eq_nil_of_length_eq_zero ?_);omega)
         | (simp only[List.length_nil];omega)
         | (simp only[List.length_cons];omega)
         | omega
     case measure=>first | (simp[jpx];done) | (simp[jpx];omega)
   · gi_wp2
     refine bodyPost_ret (results_none rfl _ _ _) rfl ?_
     exact⟨⟨_,rfl⟩,.inr ⟨pre++[(x,0)],⟨_,H1.out.symm⟩,fg⟩⟩)
 | cons y yr=>(
 rcases jvg x y with dz | dz | dz
 ·(
 have mF:=eW _ _ (jn6 xr yr dz);have H1:Hid (be xs ys=(pre++[(x,0)])++be xr (y :: yr)):=by (
 show be xs ys=_
 rw[h1.out,show _=_ from (jn6 xr yr dz)];simp)
 clear eW h1;obtain⟨b,off,rfl,ht⟩:=fU.tail;have q1:xr.length+1<=c':=cB;obtain⟨b',off',rfl,nP⟩:=iK.tail;have q2:yr.length+1<=d':=fM;have fO:=Lh dz;clear dz nP;gi_wp2_with fail
 refine⟨trivial,fun h=>absurd h (by simp[Fence.wide]),(callsIn_wide.2 (jhw _ _ c' d' (x :: xr) (y :: yr) x y wr (fU.lies eo) (iK.lies eo) rfl rfl fO.out)).mono ?_⟩;rintro e w' ⟨rfl,q,rfl⟩;obtain⟨fn,tmps,assign,body,hy,hR⟩:=hY pre (x,0) (wr.drewN q) (jxs hJ q ku) mF;dsimp only at hy
 clear hY;by_cases qk:c'=1
 all_goals
   gi_wp2
   refine⟨fun h=>absurd h (by simp[Fence.wide]),hR.mono ?_⟩
   rintro e W3 (⟨rfl,jp,cG⟩ | ⟨rfl,fg⟩)
   · gi_wp2
     go_roundw
     case rel =>
       refine⟨pre++[(x,0)],xr,(y :: yr),_,_,_,_,rfl,rfl,?_,?_,?_,?_,?_,?_,H1,jp,leT eo cG.size⟩
       all_goals first
         | exact (iK.drewN q).below cG
         | exact (ht.drewN q).below cG
         | (refine Or.inl (List.eq_nil_of_length_eq_zero ?_);omega)
         | (simp only[List.length_nil];omega)
         | (simp only[List.length_cons];omega)
         | omega
     case measure=>first | (simp[jpx];done) | (simp[jpx];omega)
   · gi_wp2
     refine bodyPost_ret (results_none rfl _ _ _) rfl ?_
     exact⟨⟨_,rfl⟩,.inr ⟨pre++[(x,0)],⟨_,H1.out.symm⟩,fg⟩⟩)
 ·(
 subst dz;have mF:=eW _ _ (jn8 x xr yr);have H1:Hid (be xs ys=(pre++[(x,2)])++be xr yr):=by (
 show be xs ys=_
 rw[h1.out,show _=_ from (jn8 x xr yr)];simp)
 clear eW h1;obtain⟨b,off,rfl,ht⟩:=fU.tail;have q1:xr.length+1<=c':=cB;obtain⟨b',off',rfl,nP⟩:=iK.tail;have q2:yr.length+1<=d':=fM;gi_wp2_with fail
 refine⟨trivial,fun h=>absurd h (by simp[Fence.wide]),(callsIn_wide.2 (jhy _ _ c' d' (x :: xr) (x :: yr) x wr (fU.lies eo) (iK.lies eo) rfl rfl)).mono ?_⟩;rintro e w' ⟨rfl,q,rfl⟩;obtain⟨fn,tmps,assign,body,hy,hR⟩:=hY pre (x,2) (wr.drewN q) (jxs hJ q ku) mF;dsimp only at hy
 clear hY;by_cases qk:c'=1 <;> by_cases hdd:d'=1
 all_goals
   gi_wp2
   refine⟨fun h=>absurd h (by simp[Fence.wide]),hR.mono ?_⟩
   rintro e W3 (⟨rfl,jp,cG⟩ | ⟨rfl,fg⟩)
   · gi_wp2
     go_roundw
     case rel =>
       refine⟨pre++[(x,2)],xr,yr,_,_,_,_,rfl,rfl,?_,?_,?_,?_,?_,?_,H1,jp,leT eo cG.size⟩
       all_goals first
         | exact (ht.drewN q).below cG
         | (refine Or.inl (List.eq_nil_of_length_eq_zero ?_);omega)
         | exact (nP.drewN q).below cG
         | (refine Or.inl (List.eq_nil_of_length_eq_zero ?_);omega)
         | (simp only[List.length_nil];omega)
         | (simp only[List.length_cons];omega)
         | omega
     case measure=>first | (simp[jpx];done) | (simp[jpx];omega)
   · gi_wp2
     refine bodyPost_ret (results_none rfl _ _ _) rfl ?_
     exact⟨⟨_,rfl⟩,.inr ⟨pre++[(x,2)],⟨_,H1.out.symm⟩,fg⟩⟩)
 ·(
 have mF:=eW _ _ (jn7 xr yr dz);have H1:Hid (be xs ys=(pre++[(y,1)])++be (x :: xr) yr):=by (
 show be xs ys=_
 rw[h1.out,show _=_ from (jn7 xr yr dz)];simp)
 clear eW h1;obtain⟨b,off,rfl,ht⟩:=fU.tail;have q1:xr.length+1<=c':=cB;obtain⟨b',off',rfl,nP⟩:=iK.tail;have q2:yr.length+1<=d':=fM;have fO:=Lh dz;clear dz ht;gi_wp2_with fail
 refine⟨trivial,fun h=>absurd h (by simp[Fence.wide]),(callsIn_wide.2 (jhx _ _ c' d' (x :: xr) (y :: yr) x y wr (fU.lies eo) (iK.lies eo) rfl rfl fO.out)).mono ?_⟩;rintro e w' ⟨rfl,q,rfl⟩;obtain⟨fn,tmps,assign,body,hy,hR⟩:=hY pre (y,1) (wr.drewN q) (jxs hJ q ku) mF;dsimp only at hy
 clear hY;by_cases hdd:d'=1
 all_goals
   gi_wp2
   refine⟨fun h=>absurd h (by simp[Fence.wide]),hR.mono ?_⟩
   rintro e W3 (⟨rfl,jp,cG⟩ | ⟨rfl,fg⟩)
   · gi_wp2
     go_roundw
     case rel =>
       refine⟨pre++[(y,1)],(x :: xr),yr,_,_,_,_,rfl,rfl,?_,?_,?_,?_,?_,?_,H1,jp,leT eo cG.size⟩
       all_goals first
         | exact (fU.drewN q).below cG
         | exact (nP.drewN q).below cG
         | (refine Or.inl (List.eq_nil_of_length_eq_zero ?_);omega)
         | (simp only[List.length_nil];omega)
         | (simp only[List.length_cons];omega)
         | omega
     case measure=>first | (simp[jpx];done) | (simp[jpx];omega)
   · gi_wp2
     refine bodyPost_ret (results_none rfl _ _ _) rfl ?_
     exact⟨⟨_,rfl⟩,.inr ⟨pre++[(y,1)],⟨_,H1.out.symm⟩,fg⟩⟩))))
end R1
end Go.Proofs.YtobggoephhjofaaGreatDoor
