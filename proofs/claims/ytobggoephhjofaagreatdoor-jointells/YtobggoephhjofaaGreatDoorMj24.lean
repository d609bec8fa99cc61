/- A part. No condition. -/
import Derived.Test.YtobggoephhjofaaGreatDoorMj23
import Derived.Shelf.Spec.SlicesGrow
import Derived.LoopN
set_option maxRecDepth 100000
set_option maxHeartbeats 16000000
namespace Go.Proofs.YtobggoephhjofaaGreatDoor
namespace J5
open Go.RowKit Go.Shelf
open C3 (Tk In Asc jxo jzj jzf jwa)
open V4 (Va Vl Ck jzr jzm jjj InC jzh)
def Tryz.growT_ren:Go.Shelf.Ren:=⟨fun | 4=>125 | n=>n,fun | 22=>27 | 25=>54 | 3=>3 | 4=>4 | 9=>9 | 20=>20 | 0=>0 | n=>n,fun | n=>n⟩
theorem Tryz.growT:Go.Proofs.Lays8.n4 Tryz.prog Tryz.growT_ren:={
  mixed:=by kernel_rfl
  f4:=⟨Tryz.f125.name,by decide,Tryz.func125.trans (congrArg some (by kernel_rfl))⟩
  t0:=Tryz.underlying0
  a0:=Tryz.isAgg0
  z0:=Tryz.sizeOf0
  v0:=Tryz.zeroValue0
  t3:=Tryz.underlying3
  a3:=Tryz.isAgg3
  z3:=Tryz.sizeOf3
  v3:=Tryz.zeroValue3
  t4:=Tryz.underlying4
  a4:=Tryz.isAgg4
  z4:=Tryz.sizeOf4
  v4:=Tryz.zeroValue4
  t9:=Tryz.underlying9
  a9:=Tryz.isAgg9
  z9:=Tryz.sizeOf9
  v9:=Tryz.zeroValue9
  t20:=Tryz.underlying20
  a20:=Tryz.isAgg20
  z20:=Tryz.sizeOf20
  v20:=Tryz.zeroValue20
  t22:=Tryz.underlying27
  a22:=Tryz.isAgg27
  z22:=Tryz.sizeOf27
  v22:=Tryz.zeroValue27 }
abbrev jn0(w:World)(base:Nat)(v:Value)(cs:List Ck):Prop:=w.ownsRow base 54 1 v cs.length (jzm cs)
theorem jh7(n:Nat)(hn:n<=100000)(w:World):Calls Tryz.prog 125 #[.slice none 0 0,.int .i64 n] w fun e w'=>∃ v,e = .returned v/\jn0 w' w.heap.size v []/\Below w.heap.size w w':=by
 obtain⟨i0,hi,hz0,hz1,hz2⟩:=info_parts Tryz.infoTs;rcases Nat.eq_zero_or_pos n with rfl | hp
 ·(
 refine (Any8.slices_Grow_room Tryz.growT none 0 0 0 w (by omega) (by omega) (by omega) (by omega)).mono ?_;rintro e w' ⟨rfl,rfl⟩;exact⟨_,rfl,World.ownsRow_nil _ _ _ _,Below.refl _ _⟩)
 ·(
 refine (Any8.slices_Grow_grow Tryz.growT i0 _ hi hz0 (by omega) none 0 0 n [] w (by omega) (by omega) (by rw[hz2];omega) (by omega) (by simp) (fun _=>rfl) (fun _ h=>by cases h)).mono ?_;rintro e w' ⟨rfl,rfl⟩;refine⟨_,rfl,World.ownsRow_made w.drew _ _ (Nat.le_refl _) (grownCap_le_maxLen _ _ _ _ (by unfold maxLen;omega)) ?_,jzj ⟨rfl,rfl,rfl,Nat.le_refl _,fun _ _=>rfl⟩⟩;have:=grownCap_ge w (0+n) 0 54;simp only[Array.size_append,size_zeroCells,List.size_toArray,List.length_nil];show _=grownCap w (0+n) 0 54*1
 simp only[Value.cells,List.size_toArray,List.length_cons,List.length_nil];show 0+(0+n - 0)*1+(grownCap w (0+n) 0 54 - (0+n))*1=_
 omega)
section
variable (w:World)
theorem juw(base:Nat)(t ty:TypeId)(ht:Tryz.prog.underlying t=some (.slice 54))(v:Value)(ys:List Ck)(hown:jn0 w base v ys)(c:Nat):(Builtin.append_ #[t,t] ty #[v,.slice none 0 c]).run Tryz.prog w = .ok v w:=by
 obtain⟨i0,hi,hz0,hz1,hz2⟩:=info_parts Tryz.infoTs;rcases hown.2 with ⟨rfl,_⟩ | ⟨g,cap,cur,rfl,_,_,hnc,_⟩
 ·simp[Builtin.append_,run_underlying ht,sizeOf,typeInfo,hi,Builtin.lenOf,Builtin.firstCells]
 ·simp[Builtin.append_,run_underlying ht,sizeOf,typeInfo,hi,Builtin.lenOf,Builtin.firstCells,hnc,storeCells]
theorem run_appC(base:Nat)(t ty:TypeId)(ht:Tryz.prog.underlying t=some (.slice 54))(v:Value)(ys:List Ck)(hown:jn0 w base v ys)(P:Nat->Prop)(A:Option Addr)(c:Nat)(news:List Ck)(hl:jzr P w A (jzm news))(hlen:ys.length+news.length<=1000000)(hbase:base<=w.heap.size):∃ v' w',(Builtin.append_ #[t,t] ty #[v,.slice A news.length c]).run Tryz.prog w = .ok v' w'/\jn0 w' base v' (ys++news)/\w.grownBy w' v.ownBlock/\(v'.ownBlock=v.ownBlock\/v'.ownBlock=some w.heap.size):=by
 obtain⟨i0,hi,hz0,hz1,hz2⟩:=info_parts Tryz.infoTs;cases A with
 | none=>(
 have hn:news=[]:=by (
 rcases hl with h | ⟨b,off,h,_⟩
 ·exact List.map_eq_nil_iff.1 h
 ·cases h)
 subst hn;exact⟨v,w,juw w base t ty ht v ys hown c,by simpa using hown,World.grownBy.refl w _,.inl rfl⟩)
 | some a=>(
 have hcells:∀ j u,(jzm news)[j]?=some u->w.cell? (a.add j)=some u:=by (
 intro j u hu;rcases hl with h | ⟨b,off,h,_,hc⟩
 ·rw[h] at hu;simp at hu
 ·(
 cases h
 rw[Addr.add_lit];exact hc j u hu))
 have h1:∀ u∈jzm news,u.oneCell'=true:=fun u hu=>by (
 obtain⟨k,_,rfl⟩:=List.mem_map.1 hu;rfl)
 obtain⟨v',w',hr,h2,h3,_,h5⟩:=run_append_own_at (P:=Tryz.prog) w base t ty 54 i0 _ 1 24 ht hi hz0 hz1 hz2 rfl (by omega) v ys.length (jzm ys) hown a news.length c (jzm news)
   (by rw[jjj,Nat.mul_one]) hcells h1 (by unfold maxLen;omega) (by omega) hbase
 refine⟨v',w',hr,?_,h3,h5⟩;unfold jn0 jzm at *;rw[List.map_append,List.length_append];exact h2)
variable {o:Oper} {a:Act} {K:Act->World->Prop} {Q:Exit->Act->World->Prop}
theorem jb4{ops:Array Oper}{rest:List Oper}(hgd:o.guard=none)(s x:Operand)(t:TypeId)(ho:o.op = .call { callee := .builtin .append,args:=#[s,x],argTypes:=#[t,t] })(base:Nat)(ht:Tryz.prog.underlying t=some (.slice 54))(v:Value)(ys:List Ck)(hs:a.eval s=v)(hown:jn0 w base v ys)(P:Nat->Prop)(A:Option Addr)(m c:Nat)(news:List Ck)(hm:news.length=m)(hx:a.eval x = .slice A m c)(hl:jzr P w A (jzm news))(hlen:ys.length+news.length<=1000000)(hbase:base<=w.heap.size)(h:∀ v' w',jn0 w' base v' (ys++news)->w.grownBy w' v.ownBlock->wpList Tryz.prog ops Q rest (a.put o.dst v') w'):wpList Tryz.prog ops Q (o :: rest) a w:=by
 refine wpList_plain hgd fun K hK=>?_
 subst hm;obtain⟨v',w',hr,h2,h3,h4⟩:=run_appC w base t o.type ht v ys hown P A c news hl hlen hbase;unfold Oper.wp execOp;simp only[ho,resolve,invoke,builtin,Sem.run_bind,Sem.run_pure,Result.andThen_ok,List.map_toArray,List.map_cons,List.map_nil,hs,hx,hr];exact hK _ _ (h v' w' h2 h3)
end
theorem jra(k:Ck)(w:World)(hk:InC w k)(h1:k.l.length<=1000):Calls Tryz.prog 90 #[k.v] w fun e w'=>∃ k':Ck,e = .returned k'.v/\k'.l=k.l/\k'.Inp (fun b=>w.heap.size<=b/\b<w'.heap.size) w'/\Below w.heap.size w w':=by
 obtain⟨A,c,l⟩:=k;simp only[V4.Ck.v] at h1 ⊢;have q55:∀ (w:World) (a:Option Addr) (n c n' c':Nat),(binOp .eql 54 (.slice a n c) (.slice none n' c')).run Tryz.prog w = .ok (.bool a.isNone) w:=fun w a n c n' c'=>Lib.run_eql_slice_nil w _ _ a n c n' c' Tryz.underlying54
 cases A with
 | none=>(
 have hl:l=[]:=by (
 rcases hk.lies with h | ⟨b,off,h,_⟩
 ·(
 cases l with
 | nil=>rfl
 | cons x l=>simp[C3.jzv] at h)
 ·cases h)
 subst hl;go_enter Tryz.func90,Tryz.ntmps90;go_wp2_with fail;go_ret;exact⟨⟨none,0,[]⟩,rfl,rfl,⟨.inl rfl,Nat.le_refl _,Nat.zero_le _,(fun _ hx=>(by cases hx)),(by simp)⟩,Below.refl _ _⟩)
 | some a=>(
 have HL:=Lh (hk.inn);have HK:=Lh hk;clear hk;go_enter Tryz.func90,Tryz.ntmps90;go_wp2_with (at_builtin;refine C3.jz2 _ rfl (.tmp 5) (.tmp 6) 54 rfl w.heap.size Tryz.underlying54 _ [] rfl (World.ownsRow_made w #[] 0 (Nat.le_refl _) (Nat.zero_le _) (by simp)) w.heap.size (some a) l.length c l rfl rfl ?q1 ?q2 (by simp) ?_)
 case q1=>exact HL.out.lies.below (jzf _ _)
 case q2=>omega
 intro v1 w1 hown hg _;have hb:Below w.heap.size w w1:=((Below.refl _ w).alloc (Nat.le_refl _) _).grown hg (by simp) (by intro k hk;simp[Value.ownBlock] at hk;omega);clear hg;go_wp2
 go_ret;obtain⟨A,c',rfl,_⟩:=jzw hown;obtain⟨h5,h6,h7⟩:=jz8 hown;exact⟨⟨A,c',l⟩,rfl,rfl,⟨h5,h6,h7,HK.out.nok,HK.out.few⟩,hb⟩)
theorem jfv(B d:Nat)(A:Option Addr)(c:Nat)(cs:List Ck)(A':Option Addr)(c':Nat)(cs':List Ck)(w:World)(h0:w.cell? ⟨B,0,none⟩=some (.slice A cs.length c))(h1:w.cell? ⟨B,1,none⟩=some (.slice A' cs'.length c'))(hl:jzr (fun b=>b<w.heap.size) w A (jzm cs))(hl':jzr (fun b=>b<w.heap.size) w A' (jzm cs'))(n0:cs.length<=1000)(n1:cs'.length<=1000):Calls Tryz.prog 81 #[.slice (some ⟨B,0,none⟩) 2 d] w fun e w'=>∃ v,e = .returned v/\jn0 w' w.heap.size v (cs++cs')/\Below w.heap.size w w':=by
 have HL:=Lh (And.intro hl hl');have HG:=Lh (jh7 (cs.length+cs'.length) (by omega) w);obtain⟨n,hn⟩:=exq (cs.length);obtain⟨m,hm⟩:=exq (cs'.length);rw[hn] at h0 n0 HG;rw[hm] at h1 n1 HG;have HN:=Lh (And.intro hn hm);clear hn hm hl hl';have w1:wrap64 (0+(n:Int))=n:=by unfold wrap64;omega
 have w2:wrap64 ((n:Int)+(m:Int))=((n+m:Nat):Int):=by unfold wrap64;omega
 have w3:¬ ((n:Int)<0):=by omega
 have w4:¬ (((n+m:Nat):Int)<0):=by omega
 go_enter Tryz.func81,Tryz.ntmps81;go_wp2_with fail;refine wp_loop_rounds 3 ?_;rw[rounds_succ];go_wp2_with fail;rw[rounds_succ];go_wp2_with fail;rw[rounds_succ];go_wp2_with fail;rw[Int.natCast_add] at HG;refine HG.out.mono ?_;rintro e W ⟨v,rfl,hown,hb⟩;have h0W:=(hb.cell (p:=⟨B,0,none⟩) (World.block_lt_of_cell? w _ h0)).trans h0;have h1W:=(hb.cell (p:=⟨B,1,none⟩) (World.block_lt_of_cell? w _ h1)).trans h1;have HO:=Lh hown;have HB:=Lh (And.intro (World.block_lt_of_cell? w _ h0) (World.block_lt_of_cell? w _ h1));clear h0 h1 HG hown;go_wp2_with fail;refine wp_loop_rounds 3 ?_;rw[rounds_succ];go_wp2_with (at_builtin;refine jb4 _ rfl (.tmp 31) (.tmp 32) 27 rfl w.heap.size Tryz.underlying27 v [] rfl HO.out (fun b=>b<w.heap.size) A n c cs HN.out.1 rfl (HL.out.1.below hb) ?q1 hb.size ?_)
 case q1=>rw[HN.out.1];simp only[List.length_nil];omega
 intro v1 W1 hown1 hg1;have hb1:Below w.heap.size w W1:=hb.grown hg1 hb.size fun k hk=>(HO.out.lt k hk).1
 have h1W1:=(hg1.cell h1W fun e=>by have:=(HO.out.lt _ e.symm).1;have:=HB.out.2;simp only at *;omega);clear HO h0W h1W hg1 hb;have HO:=Lh hown1;clear hown1;go_wp2_with fail;rw[rounds_succ];go_wp2_with (at_builtin;refine jb4 _ rfl (.tmp 31) (.tmp 32) 27 rfl w.heap.size Tryz.underlying27 v1 ([]++cs) rfl HO.out (fun b=>b<w.heap.size) A' m c' cs' HN.out.2 rfl (HL.out.2.below hb1) ?q1 hb1.size ?_)
 case q1=>rw[List.nil_append,HN.out.1,HN.out.2];omega
 intro v2 W2 hown2 hg2;have hb2:Below w.heap.size w W2:=hb1.grown hg2 hb1.size fun k hk=>(HO.out.lt k hk).1
 clear HO h1W1 hg2 hb1;go_wp2_with fail;rw[rounds_succ];go_wp2
 go_ret;exact⟨v2,rfl,hown2,hb2⟩
end J5
namespace C3
open Go.RowKit
def jps:Value->Nat | .slice _ n _=>n | _=>0
def jhj(n:Nat):Array Value:=madeCells #[.int .i64 0,.int .u64 0] n
theorem job(n:Nat):(jhj n).size=n:=size_madeCells _ _
theorem jgf(W:World)(t:TypeId)(ht:Tryz.prog.underlying t=some (.slice 53))(m:Nat)(k:Int)(hk:k=m)(hm:m<=1000000):(Instr.makeSlice t (.int .i64 0) (.int .i64 k)).run Tryz.prog W = .ok (.slice (some ⟨W.heap.size,0,none⟩) 0 m) (W.alloc (.cells (jhj (m*2)) 53)):=by
 subst hk;obtain⟨i0,hi,hz0,hz1,hz2⟩:=info_parts Tryz.infoTick;have hr:=run_make (P:=Tryz.prog) W t _ i0 _ ht hi hz0 .i64 .i64 0 m (Int.le_refl _) (by omega) (by rw[hz2];omega) (by omega);simp only[Int.toNat_zero,Int.toNat_natCast,hz1] at hr;exact hr
theorem jwa.made(w:World)(m:Nat)(hm:m<=1000000):jwa (w.alloc (.cells (jhj (m*2)) 53)) w.heap.size (.slice (some ⟨w.heap.size,0,none⟩) 0 m) [] :=
  World.ownsRow_made w (jhj (m*2)) m (Nat.le_refl _) (by unfold maxLen;omega) (by rw[job])
theorem jfi{M zs xs ys:List Tk}(h:M=zs++jz1 xs ys)(he:xs=[]\/ys=[]):M=(zs++xs)++ys:=by
 rcases he with rfl | rfl
 ·rw[h,jz3];simp
 ·rw[h,jz6];simp
theorem merge_lt{M zs xs ys:List Tk}{x y:Tk}(h:M=zs++jz1 (x :: xs) (y :: ys))(hlt:x.k<y.k):M=(zs++[x])++jz1 xs (y :: ys):=by
 rw[h,jjo _ _ hlt];simp
theorem merge_gt{M zs xs ys:List Tk}{x y:Tk}(h:M=zs++jz1 (x :: xs) (y :: ys))(hlt:y.k<x.k):M=(zs++[y])++jz1 (x :: xs) ys:=by
 rw[h,jjp _ _ hlt];simp
theorem merge_eq{M zs xs ys:List Tk}{x y:Tk}(h:M=zs++jz1 (x :: xs) (y :: ys))(hlt:x.k=y.k):M=(zs++[jj1 x y])++jz1 xs ys:=by
 rw[h,jjq _ _ hlt];simp
theorem jqg.head{m:Nat}{w:World}{A:Option Addr}{x:Tk}{xs:List Tk}(h:jqg m w A (x :: xs)):∃ b off,A=some ⟨b,off,none⟩/\b<m/\w.cell? ⟨b,off,none⟩=some (.int .i64 x.k)/\w.cell? ⟨b,off+1,none⟩=some (.int .u64 x.n):=by
 obtain⟨b,off,rfl,hb,hc⟩:=h.get (k:=0) (by simp);have:=hc 0 x rfl;exact⟨b,off,rfl,hb,by simpa using this⟩
def RetF(w:World)(ys:List Tk)(e:Ending)(w':World):Prop :=
  ∃ A c,e = .returned (.slice A ys.length c)/\In w' A c ys/\(∀ a,A=some a->w.heap.size<=a.block)/\Below w.heap.size w w'
theorem jgi{w w':World}{v:Value}{ys zs:List Tk}(h:jwa w' w.heap.size v ys)(e:ys=zs)(hn:Nok zs)(hb:Below w.heap.size w w'):RetF w zs (.returned v) w':=by
 subst e;obtain⟨A,c,rfl,h1⟩:=h.form hn;refine⟨A,c,rfl,h1,fun a ha=>?_,hb⟩;subst ha;exact (h.lt (k:=a.block) rfl).1
theorem later_at(xk xn yk yn tk tn:Int)(w:World)(h:jj1 ⟨xk,xn⟩ ⟨yk,yn⟩=⟨tk,tn⟩):Calls Tryz.prog 128 #[.agg #[.int .i64 xk,.int .u64 xn],.agg #[.int .i64 yk,.int .u64 yn]] w (jqd w (.agg #[.int .i64 tk,.int .u64 tn])):=by
 have:=jgw xk xn yk yn w;rw[h] at this;exact this
theorem jor(A B:Option Addr)(c d:Nat)(l l':List Tk)(w:World)(h:In w A c l)(h':In w B d l')(hn:Nok (jz1 l l'))(hlen:l.length<=1000)(hlen':l'.length<=1000):Calls Tryz.prog 126 #[.slice A l.length c,.slice B l'.length d,.func (.func 127) #[] #[],.func (.func 128) #[] #[]] w (RetF w (jz1 l l')):=by
 obtain⟨hl,hcap,htop,-⟩:=h;obtain⟨hl',hcap',htop',-⟩:=h';have HN:=Lh hn;have hmk:∀ W:World,(Instr.makeSlice 54 (.int .i64 0) (.int .i64 ((l.length:Int)+l'.length))).run Tryz.prog W = .ok (.slice (some ⟨W.heap.size,0,none⟩) 0 (l.length+l'.length)) (W.alloc (.cells (jhj ((l.length+l'.length)*2)) 53)) :=
   fun W=>jgf W _ Tryz.underlying54 (l.length+l'.length) _ (by omega) (by omega)
 clear hn;go_enter Tryz.func126,Tryz.ntmps126;go_wp2_with fail;clear hmk;go_loopw [0,1,9] (fun av bv ov wr=>∃ (xs ys zs:List Tk) (A' B':Option Addr) (c' d':Nat),av = .slice A' xs.length c'/\bv = .slice B' ys.length d'/\xs.length<=c'/\ys.length<=d'/\c'<=maxLen/\d'<=maxLen/\jqg w.heap.size wr A' xs/\jqg w.heap.size wr B' ys /\
   jwa wr w.heap.size ov zs/\Hid (jz1 l l'=zs++jz1 xs ys)/\zs.length+xs.length+ys.length<=l.length+l'.length/\Below w.heap.size w wr) (fun av bv _ _=>jps av+jps bv)
 case atStart=>exact⟨l,l',[],A,B,c,d,rfl,rfl,hcap,hcap',htop,htop',hl.below (jzf _ _),hl'.below (jzf _ _),jwa.made w _ (by omega),by simp[Hid],by simp,jzf _ _⟩
 case round=>(
 obtain⟨xs,ys,zs,A',B',c',d',rfl,rfl,hc1,hd1,hcm,hdm,hl1,hm1,hown,h0,hsum,hbw⟩:=hrel;unfold maxLen at hcm hdm;clear hl hl' hcap hcap' htop htop';cases xs with
 | nil=>(
 have hz1:zs.length+([]:List Tk).length<=1000000:=by simp at hsum ⊢;omega
 have hz2:(zs++([]:List Tk)).length+ys.length<=1000000:=by simp at hsum ⊢;omega
 have HO:=Lh hown;have HL:=Lh hl1;have HM:=Lh hm1;have HB:=Lh hbw;clear hown hl1 hm1 hbw;go_wp2_with (first
   | (at_builtin;refine jz2 _ rfl (.tmp 70) (.tmp 71) 54 rfl w.heap.size Tryz.underlying54 u9 zs rfl HO.out _ A' 0 c' [] rfl rfl HL.out hz1 HB.out.size ?_;intro v1 w1 hown1 hg1 hat1;have hbw0:Below w.heap.size wr w1:=(Below.refl w.heap.size wr).grown hg1 HB.out.size (fun k hk=>(HO.out.lt hk).1);have hbw1:Below w.heap.size w w1:=HB.out.trans hbw0)
   | (at_builtin;refine jz2 _ rfl (.tmp 72) (.tmp 73) 54 rfl w.heap.size Tryz.underlying54 v1 (zs++[]) rfl hown1 _ B' ys.length d' ys rfl rfl (HM.out.below hbw0) hz2 hbw1.size ?_;intro v2 w2 hown2 hg2 hat2;have hbw2:Below w.heap.size w w2:=hbw1.grown hg2 hbw1.size (fun k hk=>(hown1.lt hk).1)))
 go_ret;exact jgi hown2 (jfi h0.out (.inl rfl)).symm HN.out hbw2)
 | cons x xs=>(
 cases ys with
 | nil=>(
 have hz1:zs.length+(x :: xs).length<=1000000:=by simp at hsum ⊢;omega
 have hz2:(zs++(x :: xs)).length+([]:List Tk).length<=1000000:=by simp at hsum ⊢;omega
 have HO:=Lh hown;have HL:=Lh hl1;have HM:=Lh hm1;have HB:=Lh hbw;clear hown hl1 hm1 hbw;go_wp2_with (first
   | (at_builtin;refine jz2 _ rfl (.tmp 70) (.tmp 71) 54 rfl w.heap.size Tryz.underlying54 u9 zs rfl HO.out _ A' (xs.length+1) c' (x :: xs) rfl rfl HL.out hz1 HB.out.size ?_;intro v1 w1 hown1 hg1 hat1;have hbw0:Below w.heap.size wr w1:=(Below.refl w.heap.size wr).grown hg1 HB.out.size (fun k hk=>(HO.out.lt hk).1);have hbw1:Below w.heap.size w w1:=HB.out.trans hbw0)
   | (at_builtin;refine jz2 _ rfl (.tmp 72) (.tmp 73) 54 rfl w.heap.size Tryz.underlying54 v1 (zs++(x :: xs)) rfl hown1 _ B' 0 d' [] rfl rfl (HM.out.below hbw0) hz2 hbw1.size ?_;intro v2 w2 hown2 hg2 hat2;have hbw2:Below w.heap.size w w2:=hbw1.grown hg2 hbw1.size (fun k hk=>(hown1.lt hk).1)))
 go_ret;exact jgi hown2 (jfi h0.out (.inr rfl)).symm HN.out hbw2)
 | cons y ys=>(
 obtain⟨b,off,rfl,hb,hx0,hx1⟩:=hl1.head;obtain⟨b',off',rfl,hb',hy0,hy1⟩:=hm1.head;have HL:=Lh hl1;have HM:=Lh hm1;have HO:=Lh hown;have HB:=Lh hbw;have hbb:b<wr.heap.size:=ltl hb hbw.size;have hbb':b'<wr.heap.size:=ltl hb' hbw.size;clear hl1 hm1 hown hbw;obtain⟨xk,xn⟩:=x;obtain⟨yk,yn⟩:=y;dsimp only at hx0 hx1 hy0 hy1
 have q1:xs.length+1<=c':=hc1;have q2:ys.length+1<=d':=hd1;have hx9:xs.length<=2000:=by simp at hsum;omega
 have hy9:ys.length<=2000:=by simp at hsum;omega
 have hz9:zs.length<=100000:=by simp at hsum;omega
 have hs1:(1:Int)<=(xs.length:Int)+1:=by omega
 have hs2:(1:Int)<=(ys.length:Int)+1:=by omega
 go_wp2_with fail;go_still_tail 7,(by kernel_rfl)
 change wpList _ _ _ _ _ wr.drew;go_wp2_with fail;refine (jko xk xn yk yn _).mono ?_;rintro e w4 ⟨rfl,hb4⟩;have hbd:Below wr.heap.size wr w4:=((Below.refl _ wr).drew).trans hb4;replace hx0:=(hbd.cell (p:=⟨b,off,none⟩) hbb).trans hx0;replace hx1:=(hbd.cell (p:=⟨b,off+1,none⟩) hbb).trans hx1;replace hy0:=(hbd.cell (p:=⟨b',off',none⟩) hbb').trans hy0;replace hy1:=(hbd.cell (p:=⟨b',off'+1,none⟩) hbb').trans hy1;replace hbb:=ltl hbb hbd.size;replace hbb':=ltl hbb' hbd.size;replace HL:=Lh (HL.out.below (hbd.mono HB.out.size));replace HM:=Lh (HM.out.below (hbd.mono HB.out.size));replace HO:=Lh (HO.out.below hbd);replace HB:Hid (Below w.heap.size w w4):=HB.out.trans (hbd.mono HB.out.size);clear hb4 hbd;rcases Int.lt_trichotomy xk yk with hxy | hxy | hxy
 ·(
 have HXY:=Lh hxy;rw[jxt hxy];clear hxy;by_cases hcc:c'=1
 all_goals
   go_wp2_with fail
   go_region_held3 (fun w'=>w'.cell? ⟨b,off,none⟩=some (.int .i64 xk)/\w'.cell? ⟨b,off+1,none⟩=some (.int .u64 xn)/\w'.cell? ⟨b',off',none⟩=some (.int .i64 yk)/\w'.cell? ⟨b',off'+1,none⟩=some (.int .u64 yn))
     (first
       | exact⟨hx0,hx1,hy0,hy1⟩
       | (refine⟨?_,?_,?_,?_⟩ <;> go_simp))
     (first
     | (refine jjy _ rfl (.tmp 51) (.tmp 55) 54 rfl w.heap.size Tryz.underlying54 u9 zs ?qs ?qo (w4.heap.size+1) (some ⟨w4.heap.size,0,none⟩) 1 1 [⟨xk,xn⟩] rfl ?qx ?ql ?qn ?qb ?_
        case qs=>go_simp
        case qo=>exact HO.out.below ((jzf w4 (.cells #[.int .i64 xk,.int .u64 xn] 53)).drew)
        case qx=>go_simp
        case ql=>exact jqg.one (by omega) (by simp) (by simp)
        case qn=>exact jox hz9
        case qb=>(have:=HB.out.size;simp;omega)
        intro v1 w1 hown1 hg1 hat1
        have hbw0:Below w.heap.size w4 w1:=(((Below.refl w.heap.size w4).alloc HB.out.size _).drew).grown hg1 (by have:=HB.out.size;simp;omega) (fun k hk=>(HO.out.lt hk).1)
        have hbw1:Below w.heap.size w w1:=HB.out.trans hbw0
        replace hx0:=(hbw0.cell (p:=⟨b,off,none⟩) hb).trans hx0
        replace hx1:=(hbw0.cell (p:=⟨b,off+1,none⟩) hb).trans hx1
        replace hy0:=(hbw0.cell (p:=⟨b',off',none⟩) hb').trans hy0
        replace hy1:=(hbw0.cell (p:=⟨b',off'+1,none⟩) hb').trans hy1))
   all_goals
     go_wp2_with fail
     go_roundw
     case rel =>
       refine⟨xs,⟨yk,yn⟩ :: ys,zs++[Tk.mk xk xn],_,_,_,_,rfl,rfl,?_,?_,?_,?_,?_,?_,hown1,merge_lt h0.out HXY.out,?_,hbw1⟩
       all_goals first
         | exact HL.out.below hbw0
         | exact HM.out.below hbw0
         | exact HL.out.tail.below hbw0
         | exact HM.out.tail.below hbw0
         | (refine Or.inl (List.eq_nil_of_length_eq_zero ?_);omega)
         | (unfold maxLen;omega)
         | omega
         | (simp only[List.length_cons];omega)
         | (simp at hsum ⊢;omega)
     case measure=>first | (simp[jps];done) | (simp[jps];omega))
 ·(
 have HXY:=Lh hxy;rw[hxy,jx5];clear hxy;obtain⟨tk,tn,ht⟩:∃ tk tn,jj1 ⟨xk,xn⟩ ⟨yk,yn⟩=⟨tk,tn⟩:=⟨_,_,rfl⟩
 have HT:=Lh ht;clear ht;by_cases hcc:c'=1 <;> by_cases hdd:d'=1
 all_goals
   go_wp2_with fail
   go_region_held3 (fun w'=>w'.cell? ⟨b,off,none⟩=some (.int .i64 xk)/\w'.cell? ⟨b,off+1,none⟩=some (.int .u64 xn)/\w'.cell? ⟨b',off',none⟩=some (.int .i64 yk)/\w'.cell? ⟨b',off'+1,none⟩=some (.int .u64 yn))
     (first
       | exact⟨hx0,hx1,hy0,hy1⟩
       | (refine⟨?_,?_,?_,?_⟩ <;> go_simp))
     (first
     | (go_at_call 128;refine (later_at xk xn yk yn tk tn _ HT.out).mono ?_;rintro e w5 ⟨rfl,hb5⟩;(have hbd:Below w4.heap.size w4 w5:=((Below.refl _ w4).drew).trans hb5;replace HL:=Lh (HL.out.below (hbd.mono HB.out.size));replace HM:=Lh (HM.out.below (hbd.mono HB.out.size));replace HO:=Lh (HO.out.below hbd);replace HB:Hid (Below w.heap.size w w5):=HB.out.trans (hbd.mono HB.out.size);replace hx0:=(hbd.cell (p:=⟨b,off,none⟩) hbb).trans hx0;replace hx1:=(hbd.cell (p:=⟨b,off+1,none⟩) hbb).trans hx1;replace hy0:=(hbd.cell (p:=⟨b',off',none⟩) hbb').trans hy0;replace hy1:=(hbd.cell (p:=⟨b',off'+1,none⟩) hbb').trans hy1;replace hbb:=ltl hbb hbd.size;replace hbb':=ltl hbb' hbd.size;clear hb5 hbd))
     | (refine jjy _ rfl (.tmp 33) (.tmp 42) 54 rfl w.heap.size Tryz.underlying54 u9 zs ?qs ?qo (w5.heap.size+1) (some ⟨w5.heap.size,0,none⟩) 1 1 [⟨tk,tn⟩] rfl ?qx ?ql ?qn ?qb ?_
        case qs=>go_simp
        case qo=>exact HO.out.below (jzf w5 (.cells #[.int .i64 tk,.int .u64 tn] 53))
        case qx=>go_simp
        case ql=>exact jqg.one (by omega) (by simp) (by simp)
        case qn=>exact jox hz9
        case qb=>(have:=HB.out.size;simp;omega)
        intro v1 w1 hown1 hg1 hat1
        have hbw0:Below w.heap.size w5 w1:=((Below.refl w.heap.size w5).alloc HB.out.size _).grown hg1 (by have:=HB.out.size;simp;omega) (fun k hk=>(HO.out.lt hk).1)
        have hbw1:Below w.heap.size w w1:=HB.out.trans hbw0
        replace hx0:=(hbw0.cell (p:=⟨b,off,none⟩) hb).trans hx0
        replace hx1:=(hbw0.cell (p:=⟨b,off+1,none⟩) hb).trans hx1
        replace hy0:=(hbw0.cell (p:=⟨b',off',none⟩) hb').trans hy0
        replace hy1:=(hbw0.cell (p:=⟨b',off'+1,none⟩) hb').trans hy1))
   all_goals
     go_wp2_with fail
     go_roundw
     case rel =>
       refine⟨xs,ys,zs++[Tk.mk tk tn],_,_,_,_,rfl,rfl,?_,?_,?_,?_,?_,?_,hown1,HT.out▸merge_eq h0.out HXY.out,?_,hbw1⟩
       all_goals first
         | exact HL.out.below hbw0
         | exact HM.out.below hbw0
         | exact HL.out.tail.below hbw0
         | exact HM.out.tail.below hbw0
         | (refine Or.inl (List.eq_nil_of_length_eq_zero ?_);omega)
         | (unfold maxLen;omega)
         | omega
         | (simp only[List.length_cons];omega)
         | (simp at hsum ⊢;omega)
     case measure=>first | (simp[jps];done) | (simp[jps];omega))
 ·(
 have HXY:=Lh hxy;rw[jx4 hxy];clear hxy;by_cases hdd:d'=1
 all_goals
   go_wp2_with fail
   go_region_held3 (fun w'=>w'.cell? ⟨b,off,none⟩=some (.int .i64 xk)/\w'.cell? ⟨b,off+1,none⟩=some (.int .u64 xn)/\w'.cell? ⟨b',off',none⟩=some (.int .i64 yk)/\w'.cell? ⟨b',off'+1,none⟩=some (.int .u64 yn))
     (first
       | exact⟨hx0,hx1,hy0,hy1⟩
       | (refine⟨?_,?_,?_,?_⟩ <;> go_simp))
     (first
     | (refine jjy _ rfl (.tmp 62) (.tmp 66) 54 rfl w.heap.size Tryz.underlying54 u9 zs ?qs ?qo (w4.heap.size+1) (some ⟨w4.heap.size,0,none⟩) 1 1 [⟨yk,yn⟩] rfl ?qx ?ql ?qn ?qb ?_
        case qs=>go_simp
        case qo=>exact HO.out.below ((jzf w4 (.cells #[.int .i64 yk,.int .u64 yn] 53)).drew)
        case qx=>go_simp
        case ql=>exact jqg.one (by omega) (by simp) (by simp)
        case qn=>exact jox hz9
        case qb=>(have:=HB.out.size;simp;omega)
        intro v1 w1 hown1 hg1 hat1
        have hbw0:Below w.heap.size w4 w1:=(((Below.refl w.heap.size w4).alloc HB.out.size _).drew).grown hg1 (by have:=HB.out.size;simp;omega) (fun k hk=>(HO.out.lt hk).1)
        have hbw1:Below w.heap.size w w1:=HB.out.trans hbw0
        replace hx0:=(hbw0.cell (p:=⟨b,off,none⟩) hb).trans hx0
        replace hx1:=(hbw0.cell (p:=⟨b,off+1,none⟩) hb).trans hx1
        replace hy0:=(hbw0.cell (p:=⟨b',off',none⟩) hb').trans hy0
        replace hy1:=(hbw0.cell (p:=⟨b',off'+1,none⟩) hb').trans hy1))
   all_goals
     go_wp2_with fail
     go_roundw
     case rel =>
       refine⟨⟨xk,xn⟩ :: xs,ys,zs++[Tk.mk yk yn],_,_,_,_,rfl,rfl,?_,?_,?_,?_,?_,?_,hown1,merge_gt h0.out HXY.out,?_,hbw1⟩
       all_goals first
         | exact HL.out.below hbw0
         | exact HM.out.below hbw0
         | exact HL.out.tail.below hbw0
         | exact HM.out.tail.below hbw0
         | (refine Or.inl (List.eq_nil_of_length_eq_zero ?_);omega)
         | (unfold maxLen;omega)
         | omega
         | (simp only[List.length_cons];omega)
         | (simp at hsum ⊢;omega)
     case measure=>first | (simp[jps];done) | (simp[jps];omega)))))
theorem jfk{a b:List Tk}(ha:Nok a)(hb:Nok b):Nok (jz1 a b):=by
 induction a,b using jz1.induct with
 | case1 b=>rw[jz3];exact hb
 | case2 x a=>rw[jz6];exact ha
 | case3 x a y b hlt ih=>(
 rw[jjo _ _ hlt];intro z hz;rcases List.mem_cons.1 hz with rfl | hz
 ·exact ha z (by simp)
 ·exact ih (fun u hu=>ha u (by simp[hu])) hb z hz)
 | case4 x a y b hlt hgt ih=>(
 rw[jjp _ _ hgt];intro z hz;rcases List.mem_cons.1 hz with rfl | hz
 ·exact hb z (by simp)
 ·exact ih ha (fun u hu=>hb u (by simp[hu])) z hz)
 | case5 x a y b hlt hgt ih=>(
 rw[jjq _ _ (by omega)];intro z hz;rcases List.mem_cons.1 hz with rfl | hz
 ·(
 unfold jj1;split
 ·exact hb y (by simp)
 ·exact ha x (by simp))
 ·exact ih (fun u hu=>ha u (by simp[hu])) (fun u hu=>hb u (by simp[hu])) z hz)
theorem jty(A B:Option Addr)(c d:Nat)(l l':List Tk)(w:World)(h:In w A c l)(h':In w B d l')(hlen:l.length<=1000)(hlen':l'.length<=1000):Calls Tryz.prog 82 #[.slice A l.length c,.slice B l'.length d] w (RetF w (jz1 l l')):=by
 have HJ:=Lh (jor A B c d l l' w h h' (jfk h.nok h'.nok) hlen hlen');clear h h';go_enter Tryz.func82,Tryz.ntmps82;go_wp2_with fail;refine HJ.out.mono ?_;rintro e w' ⟨A2,c2,rfl,hin,hf,hb⟩;go_wp2_with fail;go_ret;exact⟨A2,c2,rfl,hin,hf,hb⟩
end C3
namespace J5
open Go.RowKit Go.Shelf
open C3 (Tk In jz1 jzj jzf)
open V4 (Va Vl Ck jzr jzm jjj InC jzh jzt)
theorem jv4{W:World}{base:Nat}{A:Option Addr}{c:Nat}{l:List Tk}(h:In W A c l)(hA:∀ a,A=some a->base<=a.block)(hl:l.length<=1000):(Ck.mk A c l).Inp (fun b=>base<=b/\b<W.heap.size) W:=by
 refine⟨?_,h.cap,h.top,h.nok,by simp only;omega⟩;rcases h.lies with h0 | ⟨b,off,e,hb,hc⟩
 ·exact .inl (by simp only;rw[h0];rfl)
 ·(
 subst e;refine .inr ⟨b,off,rfl,⟨hA _ rfl,hb⟩,fun i u hu=>?_⟩;have:=C3.jqg.cells (m:=W.heap.size) (w:=W) (b:=b) (off:=off) (xs:=l) (.inr ⟨b,off,rfl,hb,hc⟩) i u hu;cases i <;> simpa[Addr.add] using this)
theorem jo5{l:List (List Tk)}{k:Nat}{x:List Tk}(hx:l[k]?=some x):(l.take (k+1)).foldl jz1 []=jz1 ((l.take k).foldl jz1 []) x:=by
 obtain⟨hk,he⟩:=List.getElem?_eq_some_iff.1 hx;rw[List.take_succ_eq_append_getElem hk,List.foldl_append,he];rfl
theorem jpu(x y:Vl)(w:World)(hx:x.In w)(hy:y.In w)(n0:x.er.c.length<=1)(n1:y.er.c.length<=1)(hck:∀ k∈x.er.c++y.er.c,k.length<=40):Calls Tryz.prog 45 #[x.val,y.val] w (jyb w (jkn x.er y.er)):=by
 obtain⟨n,m,sA,sc,ss,cA,cc,cs,vA,vc,vs⟩:=x;obtain⟨n',m',sA',sc',ss',cA',cc',cs',vA',vc',vs'⟩:=y;rw[jzt] at n0 n1 hck;rw[jzt] at hck;simp only[Va.c,List.length_map] at n0 n1 hck;rw[<- List.map_append] at hck;have HCE:Hid (jkn (Vl.mk n m sA sc ss cA cc cs vA vc vs).er (Vl.mk n' m' sA' sc' ss' cA' cc' cs' vA' vc' vs').er=if ((cs++cs').map Ck.l).foldl jz1 []=[] then some .zero else if 40<(((cs++cs').map Ck.l).foldl jz1 []).length then none else some (.mk 0 0 [] [((cs++cs').map Ck.l).foldl jz1 []] [])):=by (
 show jkn _ _=_
 rw[jzt,jzt,List.map_append];rfl)
 obtain⟨res,hres⟩:=exq (jkn (Vl.mk n m sA sc ss cA cc cs vA vc vs).er (Vl.mk n' m' sA' sc' ss' cA' cc' cs' vA' vc' vs').er);rw[hres] at HCE;rw[hres];clear hres;have HCK:Hid (∀ k∈cs++cs',InC w k/\k.l.length<=40):=fun k hk=>by (
 refine⟨?_,hck k.l (List.mem_map.2 ⟨k,hk,rfl⟩)⟩;rcases List.mem_append.1 hk with hk | hk
 ·cases hx with | mk _ _ _ _ _ _ _ _ _ _ _ _ _ _ _ _ _ _ b3 _ _ _=>exact b3 k hk
 ·cases hy with | mk _ _ _ _ _ _ _ _ _ _ _ _ _ _ _ _ _ _ b3 _ _ _=>exact b3 k hk)
 have HLC:Hid (jzr (fun b=>b<w.heap.size) w cA (jzm cs)/\jzr (fun b=>b<w.heap.size) w cA' (jzm cs')):=by (
 constructor
 ·cases hx with | mk _ _ _ _ _ _ _ _ _ _ _ _ _ _ _ _ b1 _ _ _ _ _=>exact b1
 ·cases hy with | mk _ _ _ _ _ _ _ _ _ _ _ _ _ _ _ _ b1 _ _ _ _ _=>exact b1)
 have HN:=Lh (And.intro n0 n1);clear hx hy hck n0 n1;simp only[jzh];obtain⟨V,hV⟩:=exq (((w.alloc (.cells #[.int .u64 n,.int .u64 m,.slice sA ss.length sc,.slice cA cs.length cc,.slice vA vs.length vc] 30)).alloc (.cells #[.int .u64 n',.int .u64 m',.slice sA' ss'.length sc',.slice cA' cs'.length cc',.slice vA' vs'.length vc'] 30)).alloc (.cells #[.int .u64 0,.int .u64 0,.slice none 0 0,.slice none 0 0,.slice none 0 0] 30));obtain⟨q0,q1,q2,hb0,hsz0⟩:=jnq hV;have hsz:w.heap.size+3<=V.heap.size:=by omega
 clear hsz0;have a3:V.cell? ⟨w.heap.size,3,none⟩=some (.slice cA cs.length cc):=jza q0 3 _ rfl;have b3:V.cell? ⟨w.heap.size+1,3,none⟩=some (.slice cA' cs'.length cc'):=jza q1 3 _ rfl;obtain⟨V2,hV2⟩:=exq (V.alloc (.cells #[.slice cA cs.length cc,.slice cA' cs'.length cc'] 27));have hbV2:Below V.heap.size V V2:=by rw[<- hV2];exact jzf _ _
 have q7:Blk V2 V.heap.size 27 #[.slice cA cs.length cc,.slice cA' cs'.length cc']:=by rw[<- hV2];exact Blk.new _ _ _
 have hbwV2:Below w.heap.size w V2:=hb0.trans (hbV2.mono hb0.size);go_enter Tryz.func45,Tryz.ntmps45;go_wp2_with fail;refine (jfv V.heap.size 2 cA cc cs cA' cc' cs' V2 (jza q7 0 _ rfl) (jza q7 1 _ rfl) ((HLC.out.1.below hbwV2).mono fun _ h=>ltl h hbwV2.size) ((HLC.out.2.below hbwV2).mono fun _ h=>ltl h hbwV2.size) (leT HN.out.1 (by decide)) (leT HN.out.2 (by decide))).mono ?_;rintro e W ⟨v3,rfl,hown3,hb3⟩;obtain⟨A3,c3,rfl,_⟩:=jzw hown3;have HR:=Lh (jz8 hown3).1;have hlen:(cs++cs').length<=2:=by rw[List.length_append];have:=HN.out.1;have:=HN.out.2;omega
 obtain⟨K,hK⟩:=exq (cs++cs');rw[hK] at hlen HR HCK HCE;rw[hK];have hbVW:Below V.heap.size V W:=hbV2.trans (hb3.mono hbV2.size);have hbW:Below w.heap.size w W:=hb0.trans (hbVW.mono hb0.size);have HQ2:=Lh (q2.below hbVW);have HBW:=Lh hbW;have hsW:w.heap.size+3<=W.heap.size:=by have:=hbVW.size;omega
 have hln:K.length<=9223372036854775807:=by omega
 clear hK hown3 q7 hV2 hV hbV2 hbwV2 hb3 q0 q1 q2 a3 b3 hbVW hb0 hbW HLC HN;go_wp2_with fail;go_loopw [6,16] (fun av iv wr=>∃ (k:Nat) (A:Option Addr) (c:Nat) (l:List Tk),k<=K.length/\iv = .int .i64 k/\av = .slice A l.length c/\Hid (((K.map Ck.l).take k).foldl jz1 []=l)/\Hid (In wr A c l)/\Hid (∀ a,A=some a->W.heap.size<=a.block)/\Hid (Below W.heap.size W wr)/\l.length<=40*k) (fun _ iv _=>K.length - (intOf iv).toNat)
 case atStart=>exact⟨0,none,0,[],Nat.zero_le _,rfl,rfl,rfl,C3.In.nil _,(fun a h=>by cases h),Below.refl _ _,Nat.zero_le _⟩
 case round=>(
 obtain⟨k,A,c,l,hk,rfl,rfl,HF,HI,HA,HB,hl40⟩:=hrel;by_cases hlt:k<K.length
 ·(
 obtain⟨x,hx⟩:∃ x,K[k]?=some x:=⟨_,List.getElem?_eq_getElem hlt⟩
 obtain⟨b,off,rfl,hbb,hc0⟩:=V4.jqn HR.out hx;have hc1:wr.cell? ⟨b,off+k,none⟩=some x.v:=(HB.out.cell (p:=⟨b,off+k,none⟩) hbb.2).trans hc0;have HX:=Lh hx;obtain⟨hxi,hx40⟩:=HCK.out x (List.mem_of_getElem? hx);have HXI:Hid (In wr x.A x.c x.l):=((hxi.later (HBW.out.trans (HB.out.mono HBW.out.size))).inn);have hbl:b<wr.heap.size:=ltl hbb.2 HB.out.size;clear hx hc0 hxi hbb;obtain⟨xA,xc,xl⟩:=x;simp only[V4.Ck.v] at hc1 hx40 HXI;have l1:l.length<=1000:=by omega
 have l2:xl.length<=1000:=by omega
 go_wp2_with fail;refine (C3.jty A xA c xc l xl _ HI.out HXI.out l1 l2).mono ?_;rintro e w2 ⟨A2,c2,rfl,hin,hf,hb2⟩;have HB2:Hid (Below W.heap.size W w2):=HB.out.trans (hb2.mono HB.out.size);have HIN:=Lh hin;have HF2:Hid (∀ a,A2=some a->W.heap.size<=a.block):=fun a ha=>leT HB.out.size (hf a ha)
 have hml:=C3.jos l xl;have HFX:Hid (((K.map Ck.l).take (k+1)).foldl jz1 []=jz1 l xl):=by (
 show _=_
 rw[jo5 (k:=k) (x:=xl) (by rw[List.getElem?_map,HX.out];rfl),HF.out])
 obtain⟨ml,hmm⟩:=exq (jz1 l xl);rw[hmm] at HIN HFX hml;rw[hmm];clear hmm hin hf hb2;go_wp2_with fail;go_roundw
 case rel=>exact⟨k+1,A2,c2,ml,by omega,by go_num,rfl,HFX,HIN,HF2,HB2,by omega⟩
 case measure=>simp[intOf];omega)
 ·(
 have hkk:k=K.length:=by omega
 have HFA:Hid ((K.map Ck.l).foldl jz1 []=l):=by (
 have:=HF.out;rwa [List.take_of_length_le (by simp;omega)] at this)
 rw[HFA.out] at HCE;have hl80:l.length<=80:=by omega
 have q2:=HQ2.out.below HB.out;have hsr:w.heap.size+3<=wr.heap.size:=leT hsW HB.out.size;have hbr:Below w.heap.size w wr:=HBW.out.trans (HB.out.mono HBW.out.size);clear HF HFA HR HCK hkk;by_cases h0:l=[]
 ·(
 subst h0;have hr:=HCE.out;rw[if_pos rfl] at hr;subst hr;obtain⟨d0,d1,d2,d3,d4⟩:=blk5 q2;obtain⟨f0,f1,f2,f3,f4⟩:=fro5 q2;go_wp2_with fail;refine bodyPost_ret (rcv5 rfl _ _ (w.heap.size+1+1) (.int .u64 0) (.int .u64 0) (.slice none 0 0) (.slice none 0 0) (.slice none 0 0) rfl (jzc q2)) rfl ?_;exact .inl ⟨vlZ,by rw[jb7],rfl,V4.jq7 _ _,jzl hbr (by omega)⟩)
 ·(
 have hr0:=HCE.out;rw[if_neg h0] at hr0;replace HCE:=Lh hr0;clear hr0;have hne:((l.length:Int) == 0)=false:=beq_eq_false_iff_ne.2 (by have:=List.length_pos_iff.2 h0;omega);clear h0;obtain⟨U,hU⟩:=exq (wr.alloc (.cells #[.slice A l.length c] 54));have hbU:Below wr.heap.size wr U:=by rw[<- hU];exact jzf _ _
 have q8:Blk U wr.heap.size 54 #[.slice A l.length c]:=by rw[<- hU];exact Blk.new _ _ _
 have q2U:=q2.below hbU;have HKI:Hid ((Ck.mk A c l).Inp (fun b=>W.heap.size<=b/\b<wr.heap.size) wr):=jv4 HI.out HA.out (by omega);have HFT:=Lh (jcn A l.length c (.mk 0 0 none 0 [] (some ⟨wr.heap.size,0,none⟩) 1 [⟨A,c,l⟩] none 0 []) U);rw[jzh] at HFT;go_wp2_with fail;refine HFT.out.mono ?_;clear HFT;rintro e X ⟨rfl,hbX⟩;have q2X:=q2U.below hbX;have hsX:wr.heap.size<U.heap.size:=q8.lt;have hsX2:=hbX.size;obtain⟨d0,d1,d2,d3,d4⟩:=blk5 q2X;obtain⟨f0,f1,f2,f3,f4⟩:=fro5 q2X;have hbwX:Below w.heap.size w X:=(hbr.trans (hbU.mono hbr.size)).trans (hbX.mono (leT hbr.size hbU.size));have HQ8:=Lh (q8.below hbX);have HBX:Hid (Below wr.heap.size wr X):=hbU.trans (hbX.mono hbU.size);clear q2 q2U q8 hU hbU hbX hbr;by_cases h40:40<l.length
 ·(
 have hr:=HCE.out;rw[if_pos h40] at hr;subst hr;simp only[if_pos h40,jka];go_wp2_with fail;refine bodyPost_ret (rcv5 rfl _ _ (w.heap.size+1+1) (.int .u64 0) (.int .u64 0) (.slice none 0 0) (.slice none 0 0) (.slice none 0 0) rfl (jzc q2X)) rfl ?_;exact .inr ⟨rfl,rfl,jzl hbwX (by omega)⟩)
 ·(
 have hr:=HCE.out;rw[if_neg h40] at hr;subst hr;simp only[if_neg h40,jzh,List.length_cons,List.length_nil,Nat.zero_add];go_wp2_with fail;refine bodyPost_ret (rcv5 rfl _ _ (w.heap.size+1+1) (.int .u64 0) (.int .u64 0) (.slice none 0 0) (.slice (some ⟨wr.heap.size,0,none⟩) 1 1) (.slice none 0 0) rfl (jzc q2X)) rfl ?_;refine .inl ⟨.mk 0 0 none 0 [] (some ⟨wr.heap.size,0,none⟩) 1 [⟨A,c,l⟩] none 0 [],by rw[jzt];rfl,rfl,?_,jzl hbwX (by omega)⟩;have hbY:∀ b,W.heap.size<=b->(jz9 X (w.heap.size+1+1) (.int .u64 0) (.int .u64 0) (.slice none 0 0) (.slice (some ⟨wr.heap.size,0,none⟩) 1 1) (.slice none 0 0)).heap[b]?=X.heap[b]?:=fun b hb=>jzn (by omega)
 have hsY:(jz9 X (w.heap.size+1+1) (.int .u64 0) (.int .u64 0) (.slice none 0 0) (.slice (some ⟨wr.heap.size,0,none⟩) 1 1) (.slice none 0 0)).heap.size=X.heap.size:=jzp;have hWr:=HB.out.size;refine .mk _ _ _ _ _ _ _ _ _ _ _ (by omega) (by omega) (.inl rfl) (by simp) (by simp) (.inr ⟨wr.heap.size,0,rfl,⟨by omega,ltl (show wr.heap.size<X.heap.size by omega) (Nat.le_of_eq hsY.symm)⟩,fun i u hu=>?_⟩) (by simp[maxLen]) (fun k hk=>?_) (.inl rfl) (by simp) (by simp)
 ·(
 simp only[jzm,List.map_cons,List.map_nil] at hu;cases i with
 | zero=>(
 simp only[List.getElem?_cons_zero,Option.some.injEq] at hu;subst hu;exact (World.cell?_of_block (a:=⟨wr.heap.size,0,none⟩) (hbY _ (by omega))).trans (jza HQ8.out 0 _ rfl))
 | succ i=>simp at hu)
 ·(
 rw[List.mem_singleton] at hk;subst hk;refine ((HKI.out.keep fun b hP=>(hbY b hP.1).trans (HBX.out.block b hP.2)).mono fun b hP=>⟨by omega,?_⟩);exact ltl (ltl hP.2 HBX.out.size) (Nat.le_of_eq hsY.symm))))))
open S2 (Tr isT)
open V4 (Va Vl Ck isV jqh)
def jxg(t:Tr)(x v:Va):Except Int Va:=if isV t x=true/\isV t v=true then (match jzs t x v with | some z => .ok z | none => .error 13) else .error 14
def jf0(t:Tr)(l:List Va):Except Int Va:=if isT 16 t=true then l.foldlM (jxg t) (jqh t) else .error 14
theorem jx6{t:Tr}{x v:Va}{l:List Va}:(v :: l).foldlM (jxg t) x=(jxg t x v).bind fun y=>l.foldlM (jxg t) y:=rfl
theorem jdw{t:Tr}{x v:Va}{l:List Va}:(l++[v]).foldlM (jxg t) x=(l.foldlM (jxg t) x).bind fun y=>jxg t y v:=by
 induction l generalizing x with
 | nil=>(
 rw[List.nil_append,jx6];show _=(Except.ok x:Except Int Va).bind _
 cases h:jxg t x v <;> simp[Except.bind,h,pure,Except.pure])
 | cons w l ih=>(
 rw[List.cons_append,jx6,jx6];cases jxg t x w with
 | error e=>rfl
 | ok y=>exact ih)
theorem jg4{t:Tr}{x v:Va}{l:List Va}{k:Nat}(hv:l[k]?=some v):(l.take (k+1)).foldlM (jxg t) x=((l.take k).foldlM (jxg t) x).bind fun y=>jxg t y v:=by
 obtain⟨hk,he⟩:=List.getElem?_eq_some_iff.1 hv;rw[List.take_succ_eq_append_getElem hk,he,jdw]
theorem jkl{t:Tr}{x:Va}{l:List Va}{k:Nat}{e:Int}(h:(l.take k).foldlM (jxg t) x = .error e):l.foldlM (jxg t) x = .error e:=by
 have key:∀ (a b:List Va) (x:Va),a.foldlM (jxg t) x = .error e->(a++b).foldlM (jxg t) x = .error e:=by (
 intro a;induction a with
 | nil=>intro b x h;cases h
 | cons v a ih=>(
 intro b x h;rw[List.cons_append,jx6];rw[jx6] at h;cases hs:jxg t x v with
 | error e'=>rw[hs] at h;exact h
 | ok y=>rw[hs] at h;exact ih b y h))
 have:=key (l.take k) (l.drop k) x h;rwa [List.take_append_drop] at this
theorem Nn.of_inp{P:Nat->Prop}{w:World}{x:Vl}(h:x.Inp P w):Nn x.er:=by
 induction h with
 | mk n m sA sc ss cA cc cs vA vc vs h1 h2 _ _ _ _ _ h8 _ _ _ ih=>(
 rw[V4.jzt];refine .mk _ _ _ _ _ h1.1 h2.1 (fun k hk=>?_) fun y hy=>?_
 ·(
 obtain⟨c,hc,rfl⟩:=List.mem_map.1 hk;exact fun t ht=>((h8 c hc).nok t ht).1)
 ·(
 obtain⟨z,hz,rfl⟩:=List.mem_map.1 hy;exact ih z hz))
end J5
end Go.Proofs.YtobggoephhjofaaGreatDoor
