/- A part. No condition. -/
import Derived.Test.YtobggoephhjofaaGreatDoorMk24
import Derived.Shelf.Spec.SlicesGrow
import Derived.LoopN
set_option maxRecDepth 100000
set_option maxHeartbeats 16000000
namespace Go.Proofs.YtobggoephhjofaaGreatDoor
namespace J5
open Go.RowKit Go.Shelf
open C3 (Tk In Asc jxt jzk jzf jkg)
open V4 (Va Vl Ck jzt jzl jju InC jzh)
def Tryz.growT_ren:Go.Shelf.Ren:=⟨fun | 4=>125 | n=>n,fun | 22=>27 | 25=>54 | 3=>3 | 4=>4 | 9=>9 | 20=>20 | 0=>0 | n=>n,fun | n=>n⟩
theorem Tryz.growT:Go.Proofs.Lays8.n4 Tryz.prog Tryz.growT_ren:={
  mixed:=by kernel_rfl
  f4:=⟨Tryz.f125.name,by decide,Tryz.func125.trans (congrArg some (by kernel_rfl))⟩
  t0:=Tryz.underlying0
  a0:=Tryz.isAgg0
  z0:=Tryz.sizeOf0
  v0:=Tryz.zeroValue0
  t3:=Tryz.underlying3
  a3:=Tryz.isAgg3
  z3:=Tryz.sizeOf3
  v3:=Tryz.zeroValue3
  t4:=Tryz.underlying4
  a4:=Tryz.isAgg4
  z4:=Tryz.sizeOf4
  v4:=Tryz.zeroValue4
  t9:=Tryz.underlying9
  a9:=Tryz.isAgg9
  z9:=Tryz.sizeOf9
  v9:=Tryz.zeroValue9
  t20:=Tryz.underlying20
  a20:=Tryz.isAgg20
  z20:=Tryz.sizeOf20
  v20:=Tryz.zeroValue20
  t22:=Tryz.underlying27
  a22:=Tryz.isAgg27
  z22:=Tryz.sizeOf27
  v22:=Tryz.zeroValue27 }
abbrev jig(w:World)(base:Nat)(v:Value)(cs:List Ck):Prop:=w.ownsRow base 54 1 v cs.length (jzl cs)
theorem jnk(n:Nat)(hn:n<=100000)(w:World):Calls Tryz.prog 125 #[.slice none 0 0,.int .i64 n] w fun e w'=>∃ v,e = .returned v/\jig w' w.heap.size v []/\Below w.heap.size w w':=by
 obtain⟨i0,hi,eZ,ek,db⟩:=info_parts Tryz.infoTs;rcases Nat.eq_zero_or_pos n with rfl | hp
 ·(refine (Any8.slices_Grow_room Tryz.growT none 0 0 0 w (by omega) (by omega) (by omega) (by omega)).mono ?_;rintro e w' ⟨rfl,rfl⟩;exact⟨_,rfl,World.ownsRow_nil _ _ _ _,Below.refl _ _⟩)
 ·(
 refine (Any8.slices_Grow_grow Tryz.growT i0 _ hi eZ (by omega) none 0 0 n [] w (by omega) (by omega) (by rw[db];omega) (by omega) (by simp) (fun _=>rfl) (fun _ h=>by cases h)).mono ?_;rintro e w' ⟨rfl,rfl⟩;refine⟨_,rfl,World.ownsRow_made w.drew _ _ (Nat.le_refl _) (grownCap_le_maxLen _ _ _ _ (by unfold maxLen;omega)) ?_,jzk ⟨rfl,rfl,rfl,Nat.le_refl _,fun _ _=>rfl⟩⟩;have:=grownCap_ge w (0+n) 0 54;simp only[Array.size_append,size_zeroCells,List.size_toArray,List.length_nil];show _=grownCap w (0+n) 0 54*1
 simp only[Value.cells,List.size_toArray,List.length_cons,List.length_nil];show 0+(0+n - 0)*1+(grownCap w (0+n) 0 54 - (0+n))*1=_
 omega)
section
variable (w:World)
theorem ju4(base:Nat)(t ty:TypeId)(ht:Tryz.prog.underlying t=some (.slice 54))(v:Value)(ys:List Ck)(aj:jig w base v ys)(c:Nat):(Builtin.append_ #[t,t] ty #[v,.slice none 0 c]).run Tryz.prog w = .ok v w:=by
 obtain⟨i0,hi,eZ,ek,db⟩:=info_parts Tryz.infoTs;rcases aj.2 with ⟨rfl,_⟩ | ⟨g,cap,cur,rfl,_,_,j0,_⟩
 ·simp[Builtin.append_,run_underlying ht,sizeOf,typeInfo,hi,Builtin.lenOf,Builtin.firstCells]
 ·simp[Builtin.append_,run_underlying ht,sizeOf,typeInfo,hi,Builtin.lenOf,Builtin.firstCells,j0,storeCells]
theorem run_appC(base:Nat)(t ty:TypeId)(ht:Tryz.prog.underlying t=some (.slice 54))(v:Value)(ys:List Ck)(aj:jig w base v ys)(P:Nat->Prop)(A:Option Addr)(c:Nat)(news:List Ck)(hl:jzt P w A (jzl news))(aq:ys.length+news.length<=1000000)(b6:base<=w.heap.size):∃ v' w',(Builtin.append_ #[t,t] ty #[v,.slice A news.length c]).run Tryz.prog w = .ok v' w'/\jig w' base v' (ys++news)/\w.grownBy w' v.ownBlock/\(v'.ownBlock=v.ownBlock\/v'.ownBlock=some w.heap.size):=by
 obtain⟨i0,hi,eZ,ek,db⟩:=info_parts Tryz.infoTs;cases A with
 | none=>(
 have hn:news=[]:=by (
 rcases hl with h | ⟨b,off,h,_⟩
 ·exact List.map_eq_nil_iff.1 h
 ·cases h)
 subst hn;exact⟨v,w,ju4 w base t ty ht v ys aj c,by simpa using aj,World.grownBy.refl w _,.inl rfl⟩)
 | some a=>(
 have gn:∀ j u,(jzl news)[j]?=some u->w.cell? (a.add j)=some u:=by (
 intro j u hu;rcases hl with h | ⟨b,off,h,_,hc⟩
 ·rw[h] at hu;simp at hu
 ·(
 cases h
 rw[Addr.add_lit];exact hc j u hu))
 have h1:∀ u∈jzl news,u.oneCell'=true:=fun u hu=>by (obtain⟨k,_,rfl⟩:=List.mem_map.1 hu;rfl)
 obtain⟨v',w',hr,h2,h3,_,h5⟩:=run_append_own_at (P:=Tryz.prog) w base t ty 54 i0 _ 1 24 ht hi eZ ek db rfl (by omega) v ys.length (jzl ys) aj a news.length c (jzl news)
   (by rw[jju,Nat.mul_one]) gn h1 (by unfold maxLen;omega) (by omega) b6
 refine⟨v',w',hr,?_,h3,h5⟩;unfold jig jzl at *;rw[List.map_append,List.length_append];exact h2)
variable {o:Oper} {a:Act} {K:Act->World->Prop} {Q:Exit->Act->World->Prop}
theorem jb8{ops:Array Oper}{rest:List Oper}(jS:o.guard=none)(s x:Operand)(t:TypeId)(ho:o.op = .call { callee := .builtin .append,args:=#[s,x],argTypes:=#[t,t] })(base:Nat)(ht:Tryz.prog.underlying t=some (.slice 54))(v:Value)(ys:List Ck)(hs:a.eval s=v)(aj:jig w base v ys)(P:Nat->Prop)(A:Option Addr)(m c:Nat)(news:List Ck)(hm:news.length=m)(hx:a.eval x = .slice A m c)(hl:jzt P w A (jzl news))(aq:ys.length+news.length<=1000000)(b6:base<=w.heap.size)(h:∀ v' w',jig w' base v' (ys++news)->w.grownBy w' v.ownBlock->wpList Tryz.prog ops Q rest (a.put o.dst v') w'):wpList Tryz.prog ops Q (o :: rest) a w:=by
 refine wpList_plain jS fun K hK=>?_
 subst hm;obtain⟨v',w',hr,h2,h3,h4⟩:=run_appC w base t o.type ht v ys aj P A c news hl aq b6;unfold Oper.wp execOp;simp only[ho,resolve,invoke,builtin,Sem.run_bind,Sem.run_pure,Result.andThen_ok,List.map_toArray,List.map_cons,List.map_nil,hs,hx,hr];exact hK _ _ (h v' w' h2 h3)
end
theorem jrm(k:Ck)(w:World)(hk:InC w k)(h1:k.l.length<=1000):Calls Tryz.prog 90 #[k.v] w fun e w'=>∃ k':Ck,e = .returned k'.v/\k'.l=k.l/\k'.Inp (fun b=>w.heap.size<=b/\b<w'.heap.size) w'/\Below w.heap.size w w':=by
 obtain⟨A,c,l⟩:=k;simp only[V4.Ck.v] at h1 ⊢;have q55:∀ (w:World) (a:Option Addr) (n c n' c':Nat),(binOp .eql 54 (.slice a n c) (.slice none n' c')).run Tryz.prog w = .ok (.bool a.isNone) w:=fun w a n c n' c'=>Lib.run_eql_slice_nil w _ _ a n c n' c' Tryz.underlying54
 cases A with
 | none=>(
 have hl:l=[]:=by (
 rcases hk.lies with h | ⟨b,off,h,_⟩
 ·(
 cases l with
 | nil=>rfl
 | cons x l=>simp[C3.jzx] at h)
 ·cases h)
 subst hl;go_enter Tryz.func90,Tryz.ntmps90;go_wp2_with fail;go_ret;exact⟨⟨none,0,[]⟩,rfl,rfl,⟨.inl rfl,Nat.le_refl _,Nat.zero_le _,(fun _ hx=>(by cases hx)),(by simp)⟩,Below.refl _ _⟩)
 | some a=>(
 have HL:=Lh (hk.inn);have HK:=Lh hk;clear hk;go_enter Tryz.func90,Tryz.ntmps90;go_wp2_with (at_builtin;refine C3.jqe _ rfl (.tmp 5) (.tmp 6) 54 rfl w.heap.size Tryz.underlying54 _ [] rfl (World.ownsRow_made w #[] 0 (Nat.le_refl _) (Nat.zero_le _) (by simp)) w.heap.size (some a) l.length c l rfl rfl ?q1 ?q2 (by simp) ?_)
 case q1=>exact HL.out.lies.below (jzf _ _)
 case q2=>omega
 intro v1 w1 aj hg _;have hb:Below w.heap.size w w1:=((Below.refl _ w).alloc (Nat.le_refl _) _).grown hg (by simp) (by intro k hk;simp[Value.ownBlock] at hk;omega);clear hg;go_wp2
 go_ret;obtain⟨A,c',rfl,_⟩:=jzy aj;obtain⟨h5,h6,h7⟩:=jz8 aj;exact⟨⟨A,c',l⟩,rfl,rfl,⟨h5,h6,h7,HK.out.nok,HK.out.few⟩,hb⟩)
theorem jf1(B d:Nat)(A:Option Addr)(c:Nat)(cs:List Ck)(A':Option Addr)(c':Nat)(cs':List Ck)(w:World)(h0:w.cell? ⟨B,0,none⟩=some (.slice A cs.length c))(h1:w.cell? ⟨B,1,none⟩=some (.slice A' cs'.length c'))(hl:jzt (fun b=>b<w.heap.size) w A (jzl cs))(cR:jzt (fun b=>b<w.heap.size) w A' (jzl cs'))(n0:cs.length<=1000)(n1:cs'.length<=1000):Calls Tryz.prog 81 #[.slice (some ⟨B,0,none⟩) 2 d] w fun e w'=>∃ v,e = .returned v/\jig w' w.heap.size v (cs++cs')/\Below w.heap.size w w':=by
 have HL:=Lh (And.intro hl cR);have HG:=Lh (jnk (cs.length+cs'.length) (by omega) w);obtain⟨n,hn⟩:=exq (cs.length);obtain⟨m,hm⟩:=exq (cs'.length);rw[hn] at h0 n0 HG;rw[hm] at h1 n1 HG;have HN:=Lh (And.intro hn hm);clear hn hm hl cR;have w1:wrap64 (0+(n:Int))=n:=by unfold wrap64;omega
 have w2:wrap64 ((n:Int)+(m:Int))=((n+m:Nat):Int):=by unfold wrap64;omega
 have w3:¬ ((n:Int)<0):=by omega
 have w4:¬ (((n+m:Nat):Int)<0):=by omega
 go_enter Tryz.func81,Tryz.ntmps81;go_wp2_with fail;refine wp_loop_rounds 3 ?_;rw[rounds_succ];go_wp2_with fail;rw[rounds_succ];go_wp2_with fail;rw[rounds_succ];go_wp2_with fail;rw[Int.natCast_add] at HG;refine HG.out.mono ?_;rintro e W ⟨v,rfl,aj,hb⟩;have h0W:=(hb.cell (p:=⟨B,0,none⟩) (World.block_lt_of_cell? w _ h0)).trans h0;have h1W:=(hb.cell (p:=⟨B,1,none⟩) (World.block_lt_of_cell? w _ h1)).trans h1;have HO:=Lh aj;have HB:=Lh (And.intro (World.block_lt_of_cell? w _ h0) (World.block_lt_of_cell? w _ h1));clear h0 h1 HG aj;go_wp2_with fail;refine wp_loop_rounds 3 ?_;rw[rounds_succ];go_wp2_with (at_builtin;refine jb8 _ rfl (.tmp 31) (.tmp 32) 27 rfl w.heap.size Tryz.underlying27 v [] rfl HO.out (fun b=>b<w.heap.size) A n c cs HN.out.1 rfl (HL.out.1.below hb) ?q1 hb.size ?_)
 case q1=>rw[HN.out.1];simp only[List.length_nil];omega
 intro v1 W1 ah br;have af:Below w.heap.size w W1:=hb.grown br hb.size fun k hk=>(HO.out.lt k hk).1
 have h1W1:=(br.cell h1W fun e=>by have:=(HO.out.lt _ e.symm).1;have:=HB.out.2;simp only at *;omega);clear HO h0W h1W br hb;have HO:=Lh ah;clear ah;go_wp2_with fail;rw[rounds_succ];go_wp2_with (at_builtin;refine jb8 _ rfl (.tmp 31) (.tmp 32) 27 rfl w.heap.size Tryz.underlying27 v1 ([]++cs) rfl HO.out (fun b=>b<w.heap.size) A' m c' cs' HN.out.2 rfl (HL.out.2.below af) ?q1 af.size ?_)
 case q1=>rw[List.nil_append,HN.out.1,HN.out.2];omega
 intro v2 W2 aw cF;have ab:Below w.heap.size w W2:=af.grown cF af.size fun k hk=>(HO.out.lt k hk).1
 clear HO h1W1 cF af;go_wp2_with fail;rw[rounds_succ];go_wp2
 go_ret;exact⟨v2,rfl,aw,ab⟩
end J5
namespace C3
open Go.RowKit
def jpx:Value->Nat | .slice _ n _=>n | _=>0
def jhv(n:Nat):Array Value:=madeCells #[.int .i64 0,.int .u64 0] n
theorem jog(n:Nat):(jhv n).size=n:=size_madeCells _ _
theorem jgj(W:World)(t:TypeId)(ht:Tryz.prog.underlying t=some (.slice 53))(m:Nat)(k:Int)(hk:k=m)(hm:m<=1000000):(Instr.makeSlice t (.int .i64 0) (.int .i64 k)).run Tryz.prog W = .ok (.slice (some ⟨W.heap.size,0,none⟩) 0 m) (W.alloc (.cells (jhv (m*2)) 53)):=by
 subst hk;obtain⟨i0,hi,eZ,ek,db⟩:=info_parts Tryz.infoTick;have hr:=run_make (P:=Tryz.prog) W t _ i0 _ ht hi eZ .i64 .i64 0 m (Int.le_refl _) (by omega) (by rw[db];omega) (by omega);simp only[Int.toNat_zero,Int.toNat_natCast,ek] at hr;exact hr
theorem jkg.made(w:World)(m:Nat)(hm:m<=1000000):jkg (w.alloc (.cells (jhv (m*2)) 53)) w.heap.size (.slice (some ⟨w.heap.size,0,none⟩) 0 m) [] :=
  World.ownsRow_made w (jhv (m*2)) m (Nat.le_refl _) (by unfold maxLen;omega) (by rw[jog])
theorem jfq{M zs xs ys:List Tk}(h:M=zs++jz0 xs ys)(he:xs=[]\/ys=[]):M=(zs++xs)++ys:=by
 rcases he with rfl | rfl
 ·rw[h,jz1];simp
 ·rw[h,jz3];simp
theorem merge_lt{M zs xs ys:List Tk}{x y:Tk}(h:M=zs++jz0 (x :: xs) (y :: ys))(hlt:x.k<y.k):M=(zs++[x])++jz0 xs (y :: ys):=by
 rw[h,jxh _ _ hlt];simp
theorem merge_gt{M zs xs ys:List Tk}{x y:Tk}(h:M=zs++jz0 (x :: xs) (y :: ys))(hlt:y.k<x.k):M=(zs++[y])++jz0 (x :: xs) ys:=by
 rw[h,jxi _ _ hlt];simp
theorem merge_eq{M zs xs ys:List Tk}{x y:Tk}(h:M=zs++jz0 (x :: xs) (y :: ys))(hlt:x.k=y.k):M=(zs++[jjy x y])++jz0 xs ys:=by
 rw[h,jxj _ _ hlt];simp
theorem jqn.head{m:Nat}{w:World}{A:Option Addr}{x:Tk}{xs:List Tk}(h:jqn m w A (x :: xs)):∃ b off,A=some ⟨b,off,none⟩/\b<m/\w.cell? ⟨b,off,none⟩=some (.int .i64 x.k)/\w.cell? ⟨b,off+1,none⟩=some (.int .u64 x.n):=by
 obtain⟨b,off,rfl,hb,hc⟩:=h.get (k:=0) (by simp);have:=hc 0 x rfl;exact⟨b,off,rfl,hb,by simpa using this⟩
def RetF(w:World)(ys:List Tk)(e:Ending)(w':World):Prop :=
  ∃ A c,e = .returned (.slice A ys.length c)/\In w' A c ys/\(∀ a,A=some a->w.heap.size<=a.block)/\Below w.heap.size w w'
theorem jgl{w w':World}{v:Value}{ys zs:List Tk}(h:jkg w' w.heap.size v ys)(e:ys=zs)(hn:Nok zs)(hb:Below w.heap.size w w'):RetF w zs (.returned v) w':=by
 subst e;obtain⟨A,c,rfl,h1⟩:=h.form hn;refine⟨A,c,rfl,h1,fun a ha=>?_,hb⟩;subst ha;exact (h.lt (k:=a.block) rfl).1
theorem later_at(xk xn yk yn tk tn:Int)(w:World)(h:jjy ⟨xk,xn⟩ ⟨yk,yn⟩=⟨tk,tn⟩):Calls Tryz.prog 128 #[.agg #[.int .i64 xk,.int .u64 xn],.agg #[.int .i64 yk,.int .u64 yn]] w (jz6 w (.agg #[.int .i64 tk,.int .u64 tn])):=by
 have:=jg0 xk xn yk yn w;rw[h] at this;exact this
theorem joy(A B:Option Addr)(c d:Nat)(l l':List Tk)(w:World)(h:In w A c l)(h':In w B d l')(hn:Nok (jz0 l l'))(aq:l.length<=1000)(jA:l'.length<=1000):Calls Tryz.prog 126 #[.slice A l.length c,.slice B l'.length d,.func (.func 127) #[] #[],.func (.func 128) #[] #[]] w (RetF w (jz0 l l')):=by
 obtain⟨hl,bD,bC,-⟩:=h;obtain⟨cR,ec,da,-⟩:=h';have HN:=Lh hn;have tz:∀ W:World,(Instr.makeSlice 54 (.int .i64 0) (.int .i64 ((l.length:Int)+l'.length))).run Tryz.prog W = .ok (.slice (some ⟨W.heap.size,0,none⟩) 0 (l.length+l'.length)) (W.alloc (.cells (jhv ((l.length+l'.length)*2)) 53)) :=
   fun W=>jgj W _ Tryz.underlying54 (l.length+l'.length) _ (by omega) (by omega)
 clear hn;go_enter Tryz.func126,Tryz.ntmps126;go_wp2_with fail;clear tz;go_loopw [0,1,9] (fun av bv ov wr=>∃ (xs ys zs:List Tk) (A' B':Option Addr) (c' d':Nat),av = .slice A' xs.length c'/\bv = .slice B' ys.length d'/\xs.length<=c'/\ys.length<=d'/\c'<=maxLen/\d'<=maxLen/\jqn w.heap.size wr A' xs/\jqn w.heap.size wr B' ys /\
   jkg wr w.heap.size ov zs/\Hid (jz0 l l'=zs++jz0 xs ys)/\zs.length+xs.length+ys.length<=l.length+l'.length/\Below w.heap.size w wr) (fun av bv _ _=>jpx av+jpx bv)
 case atStart=>exact⟨l,l',[],A,B,c,d,rfl,rfl,bD,ec,bC,da,hl.below (jzf _ _),cR.below (jzf _ _),jkg.made w _ (by omega),by simp[Hid],by simp,jzf _ _⟩
 case round=>(
 obtain⟨xs,ys,zs,A',B',c',d',rfl,rfl,cB,fM,d8,mW,fU,iK,aj,h0,ic,ar⟩:=hrel;unfold maxLen at d8 mW;clear hl cR bD ec bC da;cases xs with
 | nil=>(
 have ek:zs.length+([]:List Tk).length<=1000000:=by simp at ic ⊢;omega
 have db:(zs++([]:List Tk)).length+ys.length<=1000000:=by simp at ic ⊢;omega
 have HO:=Lh aj;have HL:=Lh fU;have HM:=Lh iK;have HB:=Lh ar;clear aj fU iK ar;go_wp2_with (first
   | (at_builtin;refine jqe _ rfl (.tmp 70) (.tmp 71) 54 rfl w.heap.size Tryz.underlying54 u9 zs rfl HO.out _ A' 0 c' [] rfl rfl HL.out ek HB.out.size ?_;intro v1 w1 ah br cC;have cw:Below w.heap.size wr w1:=(Below.refl w.heap.size wr).grown br HB.out.size (fun k hk=>(HO.out.lt hk).1);have aD:Below w.heap.size w w1:=HB.out.trans cw)
   | (at_builtin;refine jqe _ rfl (.tmp 72) (.tmp 73) 54 rfl w.heap.size Tryz.underlying54 v1 (zs++[]) rfl ah _ B' ys.length d' ys rfl rfl (HM.out.below cw) db aD.size ?_;intro v2 w2 aw cF cz;have eC:Below w.heap.size w w2:=aD.grown cF aD.size (fun k hk=>(ah.lt hk).1)))
 go_ret;exact jgl aw (jfq h0.out (.inl rfl)).symm HN.out eC)
 | cons x xs=>(
 cases ys with
 | nil=>(
 have ek:zs.length+(x :: xs).length<=1000000:=by simp at ic ⊢;omega
 have db:(zs++(x :: xs)).length+([]:List Tk).length<=1000000:=by simp at ic ⊢;omega
 have HO:=Lh aj;have HL:=Lh fU;have HM:=Lh iK;have HB:=Lh ar;clear aj fU iK ar;go_wp2_with (first
   | (at_builtin;refine jqe _ rfl (.tmp 70) (.tmp 71) 54 rfl w.heap.size Tryz.underlying54 u9 zs rfl HO.out _ A' (xs.length+1) c' (x :: xs) rfl rfl HL.out ek HB.out.size ?_;intro v1 w1 ah br cC;have cw:Below w.heap.size wr w1:=(Below.refl w.heap.size wr).grown br HB.out.size (fun k hk=>(HO.out.lt hk).1);have aD:Below w.heap.size w w1:=HB.out.trans cw)
   | (at_builtin;refine jqe _ rfl (.tmp 72) (.tmp 73) 54 rfl w.heap.size Tryz.underlying54 v1 (zs++(x :: xs)) rfl ah _ B' 0 d' [] rfl rfl (HM.out.below cw) db aD.size ?_;intro v2 w2 aw cF cz;have eC:Below w.heap.size w w2:=aD.grown cF aD.size (fun k hk=>(ah.lt hk).1)))
 go_ret;exact jgl aw (jfq h0.out (.inr rfl)).symm HN.out eC)
 | cons y ys=>(
 obtain⟨b,off,rfl,hb,cU,eG⟩:=fU.head;obtain⟨b',off',rfl,ct,cN,eb⟩:=iK.head;have HL:=Lh fU;have HM:=Lh iK;have HO:=Lh aj;have HB:=Lh ar;have cD:b<wr.heap.size:=ltl hb ar.size;have cH:b'<wr.heap.size:=ltl ct ar.size;clear fU iK aj ar;obtain⟨xk,xn⟩:=x;obtain⟨yk,yn⟩:=y;dsimp only at cU eG cN eb
 have q1:xs.length+1<=c':=cB;have q2:ys.length+1<=d':=fM;have hx9:xs.length<=2000:=by simp at ic;omega
 have hy9:ys.length<=2000:=by simp at ic;omega
 have hz9:zs.length<=100000:=by simp at ic;omega
 have fm:(1:Int)<=(xs.length:Int)+1:=by omega
 have de:(1:Int)<=(ys.length:Int)+1:=by omega
 go_wp2_with fail;go_still_tail 7,(by kernel_rfl)
 change wpList _ _ _ _ _ wr.drew;go_wp2_with fail;refine (jkw xk xn yk yn _).mono ?_;rintro e w4 ⟨rfl,ca⟩;have fu:Below wr.heap.size wr w4:=((Below.refl _ wr).drew).trans ca;replace cU:=(fu.cell (p:=⟨b,off,none⟩) cD).trans cU;replace eG:=(fu.cell (p:=⟨b,off+1,none⟩) cD).trans eG;replace cN:=(fu.cell (p:=⟨b',off',none⟩) cH).trans cN;replace eb:=(fu.cell (p:=⟨b',off'+1,none⟩) cH).trans eb;replace cD:=ltl cD fu.size;replace cH:=ltl cH fu.size;replace HL:=Lh (HL.out.below (fu.mono HB.out.size));replace HM:=Lh (HM.out.below (fu.mono HB.out.size));replace HO:=Lh (HO.out.below fu);replace HB:Hid (Below w.heap.size w w4):=HB.out.trans (fu.mono HB.out.size);clear ca fu;rcases Int.lt_trichotomy xk yk with dz | dz | dz
 ·(
 have fO:=Lh dz;rw[jxz dz];clear dz;by_cases qk:c'=1
 all_goals
   go_wp2_with fail
   go_region_held3 (fun w'=>w'.cell? ⟨b,off,none⟩=some (.int .i64 xk)/\w'.cell? ⟨b,off+1,none⟩=some (.int .u64 xn)/\w'.cell? ⟨b',off',none⟩=some (.int .i64 yk)/\w'.cell? ⟨b',off'+1,none⟩=some (.int .u64 yn))
     (first
       | exact⟨cU,eG,cN,eb⟩
       | (refine⟨?_,?_,?_,?_⟩ <;> go_simp))
     (first
     | (refine jj8 _ rfl (.tmp 51) (.tmp 55) 54 rfl w.heap.size Tryz.underlying54 u9 zs ?qs ?qo (w4.heap.size+1) (some ⟨w4.heap.size,0,none⟩) 1 1 [⟨xk,xn⟩] rfl ?qx ?ql ?qn ?qb ?_
        case qs=>go_simp
        case qo=>exact HO.out.below ((jzf w4 (.cells #[.int .i64 xk,.int .u64 xn] 53)).drew)
        case qx=>go_simp
        case ql=>exact jqn.one (by omega) (by simp) (by simp)
        case qn=>exact len1 hz9
        case qb=>(have:=HB.out.size;simp;omega)
        intro v1 w1 ah br cC
        have cw:Below w.heap.size w4 w1:=(((Below.refl w.heap.size w4).alloc HB.out.size _).drew).grown br (by have:=HB.out.size;simp;omega) (fun k hk=>(HO.out.lt hk).1)
        have aD:Below w.heap.size w w1:=HB.out.trans cw
        replace cU:=(cw.cell (p:=⟨b,off,none⟩) hb).trans cU
        replace eG:=(cw.cell (p:=⟨b,off+1,none⟩) hb).trans eG
        replace cN:=(cw.cell (p:=⟨b',off',none⟩) ct).trans cN
        replace eb:=(cw.cell (p:=⟨b',off'+1,none⟩) ct).trans eb))
   all_goals
     go_wp2_with fail
     go_roundw
     case rel =>
       refine⟨xs,⟨yk,yn⟩ :: ys,zs++[Tk.mk xk xn],_,_,_,_,rfl,rfl,?_,?_,?_,?_,?_,?_,ah,merge_lt h0.out fO.out,?_,aD⟩
       all_goals first
         | exact HL.out.below cw
         | exact HM.out.below cw
         | exact HL.out.tail.below cw
         | exact HM.out.tail.below cw
         | (refine Or.inl (List.eq_nil_of_length_eq_zero ?_);omega)
         | (unfold maxLen;omega)
         | omega
         | (simp only[List.length_cons];omega)
         | (simp at ic ⊢;omega)
     case measure=>first | (simp[jpx];done) | (simp[jpx];omega))
 ·(
 have fO:=Lh dz;rw[dz,jjc];clear dz;obtain⟨tk,tn,ht⟩:∃ tk tn,jjy ⟨xk,xn⟩ ⟨yk,yn⟩=⟨tk,tn⟩:=⟨_,_,rfl⟩
 have HT:=Lh ht;clear ht;by_cases qk:c'=1 <;> by_cases hdd:d'=1
 all_goals
   go_wp2_with fail
   go_region_held3 (fun w'=>w'.cell? ⟨b,off,none⟩=some (.int .i64 xk)/\w'.cell? ⟨b,off+1,none⟩=some (.int .u64 xn)/\w'.cell? ⟨b',off',none⟩=some (.int .i64 yk)/\w'.cell? ⟨b',off'+1,none⟩=some (.int .u64 yn))
     (first
       | exact⟨cU,eG,cN,eb⟩
       | (refine⟨?_,?_,?_,?_⟩ <;> go_simp))
     (first
     | (go_at_call 128;refine (later_at xk xn yk yn tk tn _ HT.out).mono ?_;rintro e w5 ⟨rfl,bh⟩;(have fu:Below w4.heap.size w4 w5:=((Below.refl _ w4).drew).trans bh;replace HL:=Lh (HL.out.below (fu.mono HB.out.size));replace HM:=Lh (HM.out.below (fu.mono HB.out.size));replace HO:=Lh (HO.out.below fu);replace HB:Hid (Below w.heap.size w w5):=HB.out.trans (fu.mono HB.out.size);replace cU:=(fu.cell (p:=⟨b,off,none⟩) cD).trans cU;replace eG:=(fu.cell (p:=⟨b,off+1,none⟩) cD).trans eG;replace cN:=(fu.cell (p:=⟨b',off',none⟩) cH).trans cN;replace eb:=(fu.cell (p:=⟨b',off'+1,none⟩) cH).trans eb;replace cD:=ltl cD fu.size;replace cH:=ltl cH fu.size;clear bh fu))
     | (refine jj8 _ rfl (.tmp 33) (.tmp 42) 54 rfl w.heap.size Tryz.underlying54 u9 zs ?qs ?qo (w5.heap.size+1) (some ⟨w5.heap.size,0,none⟩) 1 1 [⟨tk,tn⟩] rfl ?qx ?ql ?qn ?qb ?_
        case qs=>go_simp
        case qo=>exact HO.out.below (jzf w5 (.cells #[.int .i64 tk,.int .u64 tn] 53))
        case qx=>go_simp
        case ql=>exact jqn.one (by omega) (by simp) (by simp)
        case qn=>exact len1 hz9
        case qb=>(have:=HB.out.size;simp;omega)
        intro v1 w1 ah br cC
        have cw:Below w.heap.size w5 w1:=((Below.refl w.heap.size w5).alloc HB.out.size _).grown br (by have:=HB.out.size;simp;omega) (fun k hk=>(HO.out.lt hk).1)
        have aD:Below w.heap.size w w1:=HB.out.trans cw
        replace cU:=(cw.cell (p:=⟨b,off,none⟩) hb).trans cU
        replace eG:=(cw.cell (p:=⟨b,off+1,none⟩) hb).trans eG
        replace cN:=(cw.cell (p:=⟨b',off',none⟩) ct).trans cN
        replace eb:=(cw.cell (p:=⟨b',off'+1,none⟩) ct).trans eb))
   all_goals
     go_wp2_with fail
     go_roundw
     case rel =>
       refine⟨xs,ys,zs++[Tk.mk tk tn],_,_,_,_,rfl,rfl,?_,?_,?_,?_,?_,?_,ah,HT.out▸merge_eq h0.out fO.out,?_,aD⟩
       all_goals first
         | exact HL.out.below cw
         | exact HM.out.below cw
         | exact HL.out.tail.below cw
         | exact HM.out.tail.below cw
         | (refine Or.inl (List.eq_nil_of_length_eq_zero ?_);omega)
         | (unfold maxLen;omega)
         | omega
         | (simp only[List.length_cons];omega)
         | (simp at ic ⊢;omega)
     case measure=>first | (simp[jpx];done) | (simp[jpx];omega))
 ·(
 have fO:=Lh dz;rw[jjb dz];clear dz;by_cases hdd:d'=1
 all_goals
   go_wp2_with fail
   go_region_held3 (fun w'=>w'.cell? ⟨b,off,none⟩=some (.int .i64 xk)/\w'.cell? ⟨b,off+1,none⟩=some (.int .u64 xn)/\w'.cell? ⟨b',off',none⟩=some (.int .i64 yk)/\w'.cell? ⟨b',off'+1,none⟩=some (.int .u64 yn))
     (first
       | exact⟨cU,eG,cN,eb⟩
       | (refine⟨?_,?_,?_,?_⟩ <;> go_simp))
     (first
     | (refine jj8 _ rfl (.tmp 62) (.tmp 66) 54 rfl w.heap.size Tryz.underlying54 u9 zs ?qs ?qo (w4.heap.size+1) (some ⟨w4.heap.size,0,none⟩) 1 1 [⟨yk,yn⟩] rfl ?qx ?ql ?qn ?qb ?_
        case qs=>go_simp
        case qo=>exact HO.out.below ((jzf w4 (.cells #[.int .i64 yk,.int .u64 yn] 53)).drew)
        case qx=>go_simp
        case ql=>exact jqn.one (by omega) (by simp) (by simp)
        case qn=>exact len1 hz9
        case qb=>(have:=HB.out.size;simp;omega)
        intro v1 w1 ah br cC
        have cw:Below w.heap.size w4 w1:=(((Below.refl w.heap.size w4).alloc HB.out.size _).drew).grown br (by have:=HB.out.size;simp;omega) (fun k hk=>(HO.out.lt hk).1)
        have aD:Below w.heap.size w w1:=HB.out.trans cw
        replace cU:=(cw.cell (p:=⟨b,off,none⟩) hb).trans cU
        replace eG:=(cw.cell (p:=⟨b,off+1,none⟩) hb).trans eG
        replace cN:=(cw.cell (p:=⟨b',off',none⟩) ct).trans cN
        replace eb:=(cw.cell (p:=⟨b',off'+1,none⟩) ct).trans eb))
   all_goals
     go_wp2_with fail
     go_roundw
     case rel =>
       refine⟨⟨xk,xn⟩ :: xs,ys,zs++[Tk.mk yk yn],_,_,_,_,rfl,rfl,?_,?_,?_,?_,?_,?_,ah,merge_gt h0.out fO.out,?_,aD⟩
       all_goals first
         | exact HL.out.below cw
         | exact HM.out.below cw
         | exact HL.out.tail.below cw
         | exact HM.out.tail.below cw
         | (refine Or.inl (List.eq_nil_of_length_eq_zero ?_);omega)
         | (unfold maxLen;omega)
         | omega
         | (simp only[List.length_cons];omega)
         | (simp at ic ⊢;omega)
     case measure=>first | (simp[jpx];done) | (simp[jpx];omega)))))
theorem jfs{a b:List Tk}(ha:Nok a)(hb:Nok b):Nok (jz0 a b):=by
 induction a,b using jz0.induct with
 | case1 b=>rw[jz1];exact hb
 | case2 x a=>rw[jz3];exact ha
 | case3 x a y b hlt ih=>(
 rw[jxh _ _ hlt];intro z hz;rcases List.mem_cons.1 hz with rfl | hz
 ·exact ha z (by simp)
 ·exact ih (fun u hu=>ha u (by simp[hu])) hb z hz)
 | case4 x a y b hlt hgt ih=>(
 rw[jxi _ _ hgt];intro z hz;rcases List.mem_cons.1 hz with rfl | hz
 ·exact hb z (by simp)
 ·exact ih ha (fun u hu=>hb u (by simp[hu])) z hz)
 | case5 x a y b hlt hgt ih=>(
 rw[jxj _ _ (by omega)];intro z hz;rcases List.mem_cons.1 hz with rfl | hz
 ·(
 unfold jjy;split
 ·exact hb y (by simp)
 ·exact ha x (by simp))
 ·exact ih (fun u hu=>ha u (by simp[hu])) (fun u hu=>hb u (by simp[hu])) z hz)
theorem Join_new(A B:Option Addr)(c d:Nat)(l l':List Tk)(w:World)(h:In w A c l)(h':In w B d l')(aq:l.length<=1000)(jA:l'.length<=1000):Calls Tryz.prog 82 #[.slice A l.length c,.slice B l'.length d] w (RetF w (jz0 l l')):=by
 have HJ:=Lh (joy A B c d l l' w h h' (jfs h.nok h'.nok) aq jA);clear h h';go_enter Tryz.func82,Tryz.ntmps82;go_wp2_with fail;refine HJ.out.mono ?_;rintro e w' ⟨A2,c2,rfl,bx,hf,hb⟩;go_wp2_with fail;go_ret;exact⟨A2,c2,rfl,bx,hf,hb⟩
end C3
namespace J5
open Go.RowKit Go.Shelf
open C3 (Tk In jz0 jzk jzf)
open V4 (Va Vl Ck jzt jzl jju InC jzh jzw)
theorem jyc{W:World}{base:Nat}{A:Option Addr}{c:Nat}{l:List Tk}(h:In W A c l)(hA:∀ a,A=some a->base<=a.block)(hl:l.length<=1000):(Ck.mk A c l).Inp (fun b=>base<=b/\b<W.heap.size) W:=by
 refine⟨?_,h.cap,h.top,h.nok,by simp only;omega⟩;rcases h.lies with h0 | ⟨b,off,e,hb,hc⟩
 ·exact .inl (by simp only;rw[h0];rfl)
 ·(subst e;refine .inr ⟨b,off,rfl,⟨hA _ rfl,hb⟩,fun i u hu=>?_⟩;have:=C3.jqn.cells (m:=W.heap.size) (w:=W) (b:=b) (off:=off) (xs:=l) (.inr ⟨b,off,rfl,hb,hc⟩) i u hu;cases i <;> simpa[Addr.add] using this)
theorem jrg{l:List (List Tk)}{k:Nat}{x:List Tk}(hx:l[k]?=some x):(l.take (k+1)).foldl jz0 []=jz0 ((l.take k).foldl jz0 []) x:=by
 obtain⟨hk,he⟩:=List.getElem?_eq_some_iff.1 hx;rw[List.take_succ_eq_append_getElem hk,List.foldl_append,he];rfl
theorem jpz(x y:Vl)(w:World)(hx:x.In w)(hy:y.In w)(n0:x.er.c.length<=1)(n1:y.er.c.length<=1)(ew:∀ k∈x.er.c++y.er.c,k.length<=40):Calls Tryz.prog 45 #[x.val,y.val] w (jyi w (jke x.er y.er)):=by
 obtain⟨n,m,sA,sc,ss,cA,cc,cs,vA,vc,vs⟩:=x;obtain⟨n',m',sA',sc',ss',cA',cc',cs',vA',vc',vs'⟩:=y;rw[jzw] at n0 n1 ew;rw[jzw] at ew;simp only[Va.c,List.length_map] at n0 n1 ew;rw[<- List.map_append] at ew;have og:Hid (jke (Vl.mk n m sA sc ss cA cc cs vA vc vs).er (Vl.mk n' m' sA' sc' ss' cA' cc' cs' vA' vc' vs').er=if ((cs++cs').map Ck.l).foldl jz0 []=[] then some .zero else if 40<(((cs++cs').map Ck.l).foldl jz0 []).length then none else some (.mk 0 0 [] [((cs++cs').map Ck.l).foldl jz0 []] [])):=by (
 show jke _ _=_
 rw[jzw,jzw,List.map_append];rfl)
 obtain⟨res,a6⟩:=exq (jke (Vl.mk n m sA sc ss cA cc cs vA vc vs).er (Vl.mk n' m' sA' sc' ss' cA' cc' cs' vA' vc' vs').er);rw[a6] at og;rw[a6];clear a6;have jQ:Hid (∀ k∈cs++cs',InC w k/\k.l.length<=40):=fun k hk=>by (
 refine⟨?_,ew k.l (List.mem_map.2 ⟨k,hk,rfl⟩)⟩;rcases List.mem_append.1 hk with hk | hk
 ·cases hx with | mk _ _ _ _ _ _ _ _ _ _ _ _ _ _ _ _ _ _ b3 _ _ _=>exact b3 k hk
 ·cases hy with | mk _ _ _ _ _ _ _ _ _ _ _ _ _ _ _ _ _ _ b3 _ _ _=>exact b3 k hk)
 have te:Hid (jzt (fun b=>b<w.heap.size) w cA (jzl cs)/\jzt (fun b=>b<w.heap.size) w cA' (jzl cs')):=by (
 constructor
 ·cases hx with | mk _ _ _ _ _ _ _ _ _ _ _ _ _ _ _ _ b1 _ _ _ _ _=>exact b1
 ·cases hy with | mk _ _ _ _ _ _ _ _ _ _ _ _ _ _ _ _ b1 _ _ _ _ _=>exact b1)
 have HN:=Lh (And.intro n0 n1);clear hx hy ew n0 n1;simp only[jzh];obtain⟨V,hV⟩:=exq (((w.alloc (.cells #[.int .u64 n,.int .u64 m,.slice sA ss.length sc,.slice cA cs.length cc,.slice vA vs.length vc] 30)).alloc (.cells #[.int .u64 n',.int .u64 m',.slice sA' ss'.length sc',.slice cA' cs'.length cc',.slice vA' vs'.length vc'] 30)).alloc (.cells #[.int .u64 0,.int .u64 0,.slice none 0 0,.slice none 0 0,.slice none 0 0] 30));obtain⟨q0,q1,q2,im,oD⟩:=jdd hV;have ae:w.heap.size+3<=V.heap.size:=by omega
 clear oD;have a3:V.cell? ⟨w.heap.size,3,none⟩=some (.slice cA cs.length cc):=jza q0 3 _ rfl;have b3:V.cell? ⟨w.heap.size+1,3,none⟩=some (.slice cA' cs'.length cc'):=jza q1 3 _ rfl;obtain⟨V2,nt⟩:=exq (V.alloc (.cells #[.slice cA cs.length cc,.slice cA' cs'.length cc'] 27));have b9:Below V.heap.size V V2:=by rw[<- nt];exact jzf _ _
 have q7:Blk V2 V.heap.size 27 #[.slice cA cs.length cc,.slice cA' cs'.length cc']:=by rw[<- nt];exact Blk.new _ _ _
 have ez:Below w.heap.size w V2:=im.trans (b9.mono im.size);go_enter Tryz.func45,Tryz.ntmps45;go_wp2_with fail;refine (jf1 V.heap.size 2 cA cc cs cA' cc' cs' V2 (jza q7 0 _ rfl) (jza q7 1 _ rfl) ((te.out.1.below ez).mono fun _ h=>ltl h ez.size) ((te.out.2.below ez).mono fun _ h=>ltl h ez.size) (leT HN.out.1 (by decide)) (leT HN.out.2 (by decide))).mono ?_;rintro e W ⟨v3,rfl,ap,bj⟩;obtain⟨A3,c3,rfl,_⟩:=jzy ap;have HR:=Lh (jz8 ap).1;have aq:(cs++cs').length<=2:=by rw[List.length_append];have:=HN.out.1;have:=HN.out.2;omega
 obtain⟨K,hK⟩:=exq (cs++cs');rw[hK] at aq HR jQ og;rw[hK];have cZ:Below V.heap.size V W:=b9.trans (bj.mono b9.size);have eX:Below w.heap.size w W:=im.trans (cZ.mono im.size);have mr:=Lh (q2.below cZ);have eM:=Lh eX;have nR:w.heap.size+3<=W.heap.size:=by have:=cZ.size;omega
 have hln:K.length<=9223372036854775807:=by omega
 clear hK ap q7 nt hV b9 ez bj q0 q1 q2 a3 b3 cZ im eX te HN;go_wp2_with fail;go_loopw [6,16] (fun av iv wr=>∃ (k:Nat) (A:Option Addr) (c:Nat) (l:List Tk),k<=K.length/\iv = .int .i64 k/\av = .slice A l.length c/\Hid (((K.map Ck.l).take k).foldl jz0 []=l)/\Hid (In wr A c l)/\Hid (∀ a,A=some a->W.heap.size<=a.block)/\Hid (Below W.heap.size W wr)/\l.length<=40*k) (fun _ iv _=>K.length - (intOf iv).toNat)
 case atStart=>exact⟨0,none,0,[],Nat.zero_le _,rfl,rfl,rfl,C3.In.nil _,(fun a h=>by cases h),Below.refl _ _,Nat.zero_le _⟩
 case round=>(
 obtain⟨k,A,c,l,hk,rfl,rfl,HF,HI,HA,HB,j8⟩:=hrel;by_cases hlt:k<K.length
 ·(
 obtain⟨x,hx⟩:∃ x,K[k]?=some x:=⟨_,List.getElem?_eq_getElem hlt⟩
 obtain⟨b,off,rfl,cD,cq⟩:=V4.jqi HR.out hx;have cB:wr.cell? ⟨b,off+k,none⟩=some x.v:=(HB.out.cell (p:=⟨b,off+k,none⟩) cD.2).trans cq;have HX:=Lh hx;obtain⟨hxi,hx40⟩:=jQ.out x (List.mem_of_getElem? hx);have qD:Hid (In wr x.A x.c x.l):=((hxi.later (eM.out.trans (HB.out.mono eM.out.size))).inn);have hG:b<wr.heap.size:=ltl cD.2 HB.out.size;clear hx cq hxi cD;obtain⟨xA,xc,xl⟩:=x;simp only[V4.Ck.v] at cB hx40 qD;have l1:l.length<=1000:=by omega
 have l2:xl.length<=1000:=by omega
 go_wp2_with fail;refine (C3.Join_new A xA c xc l xl _ HI.out qD.out l1 l2).mono ?_;rintro e w2 ⟨A2,c2,rfl,bx,hf,ab⟩;have eT:Hid (Below W.heap.size W w2):=HB.out.trans (ab.mono HB.out.size);have jd:=Lh bx;have HF2:Hid (∀ a,A2=some a->W.heap.size<=a.block):=fun a ha=>leT HB.out.size (hf a ha)
 have lL:=C3.jo0 l xl;have HFX:Hid (((K.map Ck.l).take (k+1)).foldl jz0 []=jz0 l xl):=by (
 show _=_
 rw[jrg (k:=k) (x:=xl) (by rw[List.getElem?_map,HX.out];rfl),HF.out])
 obtain⟨ml,j5⟩:=exq (jz0 l xl);rw[j5] at jd HFX lL;rw[j5];clear j5 bx hf ab;go_wp2_with fail;go_roundw
 case rel=>exact⟨k+1,A2,c2,ml,by omega,by go_num,rfl,HFX,jd,HF2,eT,by omega⟩
 case measure=>simp[intOf];omega)
 ·(
 have cr:k=K.length:=by omega
 have nH:Hid ((K.map Ck.l).foldl jz0 []=l):=by (have:=HF.out;rwa [List.take_of_length_le (by simp;omega)] at this)
 rw[nH.out] at og;have hl80:l.length<=80:=by omega
 have q2:=mr.out.below HB.out;have hsr:w.heap.size+3<=wr.heap.size:=leT nR HB.out.size;have fD:Below w.heap.size w wr:=eM.out.trans (HB.out.mono eM.out.size);clear HF nH HR jQ cr;by_cases h0:l=[]
 ·(subst h0;have hr:=og.out;rw[if_pos rfl] at hr;subst hr;obtain⟨d0,d1,d2,d3,d4⟩:=blk5 q2;obtain⟨f0,f1,f2,f3,f4⟩:=fro5 q2;go_wp2_with fail;refine bodyPost_ret (rcv5 rfl _ _ (w.heap.size+1+1) (.int .u64 0) (.int .u64 0) (.slice none 0 0) (.slice none 0 0) (.slice none 0 0) rfl (jzc q2)) rfl ?_;exact .inl ⟨vlZ,by rw[jp9],rfl,V4.jxy _ _,jzm fD (by omega)⟩)
 ·(
 have hr0:=og.out;rw[if_neg h0] at hr0;replace og:=Lh hr0;clear hr0;have hne:((l.length:Int) == 0)=false:=beq_eq_false_iff_ne.2 (by have:=List.length_pos_iff.2 h0;omega);clear h0;obtain⟨U,hU⟩:=exq (wr.alloc (.cells #[.slice A l.length c] 54));have az:Below wr.heap.size wr U:=by rw[<- hU];exact jzf _ _
 have q8:Blk U wr.heap.size 54 #[.slice A l.length c]:=by rw[<- hU];exact Blk.new _ _ _
 have q2U:=q2.below az;have iG:Hid ((Ck.mk A c l).Inp (fun b=>W.heap.size<=b/\b<wr.heap.size) wr):=jyc HI.out HA.out (by omega);have HFT:=Lh (jct A l.length c (.mk 0 0 none 0 [] (some ⟨wr.heap.size,0,none⟩) 1 [⟨A,c,l⟩] none 0 []) U);rw[jzh] at HFT;go_wp2_with fail;refine HFT.out.mono ?_;clear HFT;rintro e X ⟨rfl,eE⟩;have q2X:=q2U.below eE;have hsX:wr.heap.size<U.heap.size:=q8.lt;have hsX2:=eE.size;obtain⟨d0,d1,d2,d3,d4⟩:=blk5 q2X;obtain⟨f0,f1,f2,f3,f4⟩:=fro5 q2X;have dp:Below w.heap.size w X:=(fD.trans (az.mono fD.size)).trans (eE.mono (leT fD.size az.size));have HQ8:=Lh (q8.below eE);have au:Hid (Below wr.heap.size wr X):=az.trans (eE.mono az.size);clear q2 q2U q8 hU az eE fD;by_cases fY:40<l.length
 ·(have hr:=og.out;rw[if_pos fY] at hr;subst hr;simp only[if_pos fY,jve];go_wp2_with fail;refine bodyPost_ret (rcv5 rfl _ _ (w.heap.size+1+1) (.int .u64 0) (.int .u64 0) (.slice none 0 0) (.slice none 0 0) (.slice none 0 0) rfl (jzc q2X)) rfl ?_;exact .inr ⟨rfl,rfl,jzm dp (by omega)⟩)
 ·(
 have hr:=og.out;rw[if_neg fY] at hr;subst hr;simp only[if_neg fY,jzh,List.length_cons,List.length_nil,Nat.zero_add];go_wp2_with fail;refine bodyPost_ret (rcv5 rfl _ _ (w.heap.size+1+1) (.int .u64 0) (.int .u64 0) (.slice none 0 0) (.slice (some ⟨wr.heap.size,0,none⟩) 1 1) (.slice none 0 0) rfl (jzc q2X)) rfl ?_;refine .inl ⟨.mk 0 0 none 0 [] (some ⟨wr.heap.size,0,none⟩) 1 [⟨A,c,l⟩] none 0 [],by rw[jzw];rfl,rfl,?_,jzm dp (by omega)⟩;have du:∀ b,W.heap.size<=b->(jz9 X (w.heap.size+1+1) (.int .u64 0) (.int .u64 0) (.slice none 0 0) (.slice (some ⟨wr.heap.size,0,none⟩) 1 1) (.slice none 0 0)).heap[b]?=X.heap[b]?:=fun b hb=>jzn (by omega)
 have rl:(jz9 X (w.heap.size+1+1) (.int .u64 0) (.int .u64 0) (.slice none 0 0) (.slice (some ⟨wr.heap.size,0,none⟩) 1 1) (.slice none 0 0)).heap.size=X.heap.size:=jzu;have hWr:=HB.out.size;refine .mk _ _ _ _ _ _ _ _ _ _ _ (by omega) (by omega) (.inl rfl) (by simp) (by simp) (.inr ⟨wr.heap.size,0,rfl,⟨by omega,ltl (show wr.heap.size<X.heap.size by omega) (Nat.le_of_eq rl.symm)⟩,fun i u hu=>?_⟩) (by simp[maxLen]) (fun k hk=>?_) (.inl rfl) (by simp) (by simp)
 ·(
 simp only[jzl,List.map_cons,List.map_nil] at hu;cases i with
 | zero=>(simp only[List.getElem?_cons_zero,Option.some.injEq] at hu;subst hu;exact (World.cell?_of_block (a:=⟨wr.heap.size,0,none⟩) (du _ (by omega))).trans (jza HQ8.out 0 _ rfl))
 | succ i=>simp at hu)
 ·(rw[List.mem_singleton] at hk;subst hk;refine ((iG.out.keep fun b hP=>(du b hP.1).trans (au.out.block b hP.2)).mono fun b hP=>⟨by omega,?_⟩);exact ltl (ltl hP.2 au.out.size) (Nat.le_of_eq rl.symm))))))
open S2 (Tr isT)
open V4 (Va Vl Ck isV jqv)
def jhc(t:Tr)(x v:Va):Except Int Va:=if isV t x=true/\isV t v=true then (match jzp t x v with | some z => .ok z | none => .error 13) else .error 14
theorem Nn.of_inp{P:Nat->Prop}{w:World}{x:Vl}(h:x.Inp P w):Nn x.er:=by
 induction h with
 | mk n m sA sc ss cA cc cs vA vc vs h1 h2 _ _ _ _ _ h8 _ _ _ ih=>(
 rw[V4.jzw];refine .mk _ _ _ _ _ h1.1 h2.1 (fun k hk=>?_) fun y hy=>?_
 ·(obtain⟨c,hc,rfl⟩:=List.mem_map.1 hk;exact fun t ht=>((h8 c hc).nok t ht).1)
 ·(obtain⟨z,hz,rfl⟩:=List.mem_map.1 hy;exact ih z hz))
end J5
end Go.Proofs.YtobggoephhjofaaGreatDoor
