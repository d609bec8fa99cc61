/- A part. No condition. -/
import Derived.Test.YtobggoephhjofaaGreatDoorMk36
import Derived.Test.YtobggoephhjofaaGreatDoorMk37
import Derived.ChangeSame
import Derived.ChangeVars
import Derived.JoinedOf
import Derived.RowKit
import Derived.RowKitTokens
import Derived.LaidLaws
import Derived.LaidHandle
import Derived.Stop.Joined
import Derived.Deep.SlicePairs
import Derived.ProofKit
import Derived.SizedLaws
import Derived.OpenShut
import Derived.ChangeOld
import Derived.Deep.Slices
set_option maxRecDepth 100000
set_option maxHeartbeats 16000000
namespace Go.Proofs.YtobggoephhjofaaGreatDoor
namespace J5
open Go.RowKit Go.Shelf
open C3 (Tk In jzk jzf)
open S2 (Sc Tr isT)
open V4 (Va Vl Ck isV jqv jzt jzj jzh jzw jwr)
theorem jnu(ev:Value)(n:Int)(W:World)(h:(ev = .nilIface/\n=0)\/ev=jwz n)(hg:jpk W):Calls Tryz.prog 17 #[ev] W (jz6 W (.int .i64 n)):=by
 rcases h with ⟨rfl,rfl⟩ | rfl
 ·exact jns W
 ·exact jnt n W hg
theorem wghE_num(o:Except Int Va):(juo o = .nilIface/\wghM o=0)\/juo o=jwz (wghM o):=by
 cases o with
 | ok z=>exact .inl ⟨rfl,rfl⟩
 | error n=>(
 by_cases h:n=13
 ·subst h;exact .inl ⟨rfl,rfl⟩
 ·exact .inr (by unfold juo wghM;simp only[if_neg h]))
theorem jpv(s:Sc)(x y:Vl)(w:World)(hs:s.In w.heap.size w)(hx:x.In w)(hy:y.In w)(hg:jpk w):Calls Tryz.prog 4 #[s.val,x.val,y.val] w (jz6 w (.bool true)):=by
 have HKN:=Lh jo7;obtain⟨o1,d6⟩:=exq (jqb s.er x.er y.er);have rh:=Lh (wghE_num o1);obtain⟨A1,nZ⟩:=exq (jp8 o1 y.er);obtain⟨E1,kw⟩:=exq (juo o1);obtain⟨M1,lu⟩:=exq (wghM o1);obtain⟨C1,sS⟩:=exq (wghC o1 x.er y.er);have HL:Hid (∀ W,Below w.heap.size w W->Calls Tryz.prog 13 #[s.val,x.val,y.val] W (jz6 W (.tuple #[.bool A1,E1]))):=fun W hb=>by rw[<- nZ,<- kw,<- d6];exact jij True (fun _=>jl6) s x y W (hs.later hb) (hx.later hb) (hy.later hb) (fun _ => .inl trivial)
 have n9:Hid (∀ W,Below w.heap.size w W->Calls Tryz.prog 14 #[s.val,x.val,y.val] W (jz6 W (.tuple #[.bool A1,.int .i64 M1]))):=fun W hb=>by rw[<- nZ,<- lu,<- d6];exact jyp s x y W (hs.later hb) (hx.later hb) (hy.later hb)
 have HM:Hid (∀ W,Below w.heap.size w W->Calls Tryz.prog 15 #[s.val,x.val,y.val] W (jz6 W (.tuple #[.int .i64 C1,E1]))):=fun W hb=>by rw[<- sS,<- kw,<- d6];exact jpn True (fun _=>jl6) s x y W (hs.later hb) (hx.later hb) (hy.later hb) (fun _ => .inl trivial)
 have HRM:Hid (∀ W,Below w.heap.size w W->Calls Tryz.prog 16 #[s.val,x.val,y.val] W (jz6 W (.tuple #[.int .i64 C1,.int .i64 M1]))):=fun W hb=>by (have:=jk2 s x y W (hs.later hb) (hx.later hb) (hy.later hb);rw[cmpR_eq (Nn.of_inp hx) (Nn.of_inp hy),d6,sS,lu] at this;exact this)
 have HC:Hid (∀ W,Below w.heap.size w W->Calls Tryz.prog 17 #[E1] W (jz6 W (.int .i64 M1))):=fun W hb=>jnu E1 M1 W (by rw[<- kw,<- lu];exact rh.out) (hg.later hb)
 clear hs hx hy hg d6 nZ kw lu sS rh;obtain⟨k,A,c,l⟩:=s;obtain⟨n,m,sA,sc,ss,cA,cc,cs,vA,vc,vs⟩:=x;obtain⟨n',m',sA',sc',ss',cA',cc',cs',vA',vc',vs'⟩:=y;simp only[S2.jzh,jzh] at HL n9 HM HRM ⊢;obtain⟨V,hV⟩:=exq (((w.alloc (.cells #[.int .i64 k,.slice A l.length c] 24)).alloc (.cells #[.int .u64 n,.int .u64 m,.slice sA ss.length sc,.slice cA cs.length cc,.slice vA vs.length vc] 30)).alloc (.cells #[.int .u64 n',.int .u64 m',.slice sA' ss'.length sc',.slice cA' cs'.length cc',.slice vA' vs'.length vc'] 30));obtain⟨q3,q4,q5,ai,bz⟩:=jdd hV;have dm:w.heap.size+3<=V.heap.size:=by omega
 clear bz;obtain⟨e0,e1⟩:=blk2c q3;obtain⟨a0,a1,a2,a3,a4⟩:=blk5 q4;obtain⟨b0,b1,b2,b3,b4⟩:=blk5 q5;go_enter Tryz.func4,Tryz.ntmps4;go_wp2_with fail;refine (HKN.out V).mono ?_;rintro e V1 ⟨rfl,aa⟩;have eF:=ai.trans (aa.mono ai.size);replace q3:=q3.below aa;replace q4:=q4.below aa;replace q5:=q5.below aa;clear hV e0 e1 a0 a1 a2 a3 a4 b0 b1 b2 b3 b4 aa;obtain⟨e0,e1⟩:=blk2c q3;obtain⟨a0,a1,a2,a3,a4⟩:=blk5 q4;obtain⟨b0,b1,b2,b3,b4⟩:=blk5 q5;go_wp2_with fail;refine (HL.out V1 eF).mono ?_;rintro e V2 ⟨rfl,aa⟩;have b9:=eF.trans (aa.mono eF.size);replace q3:=q3.below aa;replace q4:=q4.below aa;replace q5:=q5.below aa;clear e0 e1 a0 a1 a2 a3 a4 b0 b1 b2 b3 b4 aa;obtain⟨e0,e1⟩:=blk2c q3;obtain⟨a0,a1,a2,a3,a4⟩:=blk5 q4;obtain⟨b0,b1,b2,b3,b4⟩:=blk5 q5;go_wp2_with fail;refine (n9.out V2 b9).mono ?_;rintro e V3 ⟨rfl,aa⟩;have sG:=b9.trans (aa.mono b9.size);replace q3:=q3.below aa;replace q4:=q4.below aa;replace q5:=q5.below aa;clear e0 e1 a0 a1 a2 a3 a4 b0 b1 b2 b3 b4 aa;obtain⟨e0,e1⟩:=blk2c q3;obtain⟨a0,a1,a2,a3,a4⟩:=blk5 q4;obtain⟨b0,b1,b2,b3,b4⟩:=blk5 q5;go_wp2_with fail;refine (HM.out V3 sG).mono ?_;rintro e V4w ⟨rfl,aa⟩;have no:=sG.trans (aa.mono sG.size);replace q3:=q3.below aa;replace q4:=q4.below aa;replace q5:=q5.below aa;clear e0 e1 a0 a1 a2 a3 a4 b0 b1 b2 b3 b4 aa;obtain⟨e0,e1⟩:=blk2c q3;obtain⟨a0,a1,a2,a3,a4⟩:=blk5 q4;obtain⟨b0,b1,b2,b3,b4⟩:=blk5 q5;go_wp2_with fail;refine (HRM.out V4w no).mono ?_;rintro e V5 ⟨rfl,aa⟩;have sF:=no.trans (aa.mono no.size);replace q3:=q3.below aa;replace q4:=q4.below aa;replace q5:=q5.below aa;clear e0 e1 a0 a1 a2 a3 a4 b0 b1 b2 b3 b4 aa;obtain⟨e0,e1⟩:=blk2c q3;obtain⟨a0,a1,a2,a3,a4⟩:=blk5 q4;obtain⟨b0,b1,b2,b3,b4⟩:=blk5 q5;clear e0 e1 a0 a1 a2 a3 a4 b0 b1 b2 b3 b4 q3 q4 q5;go_wp2_with fail;refine (HC.out V5 sF).mono ?_;rintro e V6 ⟨rfl,aa⟩;have sE:=sF.trans (aa.mono sF.size);clear aa;go_wp2_with fail;refine (HC.out V6 sE).mono ?_;rintro e V7 ⟨rfl,aa⟩;have hbV7:=sE.trans (aa.mono sE.size);clear aa;go_wp2_with fail;go_ret;exact⟨rfl,hbV7⟩
open Go.ChangeShapes Go.WideShapes Go.RowKit
theorem Tryz.laidEt : Tryz.prog.globalNamed "errors.errorType" = some 0 := by kernel_rfl
theorem Tryz.laidRt : (Tryz.prog.cutTypes.find? (·.1 == "internal/reflectlite.rtype")).map (·.2) = some 112 := by kernel_rfl
theorem Tryz.laidRow:((List.range 251).filter fun t=>Tryz.prog.rowNamed t [101,114,114,111,114])=[33]:=by kernel_rfl
theorem Tryz.laidSize:Tryz.prog.types.size=251:=by kernel_rfl
def jo6 : List (String × DataW Unit) := [("errors.errorType", Rows.laid_errors_errorType)]
theorem jp3{W:World}(h:laidMetH Tryz.prog jo6 W):jpk W:=by
  have h':laidMet Tryz.prog [] W/\handlesMet Tryz.prog jo6 W:=h
  obtain⟨name,u,ty,e1,e2,e3,e4,e5⟩:=h'.2 _ (List.mem_singleton.2 rfl)
  have en:name=[101,114,114,111,114]:=(Option.some.inj e1).symm
  subst en
  obtain rfl:=Option.some.inj (Tryz.laidRt.symm.trans e2)
  have hm:ty∈(List.range 251).filter fun t=>Tryz.prog.rowNamed t [101,114,114,111,114]:=List.mem_filter.2 ⟨List.mem_range.2 (by rw[<- Tryz.laidSize];exact e3),e4⟩
  rw[Tryz.laidRow] at hm
  obtain rfl:=List.mem_singleton.1 hm
  have hh:typeHandle Tryz.prog 33 = .pointer (some ⟨2,33,none⟩):=by kernel_rfl
  rw[hh] at e5
  show W.cell? _=_
  simpa using World.var?_cell Tryz.laidEt e5 0
noncomputable def laidWorld (os:Os):World :=
  let w0:=World.holding Tryz.prog os ⟨#[],#[],[]⟩
  { w0 with heap:=w0.heap.modify 0 fun
      | .cells _ t frozen => .cells #[.iface 112 (.agg #[.pointer (some ⟨2,33,none⟩)])] t frozen
      | o=>o }
theorem jm0(os:Os)(args:Array Value):laidMetH Tryz.prog jo6 ((laidWorld os).forCall (fun _ _=>0) ⟨#[],args,[]⟩).memory :=
  laidMetH_of_parts (laidMet_nil _ _) (by kernel_rfl)
end J5
namespace S2
open Go.ChangeShapes Go.WideShapes Go.ChangeAt Go.RowKit Go.Deep
theorem Tryz.cellsInt:Tryz.prog.cellsOf 3=1:=by kernel_rfl
theorem Tryz.cellsSl:Tryz.prog.cellsOf 22=1:=by kernel_rfl
theorem Tryz.cellsSch:Tryz.prog.cellsOf 24=2:=by kernel_rfl
theorem Tryz.bytesSch:Tryz.prog.bytesOf 24=32:=by kernel_rfl
instance:Inhabited Sc:=⟨.mk 0 none 0 []⟩
theorem jk7{H:Type}{P:Program}{e:TypeId}{d:DataW H}{n:Nat}:∀ {ds:List (DataW H)},d∈ds->n∈d.weights P e->n∈DataW.weightsAll P e ds
  | x :: ds,h,hn=>by
    rw[DataW.weightsAll,List.mem_append]
    rcases List.mem_cons.1 h with rfl | h
    · exact .inl hn
    · exact .inr (jk7 h hn)
section
variable {H:Type} {enc:TypeId×Value->H} {W:World}
theorem jhq(m:Nat):∀ (d:DataW H) (fuel:Nat) (v:Value) (ps:List MemPlace),SizeOf.sizeOf d<=m->DataW.trod enc Tryz.prog W 0 (fun _=>true) true fuel 22 [v]=some (d,ps)->(∀ n∈d.weights Tryz.prog 22,n<=reachBytes)->∃ A c l,v = .slice A l.length c/\∀ k,(Sc.mk k A c l).In W.heap.size W:=by
 induction m with
 | zero=>(intro d fuel v ps hm;cases d <;> simp at hm)
 | succ m ih=>(
 intro d fuel v ps hm h hw;rcases open_slice_pairs Tryz.underlying22 Tryz.underlying24 Tryz.cellsSch rfl rfl Tryz.cellsInt Tryz.cellsSl h with ⟨h1,h2⟩ | ⟨a,len,cap,mm,n,V0,V1,D0,D1,P0,P1,h1,hb,hl,d8,j5,h2,hx⟩
 ·(
 cases h1
 exact⟨none,0,[],rfl,fun k => .mk _ _ _ _ jx0.nil (by simp) (by simp) (by simp) (by simp)⟩)
 ·(
 cases h1
 rw[if_pos rfl] at j5;subst j5;have hd:d = .slice ((List.range len).map fun i => .agg [D0 i,D1 i]) ((List.range (mm - len)).map fun j => .agg [D0 (len+j),D1 (len+j)]):=(Prod.mk.inj h2).1;have ws:∀ i,i<len->(DataW.agg [D0 i,D1 i])∈(List.range len).map fun i=>(DataW.agg [D0 i,D1 i]:DataW H):=fun i hi=>List.mem_map.2 ⟨i,List.mem_range.2 hi,rfl⟩
 have ae:len*32<=140737488351232:=by (have:=hw ((len+(mm - len))*32) (by rw[hd,DataW.weights,Tryz.underlying22];simp[Tryz.bytesSch]);unfold reachBytes at this;omega)
 have each:∀ i,i<len->∃ s:Sc,V0 i = .int .i64 s.k/\V1 i=s.v1/\s.In W.heap.size W:=by (
 intro i hi;obtain⟨-,-,t0,t1⟩:=hx i (by omega);obtain⟨k,hk,-,-⟩:=DataW.trod_int Tryz.underlying3 t0;have hlt:SizeOf.sizeOf (D1 i)<=m:=by (
 have h3:=List.sizeOf_lt_of_mem (ws i hi);have h4:SizeOf.sizeOf (D1 i)<SizeOf.sizeOf (DataW.agg [D0 i,D1 i]):=by simp;omega
 have h5:SizeOf.sizeOf ((List.range len).map fun i=>(DataW.agg [D0 i,D1 i]:DataW H))<SizeOf.sizeOf d:=by rw[hd];simp;omega
 omega)
 obtain⟨A,c,l,hv,bx⟩:=ih (D1 i) n (V1 i) (P1 i) hlt t1 (fun q hq=>hw q (by (rw[hd,DataW.weights,Tryz.underlying22];refine List.mem_cons_of_mem _ (List.mem_append.2 (.inl (jk7 (ws i hi) ?_)));rw[DataW.weights,Tryz.underlying24];simp[DataW.weightsEach,hq])))
 exact⟨.mk k A c l,by simpa[Sc.k] using hk,hv,bx k⟩)
 obtain⟨f,hf⟩:=choose_lt each;refine⟨some a,mm,(List.range len).map f,by simp,fun k=>?_⟩;refine .mk _ _ _ _ ?_ (by simpa using hl) (by unfold maxLen at d8;omega) (by simpa using ae) ?_
 ·(
 by_cases h0:len=0
 ·subst h0;exact .inl rfl
 ·(
 obtain⟨b,off,spot⟩:=a;have cq:=(hx 0 (by omega)).1;have mC:spot=none:=by simpa[Addr.add] using World.cell?_spot cq
 subst mC;have sr:b<W.heap.size:=World.block_lt_of_cell? W _ (by simpa[Addr.add] using cq);refine .inr ⟨b,off,rfl,sr,fun i x iI=>?_⟩;rw[List.getElem?_map] at iI;have hi:i<len:=by (
 rcases Nat.lt_or_ge i len with h | h
 ·exact h
 ·rw[List.getElem?_eq_none (by simpa using h)] at iI;cases iI)
 rw[List.getElem?_range hi] at iI;have hxe:f i=x:=by simpa using iI
 obtain⟨g0,g1,-,-⟩:=hx i (by omega);rw[Addr.add_lit] at g0 g1;obtain⟨e0,e1,-⟩:=hf i hi;rw[<- hxe,<- e0,<- e1];exact⟨g0,by rw[Nat.add_assoc];exact g1⟩))
 ·(intro x iI;obtain⟨i,hi,rfl⟩:=List.mem_map.1 iI;exact (hf i (List.mem_range.1 hi)).2.2)))
theorem jl7{base:Nat}{v:Value}{d:DataW H}{ps:List MemPlace}(eH:Value.okWide Tryz.prog W .any base 24 v)(h:DataW.Trod enc Tryz.prog W 0 (fun _=>true) true 24 v d ps)(hw:∀ n∈d.weights Tryz.prog 24,n<=reachBytes):∃ s:Sc,v=s.val/\s.In W.heap.size W:=by
 obtain⟨cs,rfl,fq⟩:=okWide_struct Tryz.underlying24 eH;rw[Tryz.cellsSch] at fq;obtain⟨fuel,hf⟩:=h;obtain⟨xs,n,-,hx,-,ts,mT⟩:=DataW.trod_struct Tryz.underlying24 hf;obtain⟨cl⟩:=cs;match cl,fq,xs,ts with
 | [v0,v1],_,[y0,y1],_=>(
 have g0:=mT 0 _ rfl;have g1:=mT 1 _ rfl;simp[Tryz.cellsInt,Tryz.cellsSl,Value.cells] at g0 g1
 obtain⟨k,hk,-,-⟩:=DataW.trod_int Tryz.underlying3 g0;have hd:d = .agg [y0.1,y1.1]:=by simpa using (Prod.mk.inj hx).1
 obtain⟨A,c,l,hv,bx⟩:=jhq (SizeOf.sizeOf y1.1) y1.1 n v1 y1.2 (Nat.le_refl _) g1 (fun q hq=>hw q (by (rw[hd,DataW.weights,Tryz.underlying24];simp[DataW.weightsEach,hq])))
 have eN:v0 = .int .i64 k:=by simpa using hk
 exact⟨.mk k A c l,by rw[eN,hv];rfl,bx k⟩)
end
end S2
namespace V4
open Go.ChangeShapes Go.WideShapes Go.ChangeAt Go.RowKit Go.Deep
open C3 (Tk Nok)
theorem jfz{α β:Type}{f:α->List β}{k:Nat}(hk:∀ x,(f x).length=k)(h0:0<k):∀ {l:List α} {p:Nat} {u:β},(l.flatMap f)[p]?=some u->∃ x,l[p / k]?=some x/\(f x)[p % k]?=some u
  | [],p,u,h=>by simp at h
  | x :: l,p,u,h=>by
    rw[List.flatMap_cons] at h
    by_cases hp:p<k
    · rw[List.getElem?_append_left (by rw[hk];exact hp)] at h
      refine⟨x,?_,by rw[Nat.mod_eq_of_lt hp];exact h⟩
      rw[Nat.div_eq_of_lt hp]
      rfl
    · rw[List.getElem?_append_right (by rw[hk];omega),hk] at h
      obtain⟨y,h1,h2⟩:=jfz hk h0 h
      have e1:p / k=(p - k) / k+1:=by rw[Nat.div_eq_sub_div h0 (by omega)]
      have e2:p % k=(p - k) % k:=by rw[Nat.mod_eq_sub_mod (by omega)]
      exact⟨y,by rw[e1];simpa using h1,by rw[e2];exact h2⟩
theorem jlq{H:Type}{P:Program}{e:TypeId}{d:DataW H}{n:Nat}:∀ {ds:List (DataW H)},d∈ds->n∈d.weights P e->n∈DataW.weightsAll P e ds
  | x :: ds,h,hn=>by
    rw[DataW.weightsAll,List.mem_append]
    rcases List.mem_cons.1 h with rfl | h
    · exact .inl hn
    · exact .inr (jlq h hn)
section
variable {H:Type} {enc:TypeId×Value->H} {W:World}
theorem jbz{α:Type}[Inhabited α]{t e:TypeId}(k bytes:Nat)(f:α->List Value)(hk:∀ x,(f x).length=k)(h0:0<k)(ht:Tryz.prog.underlying t=some (.slice e))(hc:Tryz.prog.cellsOf e=k)(gr:Tryz.prog.bytesOf e=bytes)(Q:α->Prop){d:DataW H}{fuel:Nat}{v:Value}{ps:List MemPlace}(h:DataW.trod enc Tryz.prog W 0 (fun _=>true) true fuel t [v]=some (d,ps))(hw:∀ n∈d.weights Tryz.prog t,n<=reachBytes)(each:∀ (dd:DataW H) (fuel':Nat) (cs':List Value) (ps':List MemPlace),SizeOf.sizeOf dd<SizeOf.sizeOf d->cs'.length=k->DataW.trod enc Tryz.prog W 0 (fun _=>true) true fuel' e cs'=some (dd,ps')->(∀ n∈dd.weights Tryz.prog e,n<=reachBytes)->∃ x:α,cs'=f x/\Q x):∃ (A:Option Addr) (c:Nat) (l:List α),v = .slice A l.length c/\jzt (fun b=>b<W.heap.size) W A (l.flatMap f)/\(l.length<=c/\c<=maxLen/\l.length*bytes<=140737488351232)/\∀ x∈l,Q x:=by
 rcases open_slice ht h with ⟨h1,_⟩ | ⟨a,len,cap,mm,n,D,Pl,h1,hb,hl,d8,j5,h2,hx⟩
 ·(
 cases h1
 exact⟨none,0,[],rfl,.inl rfl,⟨by simp,by simp[maxLen],by simp⟩,by simp⟩)
 ·(
 cases h1
 rw[if_pos rfl] at j5;subst j5;have hd:d = .slice ((List.range len).map D) ((List.range (mm - len)).map fun j=>D (len+j)):=(Prod.mk.inj h2).1;have ws:∀ i,i<len->D i∈(List.range len).map D:=fun i hi=>List.mem_map.2 ⟨i,List.mem_range.2 hi,rfl⟩
 have ae:len*bytes<=140737488351232:=by (have:=hw ((len+(mm - len))*bytes) (by rw[hd,DataW.weights,ht];simp[gr]);unfold reachBytes at this;have h3:len*bytes<=(len+(mm - len))*bytes:=Nat.mul_le_mul_right _ (by omega);omega)
 have all:∀ i,i<len->∃ x:α,W.cells? 0 (a.add (i*k)) k=some (f x)/\Q x:=by (
 intro i hi;obtain⟨cs',qk,oC⟩:=hx i (by omega);rw[hc] at qk;obtain⟨x,rfl,hq⟩:=each (D i) n cs' (Pl i) (by
   have h3:=List.sizeOf_lt_of_mem (ws i hi)
   rw[hd]
   simp
   omega) (World.cells?_some qk).2.1 oC (fun q hq=>hw q (by
     rw[hd,DataW.weights,ht]
     exact List.mem_cons_of_mem _ (List.mem_append.2 (.inl (jlq (ws i hi) hq)))))
 exact⟨x,qk,hq⟩)
 obtain⟨g,hg⟩:=choose_lt all;refine⟨some a,mm,(List.range len).map g,by simp,?_,⟨by simpa using hl,d8,by simpa using ae⟩,?_⟩
 ·(
 by_cases hz:len=0
 ·subst hz;exact .inl rfl
 ·(
 have vr:∀ i,i<len->∀ j u,(f (g i))[j]?=some u->W.cell? ((a.add (i*k)).add j)=some u:=by (
 intro i hi j u hu;have lN:j<k:=by rw[<- hk (g i)];exact (List.getElem?_eq_some_iff.1 hu).1
 rw[(World.cells?_some (hg i hi).1).2.2 j lN,hu])
 obtain⟨u0,hu0⟩:∃ u,(f (g 0))[0]?=some u:=⟨_,List.getElem?_eq_getElem (by rw[hk];exact h0)⟩
 have cq:=vr 0 (by omega) 0 u0 hu0;obtain⟨b,off,spot⟩:=a;have mC:spot=none:=by simpa[Addr.add] using World.cell?_spot cq
 subst mC;have sr:b<W.heap.size:=World.block_lt_of_cell? W _ (by simpa[Addr.add] using cq);refine .inr ⟨b,off,rfl,sr,fun p u hu=>?_⟩;obtain⟨x,eG,ux⟩:=jfz hk h0 hu;rw[List.getElem?_map] at eG;have hi:p / k<len:=by (
 rcases Nat.lt_or_ge (p / k) len with h | h
 ·exact h
 ·rw[List.getElem?_eq_none (by simpa using h)] at eG;cases eG)
 rw[List.getElem?_range hi] at eG;have hxe:g (p / k)=x:=by simpa using eG
 have:=vr (p / k) hi (p % k) u (by rw[hxe];exact ux);rw[Addr.add_lit,Addr.add_lit] at this;rw[<- this];congr 2
 have:=Nat.div_add_mod p k;rw[Nat.mul_comm] at this;omega))
 ·(intro x iI;obtain⟨i,hi,rfl⟩:=List.mem_map.1 iI;exact (hg i (List.mem_range.1 hi)).2))
end
end V4
namespace V4
open Go.ChangeShapes Go.WideShapes Go.ChangeAt Go.RowKit Go.Deep
open C3 (Tk Nok)
theorem Tryz.cInt:Tryz.prog.cellsOf 3=1:=by kernel_rfl
theorem Tryz.cU64:Tryz.prog.cellsOf 25=1:=by kernel_rfl
theorem Tryz.cStr:Tryz.prog.cellsOf 9=1:=by kernel_rfl
theorem Tryz.cTick:Tryz.prog.cellsOf 53=2:=by kernel_rfl
theorem Tryz.cTicks:Tryz.prog.cellsOf 54=1:=by kernel_rfl
theorem Tryz.cStrs:Tryz.prog.cellsOf 26=1:=by kernel_rfl
theorem Tryz.cClocks:Tryz.prog.cellsOf 27=1:=by kernel_rfl
theorem Tryz.cVals:Tryz.prog.cellsOf 28=1:=by kernel_rfl
theorem Tryz.cVal:Tryz.prog.cellsOf 30=5:=by kernel_rfl
theorem Tryz.bStr:Tryz.prog.bytesOf 9=16:=by kernel_rfl
theorem Tryz.bTick:Tryz.prog.bytesOf 53=16:=by kernel_rfl
theorem Tryz.bTicks:Tryz.prog.bytesOf 54=24:=by kernel_rfl
theorem Tryz.bVal:Tryz.prog.bytesOf 30=88:=by kernel_rfl
instance:Inhabited Tk:=⟨⟨0,0⟩⟩
instance:Inhabited Ck:=⟨⟨none,0,[]⟩⟩
instance:Inhabited Vl:=⟨.mk 0 0 none 0 [] none 0 [] none 0 []⟩
theorem jr7{n:Int}(h:(Lit.int .u64 n).wf=true):0<=n/\n<=18446744073709551615:=by
 simp[Lit.wf] at h
 have e1:IntKind.u64.min=0:=by decide
 have e2:IntKind.u64.max=18446744073709551615:=by decide
 omega
theorem jvm{α β:Type}(f:α->β):∀ l:List α,l.flatMap (fun x=>[f x])=l.map f
  | []=>rfl
  | x :: l=>by rw[List.flatMap_cons,jvm f l];rfl
theorem size_S(x:Str):(S x).size=x.length:=by simp[S,ByteArray.size]
section
variable {H:Type} {enc:TypeId×Value->H} {W:World}
theorem jot{d:DataW H}{fuel:Nat}{v:Value}{ps:List MemPlace}(h:DataW.trod enc Tryz.prog W 0 (fun _=>true) true fuel 26 [v]=some (d,ps))(hw:∀ n∈d.weights Tryz.prog 26,n<=reachBytes):∃ (A:Option Addr) (c:Nat) (l:List Str),v = .slice A l.length c/\jzt (fun b=>b<W.heap.size) W A (jx4 l)/\(l.length<=c/\c<=maxLen/\l.length*16<=140737488351232)/\∀ s∈l,s.length<=maxLen:=by
 obtain⟨A,c,l,h1,h2,h3,h4⟩:=jbz 1 16 (fun s:Str=>[Value.string (S s)]) (fun _=>rfl) (by omega) Tryz.underlying26 Tryz.cStr Tryz.bStr (fun s=>s.length<=maxLen) h hw (by (intro dd fuel' cs' ps' _ _ oC _;obtain⟨s,hs,-,ae⟩:=DataW.trod_string Tryz.underlying9 oC;obtain⟨x,rfl⟩:=S_of s;exact⟨x,hs,by rw[<- size_S];exact ae⟩))
 refine⟨A,c,l,h1,?_,h3,h4⟩;have e:l.flatMap (fun s:Str=>[Value.string (S s)])=jx4 l:=jvm _ l;rwa [e] at h2
theorem jou{d:DataW H}{fuel:Nat}{v:Value}{ps:List MemPlace}(h:DataW.trod enc Tryz.prog W 0 (fun _=>true) true fuel 54 [v]=some (d,ps))(hw:∀ n∈d.weights Tryz.prog 54,n<=reachBytes):∃ x:Ck,v=x.v/\x.Inp (fun b=>b<W.heap.size) W:=by
 obtain⟨A,c,l,h1,h2,h3,h4⟩:=jbz 2 16 (fun x:Tk=>[Value.int .i64 x.k,Value.int .u64 x.n]) (fun _=>rfl) (by omega) Tryz.underlying54 Tryz.cTick Tryz.bTick (fun x=>0<=x.n/\x.n<=18446744073709551615) h hw (by (
 intro dd fuel' cs' ps' _ hl oC _;obtain⟨xs,n,-,-,-,ts,mT⟩:=DataW.trod_struct Tryz.underlying53 oC;match cs',hl,xs,ts with
 | [v0,v1],_,[y0,y1],_=>(
 have g0:=mT 0 _ rfl;have g1:=mT 1 _ rfl;simp[Tryz.cInt,Tryz.cU64] at g0 g1
 obtain⟨k,hk,-,-⟩:=DataW.trod_int Tryz.underlying3 g0;obtain⟨m,hm,-,hwf⟩:=DataW.trod_int Tryz.underlying25 g1;have eN:v0 = .int .i64 k:=by simpa using hk
 have j7:v1 = .int .u64 m:=by simpa using hm
 exact⟨⟨k,m⟩,by rw[eN,j7],jr7 hwf⟩)))
 exact⟨⟨A,c,l⟩,h1,h2,h3.1,h3.2.1,h4,h3.2.2⟩
theorem jds{d:DataW H}{fuel:Nat}{v:Value}{ps:List MemPlace}(h:DataW.trod enc Tryz.prog W 0 (fun _=>true) true fuel 27 [v]=some (d,ps))(hw:∀ n∈d.weights Tryz.prog 27,n<=reachBytes):∃ (A:Option Addr) (c:Nat) (l:List Ck),v = .slice A l.length c/\jzt (fun b=>b<W.heap.size) W A (jzl l)/\(l.length<=c/\c<=maxLen/\l.length*24<=140737488351232)/\∀ x∈l,x.Inp (fun b=>b<W.heap.size) W:=by
 obtain⟨A,c,l,h1,h2,h3,h4⟩:=jbz 1 24 (fun x:Ck=>[x.v]) (fun _=>rfl) (by omega) Tryz.underlying27 Tryz.cTicks Tryz.bTicks (fun x=>x.Inp (fun b=>b<W.heap.size) W) h hw (by (
 intro dd fuel' cs' ps' _ hl oC hww;match cs',hl with
 | [v0],_=>(obtain⟨x,hx,hi⟩:=jou oC hww;exact⟨x,by rw[hx],hi⟩)))
 refine⟨A,c,l,h1,?_,h3,h4⟩;have e:l.flatMap (fun x:Ck=>[x.v])=jzl l:=jvm _ l;rwa [e] at h2
theorem jfp(m:Nat)(ih:∀ (d:DataW H) (fuel:Nat) (v:Value) (ps:List MemPlace),SizeOf.sizeOf d<m->DataW.trod enc Tryz.prog W 0 (fun _=>true) true fuel 28 [v]=some (d,ps)->(∀ n∈d.weights Tryz.prog 28,n<=reachBytes)->∃ (A:Option Addr) (c:Nat) (l:List Vl),v = .slice A l.length c/\jzt (fun b=>b<W.heap.size) W A (jzj l)/\(l.length<=c/\c<=maxLen/\l.length*88<=140737488351232)/\∀ x∈l,x.In W){d:DataW H}{fuel:Nat}{cs:List Value}{ps:List MemPlace}(hd:SizeOf.sizeOf d<=m)(hl:cs.length=5)(h:DataW.trod enc Tryz.prog W 0 (fun _=>true) true fuel 30 cs=some (d,ps))(hw:∀ n∈d.weights Tryz.prog 30,n<=reachBytes):∃ x:Vl,cs=[.int .u64 x.n,.int .u64 x.m,x.s1,x.c1,x.v1]/\x.In W:=by
 obtain⟨xs,n,-,hx,-,ts,mT⟩:=DataW.trod_struct Tryz.underlying30 h;match cs,hl,xs,ts with
 | [v0,v1,v2,v3,v4],_,[y0,y1,y2,y3,y4],_=>(
 have g0:=mT 0 _ rfl;have g1:=mT 1 _ rfl;have g2:=mT 2 _ rfl;have g3:=mT 3 _ rfl;have g4:=mT 4 _ rfl;simp[Tryz.cU64,Tryz.cStrs,Tryz.cClocks,Tryz.cVals] at g0 g1 g2 g3 g4
 have hd':d = .agg [y0.1,y1.1,y2.1,y3.1,y4.1]:=by simpa using (Prod.mk.inj hx).1
 have hwi:∀ q,(q∈y2.1.weights Tryz.prog 26\/q∈y3.1.weights Tryz.prog 27\/q∈y4.1.weights Tryz.prog 28)->q<=reachBytes:=fun q hq=>hw q (by (rw[hd',DataW.weights,Tryz.underlying30];rcases hq with h | h | h <;> simp[DataW.weightsEach,h]))
 obtain⟨a,ha,-,hwa⟩:=DataW.trod_int Tryz.underlying25 g0;obtain⟨b,hb,-,hwb⟩:=DataW.trod_int Tryz.underlying25 g1;obtain⟨sA,sc,ss,hs,s1,s2,s3⟩:=jot g2 (fun q hq=>hwi q (.inl hq));obtain⟨cA,cc,cs,hc,c1,c2,c3⟩:=jds g3 (fun q hq=>hwi q (.inr (.inl hq)));obtain⟨vA,vc,vs,hv,w1,w2,w3⟩:=ih y4.1 n v4 y4.2 (by rw[hd'] at hd;simp at hd;omega) g4 (fun q hq=>hwi q (.inr (.inr hq)));have sI:v0 = .int .u64 a:=by simpa using ha
 have ct:v1 = .int .u64 b:=by simpa using hb
 exact⟨.mk a b sA sc ss cA cc cs vA vc vs,by rw[sI,ct,hs,hc,hv];rfl,.mk _ _ _ _ _ _ _ _ _ _ _ (jr7 hwa) (jr7 hwb) s1 s2 s3 c1 c2 c3 w1 w2 w3⟩)
theorem jgu(m:Nat):∀ (d:DataW H) (fuel:Nat) (v:Value) (ps:List MemPlace),SizeOf.sizeOf d<m->DataW.trod enc Tryz.prog W 0 (fun _=>true) true fuel 28 [v]=some (d,ps)->(∀ n∈d.weights Tryz.prog 28,n<=reachBytes)->∃ (A:Option Addr) (c:Nat) (l:List Vl),v = .slice A l.length c/\jzt (fun b=>b<W.heap.size) W A (jzj l)/\(l.length<=c/\c<=maxLen/\l.length*88<=140737488351232)/\∀ x∈l,x.In W:=by
 induction m with
 | zero=>intro d _ _ _ hm;omega
 | succ m ih=>(
 intro d fuel v ps hm h hw;obtain⟨A,c,l,h1,h2,h3,h4⟩:=jbz 5 88 (fun x:Vl=>[Value.int .u64 x.n,Value.int .u64 x.m,x.s1,x.c1,x.v1]) (fun _=>rfl) (by omega) Tryz.underlying28 Tryz.cVal Tryz.bVal (fun x=>x.In W) h hw (by (intro dd fuel' cs' ps' hlt hl oC hww;exact jfp m ih (by omega) hl oC hww))
 exact⟨A,c,l,h1,h2,h3,h4⟩)
theorem jyt{base:Nat}{v:Value}{d:DataW H}{ps:List MemPlace}(eH:Value.okWide Tryz.prog W .any base 30 v)(h:DataW.Trod enc Tryz.prog W 0 (fun _=>true) true 30 v d ps)(hw:∀ n∈d.weights Tryz.prog 30,n<=reachBytes):∃ x:Vl,v=x.val/\x.In W:=by
 obtain⟨cs,rfl,fq⟩:=okWide_struct Tryz.underlying30 eH;rw[Tryz.cVal] at fq;obtain⟨fuel,hf⟩:=h;obtain⟨x,hx,hi⟩:=jfp (enc:=enc) (W:=W) (SizeOf.sizeOf d) (fun d' fuel v ps hlt h hw=>jgu (SizeOf.sizeOf d'+1) d' fuel v ps (by omega) h hw) (Nat.le_refl _) (by simpa[Value.cells] using fq) hf hw;refine⟨x,?_,hi⟩;obtain⟨cl⟩:=cs;simp[Value.cells] at hx
 rw[hx];rfl
end
end V4
end Go.Proofs.YtobggoephhjofaaGreatDoor
