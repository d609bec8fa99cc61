/- A part. No condition. -/
import Derived.Test.YtobggoephhjofaaGreatDoorMj36
import Derived.Test.YtobggoephhjofaaGreatDoorMj37
import Derived.ChangeSame
import Derived.ChangeVars
import Derived.JoinedOf
import Derived.RowKit
import Derived.RowKitTokens
import Derived.LaidLaws
import Derived.LaidHandle
import Derived.Stop.Joined
import Derived.Deep.SlicePairs
import Derived.ProofKit
import Derived.SizedLaws
import Derived.OpenShut
import Derived.ChangeOld
import Derived.Deep.Slices
set_option maxRecDepth 100000
set_option maxHeartbeats 16000000
namespace Go.Proofs.YtobggoephhjofaaGreatDoor
namespace J5
open Go.RowKit Go.Shelf
open C3 (Tk In jzj jzf)
open S2 (Sc Tr isT)
open V4 (Va Vl Ck isV jqh jzr jzk jzh jzt jkj)
def valX(o:Except Int Va):Va:=match o with | .ok z=>z | .error _=>Va.zero
def numX(o:Except Int Va):Int:=match o with | .ok _=>0 | .error n=>n
def RetKN(w:World)(v:Va)(n:Int)(e:Ending)(w':World):Prop :=
  ∃ (x:Vl) (ev:Value),e = .returned (.tuple #[x.val,ev])/\x.In w'/\Below w.heap.size w w'/\x.er=v/\((ev = .nilIface/\n=0)\/ev=jkm n)
def RetQN(w:World)(v:Va)(n:Int)(e:Ending)(w':World):Prop :=
  ∃ (x:Vl),e = .returned (.tuple #[x.val,.int .i64 n])/\x.In w'/\Below w.heap.size w w'/\x.er=v
theorem jlu{w:World}{o:Except Int Va}{e:Ending}{w':World}(h:jny w o e w'):RetKN w (valX o) (numX o) e w':=by
 obtain⟨x,ev,h1,h2,h3,h4⟩:=ju0 h;refine⟨x,ev,h1,V4.Vl.Inp.mono h2 fun _ h=>h.2,h3,?_⟩;rcases h4 with ⟨rfl,rfl⟩ | ⟨n,rfl,rfl,rfl⟩
 ·exact⟨rfl,.inl ⟨rfl,rfl⟩⟩
 ·exact⟨jb7,.inr rfl⟩
theorem jls{P:Nat->Prop}{w:World}{o:Except Int Va}{e:Ending}{w':World}(h:RetQ P w o e w'):RetQN w (valX o) (numX o) e w':=by
 obtain⟨x,n,h1,h2,h3,h4⟩:=h;rcases h4 with ⟨rfl,rfl⟩ | ⟨rfl,-,hz⟩
 ·exact⟨x,h1,V4.Vl.Inp.mono h2 fun _ h=>h.2,h3,rfl⟩
 ·exact⟨x,h1,V4.Vl.Inp.mono h2 fun _ h=>h.2,h3,hz⟩
theorem jng(ev:Value)(n:Int)(W:World)(h:(ev = .nilIface/\n=0)\/ev=jkm n)(hg:jp1 W):Calls Tryz.prog 10 #[ev] W (jqd W (.int .i64 n)):=by
 rcases h with ⟨rfl,rfl⟩ | rfl
 ·exact jne W
 ·exact jnf n W hg
theorem jmy(s:Sc)(x y:Vl)(B:Option Addr)(d:Nat)(vl:List Vl)(w:World)(hs:s.In w.heap.size w)(hx:x.In w)(hy:y.In w)(hl:jzr (fun b=>b<w.heap.size) w B (jzk vl))(hv:∀ v∈vl,v.In w)(hn:vl.length<=9223372036854775807)(hg:jp1 w):Calls Tryz.prog 3 #[s.val,x.val,y.val,.slice B vl.length d] w (jqd w (.bool true)):=by
 have HKN:=Lh jhu;obtain⟨v1,hv1⟩:=exq (valX (jxs s.er x.er y.er));obtain⟨n1,hn1⟩:=exq (numX (jxs s.er x.er y.er));obtain⟨v2,hv2⟩:=exq (valX (jf0 s.er (vl.map Vl.er)));obtain⟨n2,hn2⟩:=exq (numX (jf0 s.er (vl.map Vl.er)));have HJ:Hid (∀ W,Below w.heap.size w W->Calls Tryz.prog 6 #[s.val,x.val,y.val] W (RetKN W v1 n1)):=fun W hb=>(jkz True (fun _=>jl1) s x y W (hs.later hb) (hx.later hb) (hy.later hb) (fun _ => .inl trivial)).mono fun e w' h=>by rw[<- hv1,<- hn1];exact jlu h
 have HR:Hid (∀ W,Below w.heap.size w W->Calls Tryz.prog 7 #[s.val,x.val,y.val] W (RetQN W v1 n1)):=fun W hb=>(jy7 s (fun b=>b<w.heap.size) x y W (fun _ h=>ltl h hb.size) (hs.later hb) (V4.Vl.Inp.keep hx fun b h=>hb.block b h) (V4.Vl.Inp.keep hy fun b h=>hb.block b h)).mono fun e w' h=>by rw[<- hv1,<- hn1];exact jls h
 have HA:Hid (vl.length<=10->∀ W,Below w.heap.size w W->Calls Tryz.prog 8 #[s.val,.slice B vl.length d] W (RetKN W v2 n2)):=fun h10 W hb=>(jn6 True (fun _=>jl1) s B d vl W (hs.later hb) ((hl.keep fun b h=>hb.block b h).mono fun b h=>ltl h hb.size) (fun v h=>(hv v h).later hb) (by omega) (fun _ => .inl trivial)).mono fun e w' h=>by rw[<- hv2,<- hn2];exact jlu h
 have HB:Hid (vl.length<=10->∀ W,Below w.heap.size w W->Calls Tryz.prog 9 #[s.val,.slice B vl.length d] W (RetQN W v2 n2)):=fun h10 W hb=>(jol s (fun b=>b<w.heap.size) B d vl W (fun _ h=>ltl h hb.size) (hs.later hb) (hl.keep fun b h=>hb.block b h) (fun v h=>V4.Vl.Inp.keep (hv v h) fun b h=>hb.block b h) (by omega)).mono fun e w' h=>by rw[<- hv2,<- hn2];exact jls h
 have HC:Hid (∀ ev n W,Below w.heap.size w W->((ev = .nilIface/\n=0)\/ev=jkm n)->Calls Tryz.prog 10 #[ev] W (jqd W (.int .i64 n))):=fun ev n W hb h=>jng ev n W h (hg.later hb)
 have HS:Hid (∀ (a b:Vl) W,a.In W->b.In W->a.er=b.er->Calls Tryz.prog 11 #[a.val,b.val] W (jqd W (.bool true))):=fun a b W ha hb e=>by (
 have:=V4.jke a b W ha hb;rwa [decide_eq_true e] at this)
 clear hs hx hy hl hv hg hv1 hn1 hv2 hn2;obtain⟨k,A,c,l⟩:=s;obtain⟨n,m,sA,sc,ss,cA,cc,cs,vA,vc,vs⟩:=x;obtain⟨n',m',sA',sc',ss',cA',cc',cs',vA',vc',vs'⟩:=y;simp only[S2.jzh,jzh] at HJ HR HA HB ⊢;obtain⟨V,hV⟩:=exq (((w.alloc (.cells #[.int .i64 k,.slice A l.length c] 24)).alloc (.cells #[.int .u64 n,.int .u64 m,.slice sA ss.length sc,.slice cA cs.length cc,.slice vA vs.length vc] 30)).alloc (.cells #[.int .u64 n',.int .u64 m',.slice sA' ss'.length sc',.slice cA' cs'.length cc',.slice vA' vs'.length vc'] 30));obtain⟨q3,q4,q5,hbV,hs0⟩:=jnq hV;have hsV:w.heap.size+3<=V.heap.size:=by omega
 clear hs0;obtain⟨e0,e1⟩:=blk2c q3;obtain⟨a0,a1,a2,a3,a4⟩:=blk5 q4;obtain⟨b0,b1,b2,b3,b4⟩:=blk5 q5;go_enter Tryz.func3,Tryz.ntmps3;go_wp2_with fail;refine (HKN.out V).mono ?_;rintro e V1 ⟨rfl,hb1⟩;have hbV1:=hbV.trans (hb1.mono hbV.size);replace q3:=q3.below hb1;replace q4:=q4.below hb1;replace q5:=q5.below hb1;have hs1:=hb1.size;clear e0 e1 a0 a1 a2 a3 a4 b0 b1 b2 b3 b4 hV HKN;by_cases h10:10<vl.length
 ·(
 go_wp2_with fail;go_ret;exact⟨rfl,hbV1⟩)
 ·(
 replace HA:=Lh (HA.out (by omega));replace HB:=Lh (HB.out (by omega));obtain⟨e0,e1⟩:=blk2c q3;obtain⟨a0,a1,a2,a3,a4⟩:=blk5 q4;obtain⟨b0,b1,b2,b3,b4⟩:=blk5 q5;go_wp2_with fail;refine (HJ.out V1 hbV1).mono ?_;rintro e U1 ⟨⟨pn,pm,pK,pL,pM,pN,pO,pP,pQ,pR,pS⟩,ea,rfl,pi,hbU1,pe,eav⟩;simp only[jzh];have HpI:=Lh pi;have HpE:=Lh pe;have HpV:=Lh eav;obtain⟨X1,hX1⟩:=exq (U1.alloc (.cells #[.int .u64 pn,.int .u64 pm,.slice pK pM.length pL,.slice pN pP.length pO,.slice pQ pS.length pR] 30));have hbnX1:Below U1.heap.size U1 X1:=by rw[<- hX1];exact jzf _ _
 have qp:Blk X1 U1.heap.size 30 #[.int .u64 pn,.int .u64 pm,.slice pK pM.length pL,.slice pN pP.length pO,.slice pQ pS.length pR]:=by rw[<- hX1];exact Blk.new _ _ _
 have hb2X1:Below V1.heap.size V1 X1:=hbU1.trans (hbnX1.mono hbU1.size);have hbX1:=hbV1.trans (hb2X1.mono hbV1.size);have HpX:Hid ((Vl.mk pn pm pK pL pM pN pO pP pQ pR pS).In X1):=V4.Vl.In.later HpI.out hbnX1;have lp:=qp.lt;have hsX1:=hb2X1.size;replace q3:=q3.below hb2X1;replace q4:=q4.below hb2X1;replace q5:=q5.below hb2X1;clear pi pe eav e0 e1 a0 a1 a2 a3 a4 b0 b1 b2 b3 b4;obtain⟨e0,e1⟩:=blk2c q3;obtain⟨a0,a1,a2,a3,a4⟩:=blk5 q4;obtain⟨b0,b1,b2,b3,b4⟩:=blk5 q5;go_wp2_with fail;refine (HR.out X1 hbX1).mono ?_;rintro e U2 ⟨⟨rn,rm,rK,rL,rM,rN,rO,rP,rQ,rR,rS⟩,rfl,ri,hbU2,re⟩;simp only[jzh];have HrI:=Lh ri;have HrE:=Lh re;obtain⟨X2,hX2⟩:=exq (U2.alloc (.cells #[.int .u64 rn,.int .u64 rm,.slice rK rM.length rL,.slice rN rP.length rO,.slice rQ rS.length rR] 30));have hbnX2:Below U2.heap.size U2 X2:=by rw[<- hX2];exact jzf _ _
 have qr:Blk X2 U2.heap.size 30 #[.int .u64 rn,.int .u64 rm,.slice rK rM.length rL,.slice rN rP.length rO,.slice rQ rS.length rR]:=by rw[<- hX2];exact Blk.new _ _ _
 have hb2X2:Below X1.heap.size X1 X2:=hbU2.trans (hbnX2.mono hbU2.size);have hbX2:=hbX1.trans (hb2X2.mono hbX1.size);have HrX:Hid ((Vl.mk rn rm rK rL rM rN rO rP rQ rR rS).In X2):=V4.Vl.In.later HrI.out hbnX2;have lr:=qr.lt;have hsX2:=hb2X2.size;replace q3:=q3.below hb2X2;replace q4:=q4.below hb2X2;replace q5:=q5.below hb2X2;replace qp:=qp.below hb2X2;replace HpX:=Lh (V4.Vl.In.later HpX.out hb2X2);clear ri re e0 e1 a0 a1 a2 a3 a4 b0 b1 b2 b3 b4;obtain⟨e0,e1⟩:=blk2c q3;obtain⟨a0,a1,a2,a3,a4⟩:=blk5 q4;obtain⟨b0,b1,b2,b3,b4⟩:=blk5 q5;go_wp2_with fail;refine (HA.out X2 hbX2).mono ?_;rintro e U3 ⟨⟨gn,gm,gK,gL,gM,gN,gO,gP,gQ,gR,gS⟩,eb,rfl,gi,hbU3,ge,ebv⟩;simp only[jzh];have HgI:=Lh gi;have HgE:=Lh ge;have HgV:=Lh ebv;obtain⟨X3,hX3⟩:=exq (U3.alloc (.cells #[.int .u64 gn,.int .u64 gm,.slice gK gM.length gL,.slice gN gP.length gO,.slice gQ gS.length gR] 30));have hbnX3:Below U3.heap.size U3 X3:=by rw[<- hX3];exact jzf _ _
 have qg:Blk X3 U3.heap.size 30 #[.int .u64 gn,.int .u64 gm,.slice gK gM.length gL,.slice gN gP.length gO,.slice gQ gS.length gR]:=by rw[<- hX3];exact Blk.new _ _ _
 have hb2X3:Below X2.heap.size X2 X3:=hbU3.trans (hbnX3.mono hbU3.size);have hbX3:=hbX2.trans (hb2X3.mono hbX2.size);have HgX:Hid ((Vl.mk gn gm gK gL gM gN gO gP gQ gR gS).In X3):=V4.Vl.In.later HgI.out hbnX3;have lg:=qg.lt;have hsX3:=hb2X3.size;replace q3:=q3.below hb2X3;replace q4:=q4.below hb2X3;replace q5:=q5.below hb2X3;replace qp:=qp.below hb2X3;replace qr:=qr.below hb2X3;replace HpX:=Lh (V4.Vl.In.later HpX.out hb2X3);replace HrX:=Lh (V4.Vl.In.later HrX.out hb2X3);clear gi ge ebv e0 e1 a0 a1 a2 a3 a4 b0 b1 b2 b3 b4;obtain⟨e0,e1⟩:=blk2c q3;obtain⟨a0,a1,a2,a3,a4⟩:=blk5 q4;obtain⟨b0,b1,b2,b3,b4⟩:=blk5 q5;go_wp2_with fail;refine (HB.out X3 hbX3).mono ?_;rintro e U4 ⟨⟨zn,zm,zK,zL,zM,zN,zO,zP,zQ,zR,zS⟩,rfl,zi,hbU4,ze⟩;simp only[jzh];have HzI:=Lh zi;have HzE:=Lh ze;obtain⟨X4,hX4⟩:=exq (U4.alloc (.cells #[.int .u64 zn,.int .u64 zm,.slice zK zM.length zL,.slice zN zP.length zO,.slice zQ zS.length zR] 30));have hbnX4:Below U4.heap.size U4 X4:=by rw[<- hX4];exact jzf _ _
 have qz:Blk X4 U4.heap.size 30 #[.int .u64 zn,.int .u64 zm,.slice zK zM.length zL,.slice zN zP.length zO,.slice zQ zS.length zR]:=by rw[<- hX4];exact Blk.new _ _ _
 have hb2X4:Below X3.heap.size X3 X4:=hbU4.trans (hbnX4.mono hbU4.size);have hbX4:=hbX3.trans (hb2X4.mono hbX3.size);have HzX:Hid ((Vl.mk zn zm zK zL zM zN zO zP zQ zR zS).In X4):=V4.Vl.In.later HzI.out hbnX4;have lz:=qz.lt;have hsX4:=hb2X4.size;replace q3:=q3.below hb2X4;replace q4:=q4.below hb2X4;replace q5:=q5.below hb2X4;replace qp:=qp.below hb2X4;replace qr:=qr.below hb2X4;replace qg:=qg.below hb2X4;replace HpX:=Lh (V4.Vl.In.later HpX.out hb2X4);replace HrX:=Lh (V4.Vl.In.later HrX.out hb2X4);replace HgX:=Lh (V4.Vl.In.later HgX.out hb2X4);clear zi ze e0 e1 a0 a1 a2 a3 a4 b0 b1 b2 b3 b4;clear q3 q4 q5;go_wp2_with fail;refine (HC.out ea n1 X4 hbX4 HpV.out).mono ?_;rintro e Y1 ⟨rfl,hbY⟩;have hbY1:=hbX4.trans (hbY.mono hbX4.size);replace qp:=qp.below hbY;replace HpX:=Lh (V4.Vl.In.later HpX.out hbY);replace qr:=qr.below hbY;replace HrX:=Lh (V4.Vl.In.later HrX.out hbY);replace qg:=qg.below hbY;replace HgX:=Lh (V4.Vl.In.later HgX.out hbY);replace qz:=qz.below hbY;replace HzX:=Lh (V4.Vl.In.later HzX.out hbY);obtain⟨p0,p1,p2,p3,p4⟩:=blk5 qp;obtain⟨r0,r1,r2,r3,r4⟩:=blk5 qr;clear hbY;have HS1:=Lh (HS.out _ _ Y1 HpX.out HrX.out (HpE.out.trans HrE.out.symm));rw[jzh,jzh] at HS1;go_wp2_with fail;refine HS1.out.mono ?_;rintro e Y2 ⟨rfl,hbY⟩;have hbY2:=hbY1.trans (hbY.mono hbY1.size);clear p0 p1 p2 p3 p4 r0 r1 r2 r3 r4 HS1 qp qr;replace qg:=qg.below hbY;replace HgX:=Lh (V4.Vl.In.later HgX.out hbY);replace qz:=qz.below hbY;replace HzX:=Lh (V4.Vl.In.later HzX.out hbY);clear hbY;go_wp2_with fail;refine (HC.out eb n2 Y2 hbY2 HgV.out).mono ?_;rintro e Y3 ⟨rfl,hbY⟩;have hbY3:=hbY2.trans (hbY.mono hbY2.size);replace qg:=qg.below hbY;replace HgX:=Lh (V4.Vl.In.later HgX.out hbY);replace qz:=qz.below hbY;replace HzX:=Lh (V4.Vl.In.later HzX.out hbY);obtain⟨g0,g1,g2,g3,g4⟩:=blk5 qg;obtain⟨z0,z1,z2,z3,z4⟩:=blk5 qz;clear hbY;have HS2:=Lh (HS.out _ _ Y3 HgX.out HzX.out (HgE.out.trans HzE.out.symm));rw[jzh,jzh] at HS2;go_wp2_with fail;refine HS2.out.mono ?_;rintro e Y4 ⟨rfl,hbY⟩;have hbY4:=hbY3.trans (hbY.mono hbY3.size);clear g0 g1 g2 g3 g4 z0 z1 z2 z3 z4;go_wp2_with fail;go_ret;exact⟨rfl,hbY4⟩)
open Go.ChangeShapes Go.WideShapes Go.RowKit
theorem Tryz.laidEt : Tryz.prog.globalNamed "errors.errorType" = some 0 := by kernel_rfl
theorem Tryz.laidRt : (Tryz.prog.cutTypes.find? (·.1 == "internal/reflectlite.rtype")).map (·.2) = some 112 := by kernel_rfl
theorem Tryz.laidRow:((List.range 251).filter fun t=>Tryz.prog.rowNamed t [101,114,114,111,114])=[33]:=by kernel_rfl
theorem Tryz.laidSize:Tryz.prog.types.size=251:=by kernel_rfl
def joy : List (String × DataW Unit) := [("errors.errorType", Rows.laid_errors_errorType)]
theorem jpy{W:World}(h:laidMetH Tryz.prog joy W):jp1 W:=by
  have h':laidMet Tryz.prog [] W/\handlesMet Tryz.prog joy W:=h
  obtain⟨name,u,ty,e1,e2,e3,e4,e5⟩:=h'.2 _ (List.mem_singleton.2 rfl)
  have en:name=[101,114,114,111,114]:=(Option.some.inj e1).symm
  subst en
  obtain rfl:=Option.some.inj (Tryz.laidRt.symm.trans e2)
  have hm:ty∈(List.range 251).filter fun t=>Tryz.prog.rowNamed t [101,114,114,111,114]:=List.mem_filter.2 ⟨List.mem_range.2 (by rw[<- Tryz.laidSize];exact e3),e4⟩
  rw[Tryz.laidRow] at hm
  obtain rfl:=List.mem_singleton.1 hm
  have hh:typeHandle Tryz.prog 33 = .pointer (some ⟨2,33,none⟩):=by kernel_rfl
  rw[hh] at e5
  show W.cell? _=_
  simpa using World.var?_cell Tryz.laidEt e5 0
noncomputable def laidWorld (os:Os):World :=
  let w0:=World.holding Tryz.prog os ⟨#[],#[],[]⟩
  { w0 with heap:=w0.heap.modify 0 fun
      | .cells _ t frozen => .cells #[.iface 112 (.agg #[.pointer (some ⟨2,33,none⟩)])] t frozen
      | o=>o }
theorem jmw(os:Os)(args:Array Value):laidMetH Tryz.prog joy ((laidWorld os).forCall (fun _ _=>0) ⟨#[],args,[]⟩).memory :=
  laidMetH_of_parts (laidMet_nil _ _) (by kernel_rfl)
end J5
namespace S2
open Go.ChangeShapes Go.WideShapes Go.ChangeAt Go.RowKit Go.Deep
theorem Tryz.cellsInt:Tryz.prog.cellsOf 3=1:=by kernel_rfl
theorem Tryz.cellsSl:Tryz.prog.cellsOf 22=1:=by kernel_rfl
theorem Tryz.cellsSch:Tryz.prog.cellsOf 24=2:=by kernel_rfl
theorem Tryz.bytesSch:Tryz.prog.bytesOf 24=32:=by kernel_rfl
instance:Inhabited Sc:=⟨.mk 0 none 0 []⟩
theorem jk0{H:Type}{P:Program}{e:TypeId}{d:DataW H}{n:Nat}:∀ {ds:List (DataW H)},d∈ds->n∈d.weights P e->n∈DataW.weightsAll P e ds
  | x :: ds,h,hn=>by
    rw[DataW.weightsAll,List.mem_append]
    rcases List.mem_cons.1 h with rfl | h
    · exact .inl hn
    · exact .inr (jk0 h hn)
section
variable {H:Type} {enc:TypeId×Value->H} {W:World}
theorem jhe(m:Nat):∀ (d:DataW H) (fuel:Nat) (v:Value) (ps:List MemPlace),SizeOf.sizeOf d<=m->DataW.trod enc Tryz.prog W 0 (fun _=>true) true fuel 22 [v]=some (d,ps)->(∀ n∈d.weights Tryz.prog 22,n<=reachBytes)->∃ A c l,v = .slice A l.length c/\∀ k,(Sc.mk k A c l).In W.heap.size W:=by
 induction m with
 | zero=>(
 intro d fuel v ps hm;cases d <;> simp at hm)
 | succ m ih=>(
 intro d fuel v ps hm h hw;rcases open_slice_pairs Tryz.underlying22 Tryz.underlying24 Tryz.cellsSch rfl rfl Tryz.cellsInt Tryz.cellsSl h with ⟨h1,h2⟩ | ⟨a,len,cap,mm,n,V0,V1,D0,D1,P0,P1,h1,hb,hl,hcm,hmm,h2,hx⟩
 ·(
 cases h1
 exact⟨none,0,[],rfl,fun k => .mk _ _ _ _ jxv.nil (by simp) (by simp) (by simp) (by simp)⟩)
 ·(
 cases h1
 rw[if_pos rfl] at hmm;subst hmm;have hd:d = .slice ((List.range len).map fun i => .agg [D0 i,D1 i]) ((List.range (mm - len)).map fun j => .agg [D0 (len+j),D1 (len+j)]):=(Prod.mk.inj h2).1;have hel:∀ i,i<len->(DataW.agg [D0 i,D1 i])∈(List.range len).map fun i=>(DataW.agg [D0 i,D1 i]:DataW H):=fun i hi=>List.mem_map.2 ⟨i,List.mem_range.2 hi,rfl⟩
 have hsz:len*32<=140737488351232:=by (
 have:=hw ((len+(mm - len))*32) (by rw[hd,DataW.weights,Tryz.underlying22];simp[Tryz.bytesSch]);unfold reachBytes at this;omega)
 have each:∀ i,i<len->∃ s:Sc,V0 i = .int .i64 s.k/\V1 i=s.v1/\s.In W.heap.size W:=by (
 intro i hi;obtain⟨-,-,t0,t1⟩:=hx i (by omega);obtain⟨k,hk,-,-⟩:=DataW.trod_int Tryz.underlying3 t0;have hlt:SizeOf.sizeOf (D1 i)<=m:=by (
 have h3:=List.sizeOf_lt_of_mem (hel i hi);have h4:SizeOf.sizeOf (D1 i)<SizeOf.sizeOf (DataW.agg [D0 i,D1 i]):=by simp;omega
 have h5:SizeOf.sizeOf ((List.range len).map fun i=>(DataW.agg [D0 i,D1 i]:DataW H))<SizeOf.sizeOf d:=by rw[hd];simp;omega
 omega)
 obtain⟨A,c,l,hv,hin⟩:=ih (D1 i) n (V1 i) (P1 i) hlt t1 (fun q hq=>hw q (by (
 rw[hd,DataW.weights,Tryz.underlying22];refine List.mem_cons_of_mem _ (List.mem_append.2 (.inl (jk0 (hel i hi) ?_)));rw[DataW.weights,Tryz.underlying24];simp[DataW.weightsEach,hq])))
 exact⟨.mk k A c l,by simpa[Sc.k] using hk,hv,hin k⟩)
 obtain⟨f,hf⟩:=choose_lt each;refine⟨some a,mm,(List.range len).map f,by simp,fun k=>?_⟩;refine .mk _ _ _ _ ?_ (by simpa using hl) (by unfold maxLen at hcm;omega) (by simpa using hsz) ?_
 ·(
 by_cases h0:len=0
 ·subst h0;exact .inl rfl
 ·(
 obtain⟨b,off,spot⟩:=a;have hc0:=(hx 0 (by omega)).1;have hspot:spot=none:=by simpa[Addr.add] using World.cell?_spot hc0
 subst hspot;have hblt:b<W.heap.size:=World.block_lt_of_cell? W _ (by simpa[Addr.add] using hc0);refine .inr ⟨b,off,rfl,hblt,fun i x hx'=>?_⟩;rw[List.getElem?_map] at hx';have hi:i<len:=by (
 rcases Nat.lt_or_ge i len with h | h
 ·exact h
 ·rw[List.getElem?_eq_none (by simpa using h)] at hx';cases hx')
 rw[List.getElem?_range hi] at hx';have hxe:f i=x:=by simpa using hx'
 obtain⟨g0,g1,-,-⟩:=hx i (by omega);rw[Addr.add_lit] at g0 g1;obtain⟨e0,e1,-⟩:=hf i hi;rw[<- hxe,<- e0,<- e1];exact⟨g0,by rw[Nat.add_assoc];exact g1⟩))
 ·(
 intro x hx';obtain⟨i,hi,rfl⟩:=List.mem_map.1 hx';exact (hf i (List.mem_range.1 hi)).2.2)))
theorem jl2{base:Nat}{v:Value}{d:DataW H}{ps:List MemPlace}(hok:Value.okWide Tryz.prog W .any base 24 v)(h:DataW.Trod enc Tryz.prog W 0 (fun _=>true) true 24 v d ps)(hw:∀ n∈d.weights Tryz.prog 24,n<=reachBytes):∃ s:Sc,v=s.val/\s.In W.heap.size W:=by
 obtain⟨cs,rfl,hcs⟩:=okWide_struct Tryz.underlying24 hok;rw[Tryz.cellsSch] at hcs;obtain⟨fuel,hf⟩:=h;obtain⟨xs,n,-,hx,-,hxl,hfs⟩:=DataW.trod_struct Tryz.underlying24 hf;obtain⟨cl⟩:=cs;match cl,hcs,xs,hxl with
 | [v0,v1],_,[y0,y1],_=>(
 have g0:=hfs 0 _ rfl;have g1:=hfs 1 _ rfl;simp[Tryz.cellsInt,Tryz.cellsSl,Value.cells] at g0 g1
 obtain⟨k,hk,-,-⟩:=DataW.trod_int Tryz.underlying3 g0;have hd:d = .agg [y0.1,y1.1]:=by simpa using (Prod.mk.inj hx).1
 obtain⟨A,c,l,hv,hin⟩:=jhe (SizeOf.sizeOf y1.1) y1.1 n v1 y1.2 (Nat.le_refl _) g1 (fun q hq=>hw q (by (
 rw[hd,DataW.weights,Tryz.underlying24];simp[DataW.weightsEach,hq])))
 have hk':v0 = .int .i64 k:=by simpa using hk
 exact⟨.mk k A c l,by rw[hk',hv];rfl,hin k⟩)
end
end S2
namespace V4
open Go.ChangeShapes Go.WideShapes Go.ChangeAt Go.RowKit Go.Deep
open C3 (Tk Nok)
theorem jft{α β:Type}{f:α->List β}{k:Nat}(hk:∀ x,(f x).length=k)(h0:0<k):∀ {l:List α} {p:Nat} {u:β},(l.flatMap f)[p]?=some u->∃ x,l[p / k]?=some x/\(f x)[p % k]?=some u
  | [],p,u,h=>by simp at h
  | x :: l,p,u,h=>by
    rw[List.flatMap_cons] at h
    by_cases hp:p<k
    · rw[List.getElem?_append_left (by rw[hk];exact hp)] at h
      refine⟨x,?_,by rw[Nat.mod_eq_of_lt hp];exact h⟩
      rw[Nat.div_eq_of_lt hp]
      rfl
    · rw[List.getElem?_append_right (by rw[hk];omega),hk] at h
      obtain⟨y,h1,h2⟩:=jft hk h0 h
      have e1:p / k=(p - k) / k+1:=by rw[Nat.div_eq_sub_div h0 (by omega)]
      have e2:p % k=(p - k) % k:=by rw[Nat.mod_eq_sub_mod (by omega)]
      exact⟨y,by rw[e1];simpa using h1,by rw[e2];exact h2⟩
theorem jlf{H:Type}{P:Program}{e:TypeId}{d:DataW H}{n:Nat}:∀ {ds:List (DataW H)},d∈ds->n∈d.weights P e->n∈DataW.weightsAll P e ds
  | x :: ds,h,hn=>by
    rw[DataW.weightsAll,List.mem_append]
    rcases List.mem_cons.1 h with rfl | h
    · exact .inl hn
    · exact .inr (jlf h hn)
section
variable {H:Type} {enc:TypeId×Value->H} {W:World}
theorem jbw{α:Type}[Inhabited α]{t e:TypeId}(k bytes:Nat)(f:α->List Value)(hk:∀ x,(f x).length=k)(h0:0<k)(ht:Tryz.prog.underlying t=some (.slice e))(hc:Tryz.prog.cellsOf e=k)(hby:Tryz.prog.bytesOf e=bytes)(Q:α->Prop){d:DataW H}{fuel:Nat}{v:Value}{ps:List MemPlace}(h:DataW.trod enc Tryz.prog W 0 (fun _=>true) true fuel t [v]=some (d,ps))(hw:∀ n∈d.weights Tryz.prog t,n<=reachBytes)(each:∀ (dd:DataW H) (fuel':Nat) (cs':List Value) (ps':List MemPlace),SizeOf.sizeOf dd<SizeOf.sizeOf d->cs'.length=k->DataW.trod enc Tryz.prog W 0 (fun _=>true) true fuel' e cs'=some (dd,ps')->(∀ n∈dd.weights Tryz.prog e,n<=reachBytes)->∃ x:α,cs'=f x/\Q x):∃ (A:Option Addr) (c:Nat) (l:List α),v = .slice A l.length c/\jzr (fun b=>b<W.heap.size) W A (l.flatMap f)/\(l.length<=c/\c<=maxLen/\l.length*bytes<=140737488351232)/\∀ x∈l,Q x:=by
 rcases open_slice ht h with ⟨h1,_⟩ | ⟨a,len,cap,mm,n,D,Pl,h1,hb,hl,hcm,hmm,h2,hx⟩
 ·(
 cases h1
 exact⟨none,0,[],rfl,.inl rfl,⟨by simp,by simp[maxLen],by simp⟩,by simp⟩)
 ·(
 cases h1
 rw[if_pos rfl] at hmm;subst hmm;have hd:d = .slice ((List.range len).map D) ((List.range (mm - len)).map fun j=>D (len+j)):=(Prod.mk.inj h2).1;have hel:∀ i,i<len->D i∈(List.range len).map D:=fun i hi=>List.mem_map.2 ⟨i,List.mem_range.2 hi,rfl⟩
 have hsz:len*bytes<=140737488351232:=by (
 have:=hw ((len+(mm - len))*bytes) (by rw[hd,DataW.weights,ht];simp[hby]);unfold reachBytes at this;have h3:len*bytes<=(len+(mm - len))*bytes:=Nat.mul_le_mul_right _ (by omega);omega)
 have all:∀ i,i<len->∃ x:α,W.cells? 0 (a.add (i*k)) k=some (f x)/\Q x:=by (
 intro i hi;obtain⟨cs',hcc,htr⟩:=hx i (by omega);rw[hc] at hcc;obtain⟨x,rfl,hq⟩:=each (D i) n cs' (Pl i) (by
   have h3:=List.sizeOf_lt_of_mem (hel i hi)
   rw[hd]
   simp
   omega) (World.cells?_some hcc).2.1 htr (fun q hq=>hw q (by
     rw[hd,DataW.weights,ht]
     exact List.mem_cons_of_mem _ (List.mem_append.2 (.inl (jlf (hel i hi) hq)))))
 exact⟨x,hcc,hq⟩)
 obtain⟨g,hg⟩:=choose_lt all;refine⟨some a,mm,(List.range len).map g,by simp,?_,⟨by simpa using hl,hcm,by simpa using hsz⟩,?_⟩
 ·(
 by_cases hz:len=0
 ·subst hz;exact .inl rfl
 ·(
 have hone:∀ i,i<len->∀ j u,(f (g i))[j]?=some u->W.cell? ((a.add (i*k)).add j)=some u:=by (
 intro i hi j u hu;have hjl:j<k:=by rw[<- hk (g i)];exact (List.getElem?_eq_some_iff.1 hu).1
 rw[(World.cells?_some (hg i hi).1).2.2 j hjl,hu])
 obtain⟨u0,hu0⟩:∃ u,(f (g 0))[0]?=some u:=⟨_,List.getElem?_eq_getElem (by rw[hk];exact h0)⟩
 have hc0:=hone 0 (by omega) 0 u0 hu0;obtain⟨b,off,spot⟩:=a;have hspot:spot=none:=by simpa[Addr.add] using World.cell?_spot hc0
 subst hspot;have hblt:b<W.heap.size:=World.block_lt_of_cell? W _ (by simpa[Addr.add] using hc0);refine .inr ⟨b,off,rfl,hblt,fun p u hu=>?_⟩;obtain⟨x,hx1,hx2⟩:=jft hk h0 hu;rw[List.getElem?_map] at hx1;have hi:p / k<len:=by (
 rcases Nat.lt_or_ge (p / k) len with h | h
 ·exact h
 ·rw[List.getElem?_eq_none (by simpa using h)] at hx1;cases hx1)
 rw[List.getElem?_range hi] at hx1;have hxe:g (p / k)=x:=by simpa using hx1
 have:=hone (p / k) hi (p % k) u (by rw[hxe];exact hx2);rw[Addr.add_lit,Addr.add_lit] at this;rw[<- this];congr 2
 have:=Nat.div_add_mod p k;rw[Nat.mul_comm] at this;omega))
 ·(
 intro x hx';obtain⟨i,hi,rfl⟩:=List.mem_map.1 hx';exact (hg i (List.mem_range.1 hi)).2))
end
end V4
namespace V4
open Go.ChangeShapes Go.WideShapes Go.ChangeAt Go.RowKit Go.Deep
open C3 (Tk Nok)
theorem Tryz.cInt:Tryz.prog.cellsOf 3=1:=by kernel_rfl
theorem Tryz.cU64:Tryz.prog.cellsOf 25=1:=by kernel_rfl
theorem Tryz.cStr:Tryz.prog.cellsOf 9=1:=by kernel_rfl
theorem Tryz.cTick:Tryz.prog.cellsOf 53=2:=by kernel_rfl
theorem Tryz.cTicks:Tryz.prog.cellsOf 54=1:=by kernel_rfl
theorem Tryz.cStrs:Tryz.prog.cellsOf 26=1:=by kernel_rfl
theorem Tryz.cClocks:Tryz.prog.cellsOf 27=1:=by kernel_rfl
theorem Tryz.cVals:Tryz.prog.cellsOf 28=1:=by kernel_rfl
theorem Tryz.cVal:Tryz.prog.cellsOf 30=5:=by kernel_rfl
theorem Tryz.bStr:Tryz.prog.bytesOf 9=16:=by kernel_rfl
theorem Tryz.bTick:Tryz.prog.bytesOf 53=16:=by kernel_rfl
theorem Tryz.bTicks:Tryz.prog.bytesOf 54=24:=by kernel_rfl
theorem Tryz.bVal:Tryz.prog.bytesOf 30=88:=by kernel_rfl
instance:Inhabited Tk:=⟨⟨0,0⟩⟩
instance:Inhabited Ck:=⟨⟨none,0,[]⟩⟩
instance:Inhabited Vl:=⟨.mk 0 0 none 0 [] none 0 [] none 0 []⟩
theorem jrv{n:Int}(h:(Lit.int .u64 n).wf=true):0<=n/\n<=18446744073709551615:=by
 simp[Lit.wf] at h
 have e1:IntKind.u64.min=0:=by decide
 have e2:IntKind.u64.max=18446744073709551615:=by decide
 omega
theorem jve{α β:Type}(f:α->β):∀ l:List α,l.flatMap (fun x=>[f x])=l.map f
  | []=>rfl
  | x :: l=>by rw[List.flatMap_cons,jve f l];rfl
theorem size_S(x:Str):(S x).size=x.length:=by simp[S,ByteArray.size]
section
variable {H:Type} {enc:TypeId×Value->H} {W:World}
theorem jon{d:DataW H}{fuel:Nat}{v:Value}{ps:List MemPlace}(h:DataW.trod enc Tryz.prog W 0 (fun _=>true) true fuel 26 [v]=some (d,ps))(hw:∀ n∈d.weights Tryz.prog 26,n<=reachBytes):∃ (A:Option Addr) (c:Nat) (l:List Str),v = .slice A l.length c/\jzr (fun b=>b<W.heap.size) W A (jxu l)/\(l.length<=c/\c<=maxLen/\l.length*16<=140737488351232)/\∀ s∈l,s.length<=maxLen:=by
 obtain⟨A,c,l,h1,h2,h3,h4⟩:=jbw 1 16 (fun s:Str=>[Value.string (S s)]) (fun _=>rfl) (by omega) Tryz.underlying26 Tryz.cStr Tryz.bStr (fun s=>s.length<=maxLen) h hw (by (
 intro dd fuel' cs' ps' _ _ htr _;obtain⟨s,hs,-,hsz⟩:=DataW.trod_string Tryz.underlying9 htr;obtain⟨x,rfl⟩:=S_of s;exact⟨x,hs,by rw[<- size_S];exact hsz⟩))
 refine⟨A,c,l,h1,?_,h3,h4⟩;have e:l.flatMap (fun s:Str=>[Value.string (S s)])=jxu l:=jve _ l;rwa [e] at h2
theorem joo{d:DataW H}{fuel:Nat}{v:Value}{ps:List MemPlace}(h:DataW.trod enc Tryz.prog W 0 (fun _=>true) true fuel 54 [v]=some (d,ps))(hw:∀ n∈d.weights Tryz.prog 54,n<=reachBytes):∃ x:Ck,v=x.v/\x.Inp (fun b=>b<W.heap.size) W:=by
 obtain⟨A,c,l,h1,h2,h3,h4⟩:=jbw 2 16 (fun x:Tk=>[Value.int .i64 x.k,Value.int .u64 x.n]) (fun _=>rfl) (by omega) Tryz.underlying54 Tryz.cTick Tryz.bTick (fun x=>0<=x.n/\x.n<=18446744073709551615) h hw (by (
 intro dd fuel' cs' ps' _ hl htr _;obtain⟨xs,n,-,-,-,hxl,hfs⟩:=DataW.trod_struct Tryz.underlying53 htr;match cs',hl,xs,hxl with
 | [v0,v1],_,[y0,y1],_=>(
 have g0:=hfs 0 _ rfl;have g1:=hfs 1 _ rfl;simp[Tryz.cInt,Tryz.cU64] at g0 g1
 obtain⟨k,hk,-,-⟩:=DataW.trod_int Tryz.underlying3 g0;obtain⟨m,hm,-,hwf⟩:=DataW.trod_int Tryz.underlying25 g1;have hk':v0 = .int .i64 k:=by simpa using hk
 have hm':v1 = .int .u64 m:=by simpa using hm
 exact⟨⟨k,m⟩,by rw[hk',hm'],jrv hwf⟩)))
 exact⟨⟨A,c,l⟩,h1,h2,h3.1,h3.2.1,h4,h3.2.2⟩
theorem jdj{d:DataW H}{fuel:Nat}{v:Value}{ps:List MemPlace}(h:DataW.trod enc Tryz.prog W 0 (fun _=>true) true fuel 27 [v]=some (d,ps))(hw:∀ n∈d.weights Tryz.prog 27,n<=reachBytes):∃ (A:Option Addr) (c:Nat) (l:List Ck),v = .slice A l.length c/\jzr (fun b=>b<W.heap.size) W A (jzm l)/\(l.length<=c/\c<=maxLen/\l.length*24<=140737488351232)/\∀ x∈l,x.Inp (fun b=>b<W.heap.size) W:=by
 obtain⟨A,c,l,h1,h2,h3,h4⟩:=jbw 1 24 (fun x:Ck=>[x.v]) (fun _=>rfl) (by omega) Tryz.underlying27 Tryz.cTicks Tryz.bTicks (fun x=>x.Inp (fun b=>b<W.heap.size) W) h hw (by (
 intro dd fuel' cs' ps' _ hl htr hww;match cs',hl with
 | [v0],_=>(
 obtain⟨x,hx,hi⟩:=joo htr hww;exact⟨x,by rw[hx],hi⟩)))
 refine⟨A,c,l,h1,?_,h3,h4⟩;have e:l.flatMap (fun x:Ck=>[x.v])=jzm l:=jve _ l;rwa [e] at h2
theorem jfh(m:Nat)(ih:∀ (d:DataW H) (fuel:Nat) (v:Value) (ps:List MemPlace),SizeOf.sizeOf d<m->DataW.trod enc Tryz.prog W 0 (fun _=>true) true fuel 28 [v]=some (d,ps)->(∀ n∈d.weights Tryz.prog 28,n<=reachBytes)->∃ (A:Option Addr) (c:Nat) (l:List Vl),v = .slice A l.length c/\jzr (fun b=>b<W.heap.size) W A (jzk l)/\(l.length<=c/\c<=maxLen/\l.length*88<=140737488351232)/\∀ x∈l,x.In W){d:DataW H}{fuel:Nat}{cs:List Value}{ps:List MemPlace}(hd:SizeOf.sizeOf d<=m)(hl:cs.length=5)(h:DataW.trod enc Tryz.prog W 0 (fun _=>true) true fuel 30 cs=some (d,ps))(hw:∀ n∈d.weights Tryz.prog 30,n<=reachBytes):∃ x:Vl,cs=[.int .u64 x.n,.int .u64 x.m,x.s1,x.c1,x.v1]/\x.In W:=by
 obtain⟨xs,n,-,hx,-,hxl,hfs⟩:=DataW.trod_struct Tryz.underlying30 h;match cs,hl,xs,hxl with
 | [v0,v1,v2,v3,v4],_,[y0,y1,y2,y3,y4],_=>(
 have g0:=hfs 0 _ rfl;have g1:=hfs 1 _ rfl;have g2:=hfs 2 _ rfl;have g3:=hfs 3 _ rfl;have g4:=hfs 4 _ rfl;simp[Tryz.cU64,Tryz.cStrs,Tryz.cClocks,Tryz.cVals] at g0 g1 g2 g3 g4
 have hd':d = .agg [y0.1,y1.1,y2.1,y3.1,y4.1]:=by simpa using (Prod.mk.inj hx).1
 have hwi:∀ q,(q∈y2.1.weights Tryz.prog 26\/q∈y3.1.weights Tryz.prog 27\/q∈y4.1.weights Tryz.prog 28)->q<=reachBytes:=fun q hq=>hw q (by (
 rw[hd',DataW.weights,Tryz.underlying30];rcases hq with h | h | h <;> simp[DataW.weightsEach,h]))
 obtain⟨a,ha,-,hwa⟩:=DataW.trod_int Tryz.underlying25 g0;obtain⟨b,hb,-,hwb⟩:=DataW.trod_int Tryz.underlying25 g1;obtain⟨sA,sc,ss,hs,s1,s2,s3⟩:=jon g2 (fun q hq=>hwi q (.inl hq));obtain⟨cA,cc,cs,hc,c1,c2,c3⟩:=jdj g3 (fun q hq=>hwi q (.inr (.inl hq)));obtain⟨vA,vc,vs,hv,w1,w2,w3⟩:=ih y4.1 n v4 y4.2 (by rw[hd'] at hd;simp at hd;omega) g4 (fun q hq=>hwi q (.inr (.inr hq)));have ha':v0 = .int .u64 a:=by simpa using ha
 have hb':v1 = .int .u64 b:=by simpa using hb
 exact⟨.mk a b sA sc ss cA cc cs vA vc vs,by rw[ha',hb',hs,hc,hv];rfl,.mk _ _ _ _ _ _ _ _ _ _ _ (jrv hwa) (jrv hwb) s1 s2 s3 c1 c2 c3 w1 w2 w3⟩)
theorem jvb(m:Nat):∀ (d:DataW H) (fuel:Nat) (v:Value) (ps:List MemPlace),SizeOf.sizeOf d<m->DataW.trod enc Tryz.prog W 0 (fun _=>true) true fuel 28 [v]=some (d,ps)->(∀ n∈d.weights Tryz.prog 28,n<=reachBytes)->∃ (A:Option Addr) (c:Nat) (l:List Vl),v = .slice A l.length c/\jzr (fun b=>b<W.heap.size) W A (jzk l)/\(l.length<=c/\c<=maxLen/\l.length*88<=140737488351232)/\∀ x∈l,x.In W:=by
 induction m with
 | zero=>intro d _ _ _ hm;omega
 | succ m ih=>(
 intro d fuel v ps hm h hw;obtain⟨A,c,l,h1,h2,h3,h4⟩:=jbw 5 88 (fun x:Vl=>[Value.int .u64 x.n,Value.int .u64 x.m,x.s1,x.c1,x.v1]) (fun _=>rfl) (by omega) Tryz.underlying28 Tryz.cVal Tryz.bVal (fun x=>x.In W) h hw (by (
 intro dd fuel' cs' ps' hlt hl htr hww;exact jfh m ih (by omega) hl htr hww))
 exact⟨A,c,l,h1,h2,h3,h4⟩)
theorem jym{base:Nat}{v:Value}{d:DataW H}{ps:List MemPlace}(hok:Value.okWide Tryz.prog W .any base 30 v)(h:DataW.Trod enc Tryz.prog W 0 (fun _=>true) true 30 v d ps)(hw:∀ n∈d.weights Tryz.prog 30,n<=reachBytes):∃ x:Vl,v=x.val/\x.In W:=by
 obtain⟨cs,rfl,hcs⟩:=okWide_struct Tryz.underlying30 hok;rw[Tryz.cVal] at hcs;obtain⟨fuel,hf⟩:=h;obtain⟨x,hx,hi⟩:=jfh (enc:=enc) (W:=W) (SizeOf.sizeOf d) (fun d' fuel v ps hlt h hw=>jvb (SizeOf.sizeOf d'+1) d' fuel v ps (by omega) h hw) (Nat.le_refl _) (by simpa[Value.cells] using hcs) hf hw;refine⟨x,?_,hi⟩;obtain⟨cl⟩:=cs;simp[Value.cells] at hx
 rw[hx];rfl
end
end V4
end Go.Proofs.YtobggoephhjofaaGreatDoor
