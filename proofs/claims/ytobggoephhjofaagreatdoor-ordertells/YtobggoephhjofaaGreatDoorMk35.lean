/- A part. No condition. -/
import Derived.Test.YtobggoephhjofaaGreatDoorMk32
import Derived.Test.YtobggoephhjofaaGreatDoorMk34
import Derived.Stop.Asserts
import Derived.LaidEql
set_option maxRecDepth 100000
set_option maxHeartbeats 16000000
namespace Go.Proofs.YtobggoephhjofaaGreatDoor
namespace J5
open Go.RowKit Go.Shelf
open C3 (Tk In jzk jzf)
open S2 (Sc Tr isT)
open V4 (Va Vl Ck isV jqv jzt jzh jzw jwr)
def RetK(w:World)(o:Except Int Va)(e:Ending)(w':World):Prop :=
  (∃ x:Vl,o = .ok x.er/\e = .returned (.tuple #[x.val,.nilIface])/\x.Inp (fun b=>w.heap.size<=b/\b<w'.heap.size) w'/\Below w.heap.size w w') \/
  (∃ n,o = .error n/\e = .returned (.tuple #[vlZ.val,jwz n])/\Below w.heap.size w w')
def jqb(t:Tr)(x y:Va):Except Int Va:=if isT 16 t=true then jhc t x y else .error 14
theorem jm2{t:Tr}{x y:Va}(h:(isT 16 t && isV t x)=false\/(isT 16 t && isV t y)=false):jqb t x y = .error 14:=by
 unfold jqb;split
 ·(
 rename_i ht
 rw[ht,Bool.true_and,Bool.true_and] at h;unfold jhc;rw[if_neg];rintro ⟨h1,h2⟩;rw[h1,h2] at h;simp at h)
 ·rfl
theorem jv9{t:Tr}{x y:Va}(h1:(isT 16 t && isV t x)=true)(h2:(isT 16 t && isV t y)=true):isT 16 t=true/\isV t x=true/\isV t y=true/\jqb t x y=match jzp t x y with | some z => .ok z | none => .error 13:=by
 rw[Bool.and_eq_true] at h1 h2;refine⟨h1.1,h1.2,h2.2,?_⟩;unfold jqb jhc;rw[if_pos h1.1,if_pos ⟨h1.2,h2.2⟩];cases jzp t x y <;> rfl
theorem jhk{w:World}{t:Tr}{x y:Va}{e:Ending}{w':World}(hF:jqb t x y=match jzp t x y with | some z => .ok z | none => .error 13)(h:jyi w (jzp t x y) e w'):RetK w (jqb t x y) e w':=by
 rw[hF];rcases h with ⟨z,ho,h⟩ | ⟨ho,h⟩
 ·rw[ho];exact .inl ⟨z,rfl,h⟩
 ·rw[ho];exact .inr ⟨13,rfl,h⟩
theorem Join_any(Q:Prop)(HP:Q->jwj)(s:Sc)(x y:Vl)(w:World)(hs:s.In w.heap.size w)(hx:x.In w)(hy:y.In w)(hq:isT 16 s.er=true->Q\/NoP s.er):Calls Tryz.prog 6 #[s.val,x.val,y.val] w (RetK w (jqb s.er x.er y.er)):=by
 obtain⟨p1,dC⟩:=exq ((isT 16 s.er && isV s.er x.er));obtain⟨p2,fT⟩:=exq ((isT 16 s.er && isV s.er y.er));have H1:=Lh (fun W (hb:Below w.heap.size w W)=>V4.jpl s x W (hs.later hb) (hx.later hb));have H2:=Lh (fun W (hb:Below w.heap.size w W)=>V4.jpl s y W (hs.later hb) (hy.later hb));have HJ:Hid (p1=true->p2=true->∀ W,Below w.heap.size w W->Calls Tryz.prog 21 #[s.val,x.val,y.val] W (jyi W (jzp s.er x.er y.er))):=fun e1 e2 W hb=>by (obtain⟨h1,h2,h3,_⟩:=jv9 (dC.trans e1) (fT.trans e2);exact join_any Q HP s 16 (Nat.le_refl _) h1 (hq h1) x y W (hs.later hb) (hx.later hb) (hy.later hb) (.inl h2) (.inl h3))
 rw[dC] at H1;rw[fT] at H2;have oa:Hid (p1=false\/p2=false->jqb s.er x.er y.er = .error 14):=fun h=>jm2 (h.imp (fun e=>dC.trans e) (fun e=>fT.trans e))
 have i7:Hid (p1=true->p2=true->jqb s.er x.er y.er=match jzp s.er x.er y.er with | some z => .ok z | none => .error 13):=fun e1 e2=>(jv9 (dC.trans e1) (fT.trans e2)).2.2.2
 obtain⟨R,hR⟩:=exq (RetK w (jqb s.er x.er y.er));have HR:=Lh hR;rw[hR];obtain⟨jo,ka⟩:=exq (jzp s.er x.er y.er);rw[ka] at HJ;have HJO:=Lh ka;obtain⟨s0,bz⟩:=exq (s);obtain⟨x0,cU⟩:=exq (x);obtain⟨y0,cN⟩:=exq (y);rw[bz,cU,cN] at oa i7 HR HJO;clear hs hx hy hq dC fT hR ka bz cU cN;obtain⟨k,A,c,l⟩:=s;obtain⟨n,m,sA,sc,ss,cA,cc,cs,vA,vc,vs⟩:=x;obtain⟨n',m',sA',sc',ss',cA',cc',cs',vA',vc',vs'⟩:=y;simp only[S2.jzh,jzh] at H1 H2 HJ;simp only[S2.jzh,jzh];obtain⟨V,hV⟩:=exq ((((w.alloc (.cells #[.int .i64 k,.slice A l.length c] 24)).alloc (.cells #[.int .u64 n,.int .u64 m,.slice sA ss.length sc,.slice cA cs.length cc,.slice vA vs.length vc] 30)).alloc (.cells #[.int .u64 n',.int .u64 m',.slice sA' ss'.length sc',.slice cA' cs'.length cc',.slice vA' vs'.length vc'] 30)).alloc (.cells #[.int .u64 0,.int .u64 0,.slice none 0 0,.slice none 0 0,.slice none 0 0] 30));obtain⟨q3,q4,q5,q6,ai,bz⟩:=jbu hV;have dm:w.heap.size+4<=V.heap.size:=by omega
 clear bz;obtain⟨e0,e1⟩:=blk2c q3;obtain⟨a0,a1,a2,a3,a4⟩:=blk5 q4;obtain⟨b0,b1,b2,b3,b4⟩:=blk5 q5;go_enter Tryz.func6,Tryz.ntmps6;go_wp2_with fail;refine (H1.out V ai).mono ?_;rintro e V1 ⟨rfl,af⟩;have eF:=ai.trans (af.mono ai.size);have fm:=af.size;replace q3:=q3.below af;replace q4:=q4.below af;replace q5:=q5.below af;replace q6:=q6.below af;clear e0 e1 a0 a1 a2 a3 a4 b0 b1 b2 b3 b4 hV H1;obtain⟨e0,e1⟩:=blk2c q3;obtain⟨a0,a1,a2,a3,a4⟩:=blk5 q4;obtain⟨b0,b1,b2,b3,b4⟩:=blk5 q5;cases p1 with
 | false=>(clear e0 e1 a0 a1 a2 a3 a4 b0 b1 b2 b3 b4;obtain⟨d0,d1,d2,d3,d4⟩:=blk5 q6;obtain⟨f0,f1,f2,f3,f4⟩:=fro5 q6;go_wp2_with fail;refine bodyPost_ret (rcv5 rfl _ _ (w.heap.size+1+1+1) (.int .u64 0) (.int .u64 0) (.slice none 0 0) (.slice none 0 0) (.slice none 0 0) rfl (jzc q6)) rfl ?_;rw[<- HR.out,oa.out (by simp)];exact .inr ⟨14,rfl,rfl,jzm eF (by omega)⟩)
 | true=>(
 go_wp2_with fail;refine (H2.out V1 eF).mono ?_;rintro e V2 ⟨rfl,ab⟩;have b9:=eF.trans (ab.mono eF.size);have de:=ab.size;replace q3:=q3.below ab;replace q4:=q4.below ab;replace q5:=q5.below ab;replace q6:=q6.below ab;clear e0 e1 a0 a1 a2 a3 a4 b0 b1 b2 b3 b4 H2;obtain⟨e0,e1⟩:=blk2c q3;obtain⟨a0,a1,a2,a3,a4⟩:=blk5 q4;obtain⟨b0,b1,b2,b3,b4⟩:=blk5 q5;cases p2 with
 | false=>(clear e0 e1 a0 a1 a2 a3 a4 b0 b1 b2 b3 b4;obtain⟨d0,d1,d2,d3,d4⟩:=blk5 q6;obtain⟨f0,f1,f2,f3,f4⟩:=fro5 q6;go_wp2_with fail;refine bodyPost_ret (rcv5 rfl _ _ (w.heap.size+1+1+1) (.int .u64 0) (.int .u64 0) (.slice none 0 0) (.slice none 0 0) (.slice none 0 0) rfl (jzc q6)) rfl ?_;rw[<- HR.out,oa.out (by simp)];exact .inr ⟨14,rfl,rfl,jzm b9 (by omega)⟩)
 | true=>(go_wp2_with fail;refine (HJ.out (by simp) (by simp) V2 b9).mono ?_;rintro e U hr;obtain⟨⟨zn,zm,zK,zL,zM,zN,zO,zP,zQ,zR,zS⟩,ev,rfl,a7,az,aB⟩:=jqx hr;simp only[jzh];have HZ:=Lh a7;have HC:=Lh aB;have q6U:=q6.below (W':=U) az;clear hr a7 aB e0 e1 a0 a1 a2 a3 a4 b0 b1 b2 b3 b4 q3 q4 q5;obtain⟨d0,d1,d2,d3,d4⟩:=blk5 q6U;obtain⟨f0,f1,f2,f3,f4⟩:=fro5 q6U;go_wp2_with fail;refine bodyPost_ret (rcv5 rfl _ _ (w.heap.size+1+1+1) (.int .u64 zn) (.int .u64 zm) (.slice zK zM.length zL) (.slice zN zP.length zO) (.slice zQ zS.length zR) rfl (jzc q6U)) rfl ?_;rw[<- HR.out];refine jhk (i7.out (by simp) (by simp)) ?_;rw[HJO.out];exact jjr b9 az (by omega) (by omega) HZ.out HC.out))
def RetQ(P:Nat->Prop)(w:World)(o:Except Int Va)(e:Ending)(w':World):Prop :=
  ∃ (z:Vl) (n:Int),e = .returned (.tuple #[z.val,.int .i64 n])/\z.Inp (fun k=>(P k\/w.heap.size<=k)/\k<w'.heap.size) w'/\Below w.heap.size w w'/\((o = .ok z.er/\n=0)\/(o = .error n/\(n=13\/n=14)/\z.er=Va.zero))
theorem jdm{P:Nat->Prop}{w w':World}{o:Except Int Va}{n:Int}(ho:o = .error n)(hn:n=13\/n=14)(hb:Below w.heap.size w w'):RetQ P w o (.returned (.tuple #[.agg #[.int .u64 0,.int .u64 0,.slice none 0 0,.slice none 0 0,.slice none 0 0],.int .i64 n])) w' :=
  ⟨vlZ,n,rfl,V4.jxy _ _,hb,.inr ⟨ho,hn,jp9⟩⟩
theorem jom{P:Nat->Prop}{w V U X:World}{o:Except Int Va}{D:Nat}{zn zm:Int}{zK:Option Addr}{zL:Nat}{zM:List Str}{zN:Option Addr}{zO:Nat}{zP:List Ck}{zQ:Option Addr}{zR:Nat}{zS:List Vl}(hP:∀ k,P k->k<w.heap.size)(ai:Below w.heap.size w V)(az:Below V.heap.size V U)(eE:Below U.heap.size U X)(hD:w.heap.size<=D)(eK:D<V.heap.size)
    (hi:(Vl.mk zn zm zK zL zM zN zO zP zQ zR zS).Inp (fun k=>(P k\/V.heap.size<=k)/\k<U.heap.size) U) (ho:o = .ok (Vl.mk zn zm zK zL zM zN zO zP zQ zR zS).er) :
    RetQ P w o (.returned (.tuple #[.agg #[.int .u64 zn,.int .u64 zm,.slice zK zM.length zL,.slice zN zP.length zO,.slice zQ zS.length zR],.int .i64 0])) (jz9 X D (.int .u64 zn) (.int .u64 zm) (.slice zK zM.length zL) (.slice zN zP.length zO) (.slice zQ zS.length zR)) :=
  ⟨_,0,rfl,(hi.keep fun b hb=>(jzn (by rcases hb.1 with h | h;(have:=hP b h;omega);omega)).trans (eE.block b hb.2)).mono fun b hb=>⟨hb.1.imp id (leT ai.size),ltl hb.2 (leT eE.size (Nat.le_of_eq jzu.symm))⟩,jzm (ai.trans ((az.trans (eE.mono az.size)).mono ai.size)) hD,.inl ⟨ho,rfl⟩⟩
theorem jcc(s:Sc)(P:Nat->Prop)(x y:Vl)(w:World)(hP:∀ k,P k->k<w.heap.size)(hs:s.In w.heap.size w)(hx:x.Inp P w)(hy:y.Inp P w):Calls Tryz.prog 7 #[s.val,x.val,y.val] w (RetQ P w (jqb s.er x.er y.er)):=by
 obtain⟨p1,dC⟩:=exq ((isT 16 s.er && isV s.er x.er));obtain⟨p2,fT⟩:=exq ((isT 16 s.er && isV s.er y.er));have H1:=Lh (fun W (hb:Below w.heap.size w W)=>V4.jfn s x W (hs.later hb) (V4.Vl.In.later (hx.mono hP) hb));have H2:=Lh (fun W (hb:Below w.heap.size w W)=>V4.jfn s y W (hs.later hb) (V4.Vl.In.later (hy.mono hP) hb));have HJ:Hid (p1=true->p2=true->∀ W,Below w.heap.size w W->Calls Tryz.prog 23 #[s.val,x.val,y.val] W (jp6 P W (jzp s.er x.er y.er))):=fun e1 e2 W hb=>by (obtain⟨h1,h2,h3,_⟩:=jv9 (dC.trans e1) (fT.trans e2);exact jdq s 16 (Nat.le_refl _) h1 P x y W (fun k hk=>ltl (hP k hk) hb.size) (hs.later hb) (hx.keep fun b h=>hb.block b (hP b h)) (hy.keep fun b h=>hb.block b (hP b h)) h2 h3)
 rw[dC] at H1;rw[fT] at H2;have oa:Hid (p1=false\/p2=false->jqb s.er x.er y.er = .error 14):=fun h=>jm2 (h.imp (fun e=>dC.trans e) (fun e=>fT.trans e))
 have i7:Hid (p1=true->p2=true->jqb s.er x.er y.er=match jzp s.er x.er y.er with | some z => .ok z | none => .error 13):=fun e1 e2=>(jv9 (dC.trans e1) (fT.trans e2)).2.2.2
 obtain⟨R,hR⟩:=exq (jqb s.er x.er y.er);rw[hR] at oa i7;rw[hR];obtain⟨jo,ka⟩:=exq (jzp s.er x.er y.er);rw[ka] at HJ i7;clear hs hx hy dC fT hR ka;obtain⟨k,A,c,l⟩:=s;obtain⟨n,m,sA,sc,ss,cA,cc,cs,vA,vc,vs⟩:=x;obtain⟨n',m',sA',sc',ss',cA',cc',cs',vA',vc',vs'⟩:=y;simp only[S2.jzh,jzh] at H1 H2 HJ;simp only[S2.jzh,jzh];obtain⟨V,hV⟩:=exq ((((w.alloc (.cells #[.int .i64 k,.slice A l.length c] 24)).alloc (.cells #[.int .u64 n,.int .u64 m,.slice sA ss.length sc,.slice cA cs.length cc,.slice vA vs.length vc] 30)).alloc (.cells #[.int .u64 n',.int .u64 m',.slice sA' ss'.length sc',.slice cA' cs'.length cc',.slice vA' vs'.length vc'] 30)).alloc (.cells #[.int .u64 0,.int .u64 0,.slice none 0 0,.slice none 0 0,.slice none 0 0] 30));obtain⟨q3,q4,q5,q6,ai,bz⟩:=jbu hV;have dm:w.heap.size+4<=V.heap.size:=by omega
 clear bz;obtain⟨e0,e1⟩:=blk2c q3;obtain⟨a0,a1,a2,a3,a4⟩:=blk5 q4;obtain⟨b0,b1,b2,b3,b4⟩:=blk5 q5;go_enter Tryz.func7,Tryz.ntmps7;go_wp2_with fail;refine (H1.out V ai).mono ?_;rintro e V1 ⟨rfl,af⟩;have eF:=ai.trans (af.mono ai.size);have fm:=af.size;replace q3:=q3.below af;replace q4:=q4.below af;replace q5:=q5.below af;replace q6:=q6.below af;clear e0 e1 a0 a1 a2 a3 a4 b0 b1 b2 b3 b4 hV H1;obtain⟨e0,e1⟩:=blk2c q3;obtain⟨a0,a1,a2,a3,a4⟩:=blk5 q4;obtain⟨b0,b1,b2,b3,b4⟩:=blk5 q5;cases p1 with
 | false=>(clear e0 e1 a0 a1 a2 a3 a4 b0 b1 b2 b3 b4;obtain⟨d0,d1,d2,d3,d4⟩:=blk5 q6;obtain⟨f0,f1,f2,f3,f4⟩:=fro5 q6;go_wp2_with fail;refine bodyPost_ret (rcv5 rfl _ _ (w.heap.size+1+1+1) (.int .u64 0) (.int .u64 0) (.slice none 0 0) (.slice none 0 0) (.slice none 0 0) rfl (jzc q6)) rfl ?_;exact jdm (oa.out (by simp)) (.inr rfl) (jzm eF (by omega)))
 | true=>(
 go_wp2_with fail;refine (H2.out V1 eF).mono ?_;rintro e V2 ⟨rfl,ab⟩;have b9:=eF.trans (ab.mono eF.size);have de:=ab.size;replace q3:=q3.below ab;replace q4:=q4.below ab;replace q5:=q5.below ab;replace q6:=q6.below ab;clear e0 e1 a0 a1 a2 a3 a4 b0 b1 b2 b3 b4 H2;obtain⟨e0,e1⟩:=blk2c q3;obtain⟨a0,a1,a2,a3,a4⟩:=blk5 q4;obtain⟨b0,b1,b2,b3,b4⟩:=blk5 q5;cases p2 with
 | false=>(clear e0 e1 a0 a1 a2 a3 a4 b0 b1 b2 b3 b4;obtain⟨d0,d1,d2,d3,d4⟩:=blk5 q6;obtain⟨f0,f1,f2,f3,f4⟩:=fro5 q6;go_wp2_with fail;refine bodyPost_ret (rcv5 rfl _ _ (w.heap.size+1+1+1) (.int .u64 0) (.int .u64 0) (.slice none 0 0) (.slice none 0 0) (.slice none 0 0) rfl (jzc q6)) rfl ?_;exact jdm (oa.out (by simp)) (.inr rfl) (jzm b9 (by omega)))
 | true=>(
 go_wp2_with fail;refine (HJ.out (by simp) (by simp) V2 b9).mono ?_;rintro e U ⟨⟨zn,zm,zK,zL,zM,zN,zO,zP,zQ,zR,zS⟩,bo,rfl,a7,az,aB⟩;simp only[jzh];replace i7:=Lh (i7.out (by simp) (by simp));have HZ:=Lh a7;have HC:=Lh aB;obtain⟨X,hX⟩:=exq (U.alloc (.cells #[.int .u64 zn,.int .u64 zm,.slice zK zM.length zL,.slice zN zP.length zO,.slice zQ zS.length zR] 30));have eE:Below U.heap.size U X:=by rw[<- hX];exact jzf _ _
 have qX:Blk X U.heap.size 30 #[.int .u64 zn,.int .u64 zm,.slice zK zM.length zL,.slice zN zP.length zO,.slice zQ zS.length zR]:=by rw[<- hX];exact Blk.new _ _ _
 have q6X:=(q6.below (W':=U) az).below eE;have lU:=qX.lt;clear a7 aB e0 e1 a0 a1 a2 a3 a4 b0 b1 b2 b3 b4 q3 q4 q5 q6;obtain⟨z0,z1,z2,z3,z4⟩:=blk5 qX;obtain⟨d0,d1,d2,d3,d4⟩:=blk5 q6X;obtain⟨f0,f1,f2,f3,f4⟩:=fro5 q6X;cases bo with
 | true=>(
 go_wp2_with fail;refine bodyPost_ret (rcv5 rfl _ _ (w.heap.size+1+1+1) (.int .u64 zn) (.int .u64 zm) (.slice zK zM.length zL) (.slice zN zP.length zO) (.slice zQ zS.length zR) rfl (jzc q6X)) rfl ?_;refine jom hP b9 az eE (by omega) (by omega) HZ.out ?_;rcases HC.out with ⟨-,h⟩ | ⟨h,-⟩
 ·rw[i7.out,h]
 ·cases h)
 | false=>(
 go_wp2_with fail;refine bodyPost_ret (rcv5 rfl _ _ (w.heap.size+1+1+1) (.int .u64 0) (.int .u64 0) (.slice none 0 0) (.slice none 0 0) (.slice none 0 0) rfl (jzc q6X)) rfl ?_;refine jdm ?_ (.inl rfl) (jzm (b9.trans ((az.trans (eE.mono az.size)).mono b9.size)) (by omega));rcases HC.out with ⟨h,-⟩ | ⟨-,h⟩
 ·cases h
 ·rw[i7.out,h])))
open V4 (Va Vl Ck isV jqv jzt jzj jzh jzw)
theorem ju8{W:World}{o:Except Int Va}{e:Ending}{W':World}(h:RetK W o e W'):∃ (x:Vl) (ev:Value),e = .returned (.tuple #[x.val,ev])/\x.Inp (fun b=>W.heap.size<=b/\b<W'.heap.size) W'/\Below W.heap.size W W'/\((o = .ok x.er/\ev = .nilIface)\/(∃ n,o = .error n/\x=vlZ/\ev=jwz n)):=by
 rcases h with ⟨x,ho,rfl,hi,hb⟩ | ⟨n,ho,rfl,hb⟩
 ·exact⟨x,_,rfl,hi,hb,.inl ⟨ho,rfl⟩⟩
 ·exact⟨vlZ,_,rfl,V4.jxy _ _,hb,.inr ⟨n,ho,rfl,rfl⟩⟩
open Go.RowKit Go.Shelf Go.Extern.Stop Go.Stop Go.Extern
theorem Tryz.eqTypeOf(v:Value)(w:World):(Extern.ReflectliteType.typeOf #[.iface 56 v]).run Tryz.prog w = .ok (.iface 112 (.agg #[.pointer (some ⟨2,56,none⟩)])) w:=by kernel_rfl
def cmpX : Array Value → Sem Value := Extern.ReflectliteType.method fun t => do Go.Extern.Rtype.noPackHeld "Comparable" t; pure (.bool (← typeInfo t).comparable)
theorem Tryz.eqComparable(w:World):(cmpX #[.agg #[.pointer (some ⟨2,56,none⟩)]]).run Tryz.prog w = .ok (.bool true) w:=by kernel_rfl
theorem Tryz.eqMethod (v : Value) (w : World) : (Go.method 351 112 v "Comparable").run Tryz.prog w = .ok (197, v) w := by kernel_rfl
theorem Tryz.eqComp:(Tryz.prog.info? 56).map (·.comparable)=some true:=by kernel_rfl
theorem Tryz.noIsN(v:Value)(xT:TypeId)(w:World):(Instr.typeAssert (.iface 56 v) xT 114 true).run Tryz.prog w = .ok (.tuple #[.nilIface,.bool false]) w:=run_typeAssert_lacksB Tryz.underlying114 (by kernel_rfl) (by kernel_rfl) v xT w
theorem Tryz.noUnwrapN(v:Value)(xT:TypeId)(w:World):(Instr.typeAssert (.iface 56 v) xT 117 true).run Tryz.prog w = .ok (.tuple #[.nilIface,.bool false]) w:=run_typeAssert_lacksB Tryz.underlying117 (by kernel_rfl) (by kernel_rfl) v xT w
theorem Tryz.noUnwrapsN(v:Value)(xT:TypeId)(w:World):(Instr.typeAssert (.iface 56 v) xT 119 true).run Tryz.prog w = .ok (.tuple #[.nilIface,.bool false]) w:=run_typeAssert_lacksB Tryz.underlying119 (by kernel_rfl) (by kernel_rfl) v xT w
theorem jmn(n m:Int)(w:World):(binOp .eql 33 (jwz n) (jwz m)).run Tryz.prog w = .ok (.bool (decide (n=m))) w:=by
 obtain⟨i,hi,hcmp⟩:=Option.map_eq_some_iff.1 Tryz.eqComp;have hu:=Tryz.underlying33;have he:=Tryz.underlying56;unfold jwz;have h:∀ d:Nat,(Op.equalIn (d+2) 33 (.iface 56 (.int .i64 n)) (.iface 56 (.int .i64 m))).run Tryz.prog w = .ok (decide (n=m)) w:=fun d=>by (
 simp[Op.equalIn,run_underlying hu,run_underlying he,typeInfo,hi,hcmp]
 rfl)
 simp only[binOp];simp[Op.equal,Op.maxDepth,h 9998]
theorem jtj(n m:Int)(w:World):Calls Tryz.prog 18 #[jwz n,jwz m] w (jz6 w (.bool (decide (n=m)))):=by
 have h25:=@run_callFunc_extern Tryz.prog 34 _ Extern.ReflectliteType.typeOf Tryz.func34 (by kernel_rfl) (by kernel_rfl) (by kernel_rfl) (by kernel_rfl);have qA:=@run_callFunc_extern Tryz.prog 197 _ cmpX Tryz.func197 (by kernel_rfl) (by kernel_rfl) (by kernel_rfl) (by kernel_rfl);have tT:=Tryz.eqTypeOf;have cT:=Tryz.eqComparable;have mR:=Tryz.eqMethod;have nE:=Tryz.noIsN;have uE:=Tryz.noUnwrapN;have vE:=Tryz.noUnwrapsN;have tB:=jmn n m w;obtain⟨q,hq⟩:=exq (decide (n=m));rw[hq] at tB;rw[hq];clear hq;unfold jwz at tB ⊢;cases q with
 | true=>(
 go_enter Tryz.func18,Tryz.ntmps18;go_wp2
 refine wp_loop_rounds 1 ?_;rw[rounds_succ];go_wp2
 go_ret;exact⟨rfl,Below.refl _ _⟩)
 | false=>(
 go_enter Tryz.func18,Tryz.ntmps18;go_wp2
 refine wp_loop_rounds 1 ?_;rw[rounds_succ];go_wp2
 go_ret;exact⟨rfl,Below.refl _ _⟩)
theorem is_nil(m:Int)(w:World):Calls Tryz.prog 18 #[.nilIface,jwz m] w (jz6 w (.bool false)):=by
 have hn:=run_eql_iface_nil_left (P:=Tryz.prog) w 56 (.int .i64 m) Tryz.underlying33;unfold jwz;go_enter Tryz.func18,Tryz.ntmps18;go_wp2
 go_ret;exact⟨rfl,Below.refl _ _⟩
end J5
namespace V4
open Go.RowKit Go.Shelf
open C3 (Tk isC jzk jqz jxt)
open S2 (Sc Tr isT jzf)
theorem tick_ok(p x:Int)(hp:0<=p/\p<=1000)(hx:1<=x):isC [⟨p,x⟩]=true:=by
 unfold C3.isC C3.bad;simp[C3.Asc]
 omega
end V4
namespace J5
open Go.RowKit Go.Shelf
open C3 (Tk isC jxt)
open S2 (Sc Tr isT)
open V4 (Va Vl Ck isV jqv ApR tick_ok)
theorem jo9{t:Tr}{x y:Va}(h:isV t x=false\/isV t y=false):jqb t x y = .error 14 :=
  jm2 (h.imp (fun h=>by rw[h,Bool.and_false]) (fun h=>by rw[h,Bool.and_false]))
theorem no_num{s:List Str}:isV (.mk 3 []) (.mk 1 0 s [] [])=false:=by
 cases h:isV (.mk 3 []) (.mk 1 0 s [] []) with
 | false=>rfl
 | true=>(obtain⟨t,e,_⟩:=jj0.1 h;cases e)
theorem kn_j2(x:Va):jqb (.mk 3 []) x (.mk 1 0 [] [] []) = .error 14:=jo9 (.inr no_num)
theorem jb1{k:Int}(h:k≠5):NoP (.mk k []) := .mk _ _ h (fun _ h=>by cases h)
open C3 (Tk In jzk jzf)
open V4 (Va Vl Ck isV jqv jzt jzh jzw jzd)
theorem jon{w V U:World}{o:Except Int Va}{D:Nat}{ev:Value}{zn zm:Int}{zK:Option Addr}{zL:Nat}{zM:List Str}{zN:Option Addr}{zO:Nat}{zP:List Ck}{zQ:Option Addr}{zR:Nat}{zS:List Vl}(ai:Below w.heap.size w V)(az:Below V.heap.size V U)(hD:w.heap.size<=D)(eK:D<V.heap.size)(hi:(Vl.mk zn zm zK zL zM zN zO zP zQ zR zS).Inp (fun b=>V.heap.size<=b/\b<U.heap.size) U)(hc:(o = .ok (Vl.mk zn zm zK zL zM zN zO zP zQ zR zS).er/\ev = .nilIface)\/(∃ n,o = .error n/\Vl.mk zn zm zK zL zM zN zO zP zQ zR zS=vlZ/\ev=jwz n)):RetK w o (.returned (.tuple #[.agg #[.int .u64 zn,.int .u64 zm,.slice zK zM.length zL,.slice zN zP.length zO,.slice zQ zS.length zR],ev])) (jz9 U D (.int .u64 zn) (.int .u64 zm) (.slice zK zM.length zL) (.slice zN zP.length zO) (.slice zQ zS.length zR)):=by
 have hb:Below w.heap.size w (jz9 U D (.int .u64 zn) (.int .u64 zm) (.slice zK zM.length zL) (.slice zN zP.length zO) (.slice zQ zS.length zR)):=jzm (ai.trans (az.mono ai.size)) hD;rcases hc with ⟨h1,h2⟩ | ⟨n,h1,h2,h3⟩
 ·(subst h2;refine .inl ⟨_,h1,rfl,(hi.keep fun b hP=>jzn (by have:=hP.1;omega)).mono fun b hP=>⟨by have:=hP.1;have:=ai.size;omega,?_⟩,hb⟩;exact ltl hP.2 (Nat.le_of_eq jzu.symm))
 ·(subst h3;refine .inr ⟨n,h1,?_,hb⟩;rw[<- h2];rfl)
def jp8(o:Except Int Va)(y:Va):Bool:=match o with | .ok z=>decide (z=y) | .error _=>false
def juo(o:Except Int Va):Value:=match o with | .ok _ => .nilIface | .error n=>if n=13 then .nilIface else jwz n
def cmpN(p q:Bool):Int:=match p,q with | true,true=>0 | true,false=>-1 | false,true=>1 | false,false=>2
def wghC(o:Except Int Va)(x y:Va):Int:=match o with | .ok z=>cmpN (decide (z=y)) (decide (z=x)) | .error n=>if n=13 then 2 else 0
theorem jjz(t:Tr)(x y:Va):(∃ z,jqb t x y = .ok z)\/jqb t x y = .error 13\/jqb t x y = .error 14:=by
 unfold jqb jhc;split
 ·(
 split
 ·(
 split
 ·exact .inl ⟨_,rfl⟩
 ·exact .inr (.inl rfl))
 ·exact .inr (.inr rfl))
 ·exact .inr (.inr rfl)
theorem by1_any(Q:Prop)(HP:Q->jwj)(s:Sc)(x y:Vl)(w:World)(hs:s.In w.heap.size w)(hx:x.In w)(hy:y.In w)(hq:isT 16 s.er=true->Q\/NoP s.er)(B:Nat)(hB:V4.Bxd w B #[.int .i64 s.k,s.v1]):Calls Tryz.prog 63 #[x.val,y.val,.pointer (some ⟨B,0,none⟩)] w (RetK w (jqb s.er x.er y.er)):=by
 have HJ:=Lh (fun W (hb:Below w.heap.size w W)=>Join_any Q HP s x y W (hs.later hb) (hx.later hb) (hy.later hb) hq);obtain⟨o,ho⟩:=exq (jqb s.er x.er y.er);rw[ho] at HJ;rw[ho];clear ho hs hx hy hq;obtain⟨k,A,c,l⟩:=s;obtain⟨n,m,sA,sc,ss,cA,cc,cs,vA,vc,vs⟩:=x;obtain⟨n',m',sA',sc',ss',cA',cc',cs',vA',vc',vs'⟩:=y;simp only[S2.jzh,jzh] at HJ;simp only[jzh];simp only[S2.Sc.k,S2.Sc.v1] at hB;obtain⟨V,hV⟩:=exq (((w.alloc (.cells #[.int .u64 n,.int .u64 m,.slice sA ss.length sc,.slice cA cs.length cc,.slice vA vs.length vc] 30)).alloc (.cells #[.int .u64 n',.int .u64 m',.slice sA' ss'.length sc',.slice cA' cs'.length cc',.slice vA' vs'.length vc'] 30)).alloc (.cells #[.int .u64 0,.int .u64 0,.slice none 0 0,.slice none 0 0,.slice none 0 0] 30));obtain⟨q4,q5,q6,ai,bz⟩:=jdd hV;have dm:w.heap.size+3<=V.heap.size:=by omega
 clear bz;have hBl:=hB.1;have e0:V.cell? ⟨B,0,none⟩=some (.int .i64 k):=(ai.cell (p:=⟨B,0,none⟩) hB.1).trans (hB.2 0 _ rfl);have e1:V.cell? ⟨B,1,none⟩=some (.slice A l.length c):=(ai.cell (p:=⟨B,1,none⟩) hB.1).trans (hB.2 1 _ rfl);clear hB;obtain⟨a0,a1,a2,a3,a4⟩:=blk5 q4;obtain⟨b0,b1,b2,b3,b4⟩:=blk5 q5;go_enter Tryz.func63,Tryz.ntmps63;go_wp2_with fail;refine (HJ.out V ai).mono ?_;rintro e U hr;obtain⟨⟨zn,zm,zK,zL,zM,zN,zO,zP,zQ,zR,zS⟩,ev,rfl,a7,az,aB⟩:=ju8 hr;simp only[jzh];have HZ:=Lh a7;have HC:=Lh aB;have q6U:=q6.below (W':=U) az;clear hr a7 aB e0 e1 a0 a1 a2 a3 a4 b0 b1 b2 b3 b4 q4 q5;obtain⟨d0,d1,d2,d3,d4⟩:=blk5 q6U;obtain⟨f0,f1,f2,f3,f4⟩:=fro5 q6U;go_wp2_with fail;refine bodyPost_ret (rcv5 rfl _ _ (w.heap.size+1+1) (.int .u64 zn) (.int .u64 zm) (.slice zK zM.length zL) (.slice zN zP.length zO) (.slice zQ zS.length zR) rfl (jzc q6U)) rfl ?_;exact jon ai az (by omega) (by omega) HZ.out HC.out
theorem by_any(k:Int)(A:Option Addr)(n c:Nat)(w:World):Calls Tryz.prog 32 #[.agg #[.int .i64 k,.slice A n c]] w (fun e w'=>∃ B,e = .returned (.func (.func 63) #[] #[.pointer (some ⟨B,0,none⟩)])/\V4.Bxd w' B #[.int .i64 k,.slice A n c]/\Below w.heap.size w w'):=by
 go_enter Tryz.func32,Tryz.ntmps32;go_wp2_with fail;go_ret;exact⟨w.heap.size,rfl,V4.Bxd.new,jzf _ _⟩
theorem jgb(Q:Prop)(HP:Q->jwj)(s:Sc)(x y:Vl)(w:World)(hs:s.In w.heap.size w)(hx:x.In w)(hy:y.In w)(hq:isT 16 s.er=true->Q\/NoP s.er)(B:Nat)(hB:V4.Bxd w B #[.int .i64 s.k,s.v1]):Calls Tryz.prog 31 #[x.val,y.val,.func (.func 63) #[] #[.pointer (some ⟨B,0,none⟩)],.func (.func 33) #[] #[]] w (jz6 w (.tuple #[.bool (jp8 (jqb s.er x.er y.er) y.er),.bool (jp8 (jqb s.er x.er y.er) x.er),juo (jqb s.er x.er y.er)])):=by
 have HJ:=Lh (fun W (hb:Below w.heap.size w W)=>by1_any Q HP s x y W (hs.later hb) (hx.later hb) (hy.later hb) hq B (hB.later hb));have qD:=Lh hx;have HYI:=Lh hy;have fq:=jjz s.er x.er y.er;obtain⟨o,ho⟩:=exq (jqb s.er x.er y.er);rw[ho] at HJ fq;rw[ho];have xw:=Lh fq;clear ho hs hx hy hq hB fq;obtain⟨P,hP⟩:=exq (jz6 w (.tuple #[.bool (jp8 o y.er),.bool (jp8 o x.er),juo o]));have s9:=Lh hP;rw[hP];clear hP;obtain⟨n,m,sA,sc,ss,cA,cc,cs,vA,vc,vs⟩:=x;obtain⟨n',m',sA',sc',ss',cA',cc',cs',vA',vc',vs'⟩:=y;simp only[jzh] at HJ;simp only[jzh];obtain⟨V,hV⟩:=exq ((w.alloc (.cells #[.int .u64 n,.int .u64 m,.slice sA ss.length sc,.slice cA cs.length cc,.slice vA vs.length vc] 30)).alloc (.cells #[.int .u64 n',.int .u64 m',.slice sA' ss'.length sc',.slice cA' cs'.length cc',.slice vA' vs'.length vc'] 30));obtain⟨q4,q5,ai,bz⟩:=blk2 hV;have dm:w.heap.size+2<=V.heap.size:=by omega
 clear bz;obtain⟨a0,a1,a2,a3,a4⟩:=blk5 q4;obtain⟨b0,b1,b2,b3,b4⟩:=blk5 q5;go_enter Tryz.func31,Tryz.ntmps31;go_wp2_with fail;refine (HJ.out V ai).mono ?_;clear HJ hV;rintro e U hr;obtain⟨⟨zn,zm,zK,zL,zM,zN,zO,zP,zQ,zR,zS⟩,ev,rfl,a7,az,aB⟩:=ju8 hr;simp only[jzh];have eL:=Lh a7;clear hr a7 a0 a1 a2 a3 a4 b0 b1 b2 b3 b4;obtain⟨X,hX⟩:=exq (U.alloc (.cells #[.int .u64 zn,.int .u64 zm,.slice zK zM.length zL,.slice zN zP.length zO,.slice zQ zS.length zR] 30));have eE:Below U.heap.size U X:=by rw[<- hX];exact jzf _ _
 have q6:Blk X U.heap.size 30 #[.int .u64 zn,.int .u64 zm,.slice zK zM.length zL,.slice zN zP.length zO,.slice zQ zS.length zR]:=by rw[<- hX];exact Blk.new _ _ _
 replace q4:=(q4.below az).below eE;replace q5:=(q5.below az).below eE;have ij:=ai.trans (az.mono ai.size);have dp:=ij.trans (eE.mono ij.size);have hlU:w.heap.size+2<=U.heap.size:=leT dm az.size;have ug:Hid ((Vl.mk zn zm zK zL zM zN zO zP zQ zR zS).In X):=(eL.out.keep fun b hP=>eE.block b hP.2).mono fun b hP=>ltl hP.2 eE.size
 clear eL;rcases aB with ⟨ho,rfl⟩ | ⟨n,ho,_,rfl⟩
 ·(
 have HO:=Lh ho;clear ho xw;have HI:=Lh (is_nil 13 X);unfold jwz at HI;go_wp2_with fail;refine HI.out.mono ?_;clear HI hX;rintro e X1 ⟨rfl,af⟩;replace q4:=q4.below af;replace q5:=q5.below af;replace q6:=q6.below af;have aD:=dp.trans (af.mono dp.size);have n7:Hid (∀ W,Below X1.heap.size X1 W->Calls Tryz.prog 33 #[.agg #[.int .u64 zn,.int .u64 zm,.slice zK zM.length zL,.slice zN zP.length zO,.slice zQ zS.length zR],.agg #[.int .u64 n',.int .u64 m',.slice sA' ss'.length sc',.slice cA' cs'.length cc',.slice vA' vs'.length vc']] W (jz6 W (.bool (decide ((Vl.mk zn zm zK zL zM zN zO zP zQ zR zS).er=(Vl.mk n' m' sA' sc' ss' cA' cc' cs' vA' vc' vs').er))))):=fun W hb=>V4.jb7 (Vl.mk zn zm zK zL zM zN zO zP zQ zR zS) (Vl.mk n' m' sA' sc' ss' cA' cc' cs' vA' vc' vs') W ((ug.out.later af).later hb) ((HYI.out.later aD).later hb)
 have n6:Hid (∀ W,Below X1.heap.size X1 W->Calls Tryz.prog 33 #[.agg #[.int .u64 zn,.int .u64 zm,.slice zK zM.length zL,.slice zN zP.length zO,.slice zQ zS.length zR],.agg #[.int .u64 n,.int .u64 m,.slice sA ss.length sc,.slice cA cs.length cc,.slice vA vs.length vc]] W (jz6 W (.bool (decide ((Vl.mk zn zm zK zL zM zN zO zP zQ zR zS).er=(Vl.mk n m sA sc ss cA cc cs vA vc vs).er))))):=fun W hb=>V4.jb7 (Vl.mk zn zm zK zL zM zN zO zP zQ zR zS) (Vl.mk n m sA sc ss cA cc cs vA vc vs) W ((ug.out.later af).later hb) ((qD.out.later aD).later hb)
 obtain⟨p1,dC⟩:=exq (decide ((Vl.mk zn zm zK zL zM zN zO zP zQ zR zS).er=(Vl.mk n' m' sA' sc' ss' cA' cc' cs' vA' vc' vs').er));obtain⟨p2,fT⟩:=exq (decide ((Vl.mk zn zm zK zL zM zN zO zP zQ zR zS).er=(Vl.mk n m sA sc ss cA cc cs vA vc vs).er));rw[dC] at n7;rw[fT] at n6;have bg:=Lh dC;have bf:=Lh fT;clear dC fT qD HYI ug;have m4:=q4.lt;obtain⟨a0,a1,a2,a3,a4⟩:=blk5 q4;have m5:=q5.lt;obtain⟨b0,b1,b2,b3,b4⟩:=blk5 q5;have m6:=q6.lt;obtain⟨d0,d1,d2,d3,d4⟩:=blk5 q6;go_upto_region 6 with fail
 refine wp_region_noPanic ?_;refine wp_region_held_drew (S:=(fun w'=>w'.cell? ⟨w.heap.size,0,none⟩=some (.int .u64 n)/\w'.cell? ⟨w.heap.size,1,none⟩=some (.int .u64 m)/\w'.cell? ⟨w.heap.size,2,none⟩=some (.slice sA ss.length sc)/\w'.cell? ⟨w.heap.size,3,none⟩=some (.slice cA cs.length cc)/\w'.cell? ⟨w.heap.size,4,none⟩=some (.slice vA vs.length vc)/\w'.cell? ⟨w.heap.size+1,0,none⟩=some (.int .u64 n')/\w'.cell? ⟨w.heap.size+1,1,none⟩=some (.int .u64 m')/\w'.cell? ⟨w.heap.size+1,2,none⟩=some (.slice sA' ss'.length sc')/\w'.cell? ⟨w.heap.size+1,3,none⟩=some (.slice cA' cs'.length cc')/\w'.cell? ⟨w.heap.size+1,4,none⟩=some (.slice vA' vs'.length vc')/\w'.cell? ⟨U.heap.size,0,none⟩=some (.int .u64 zn)/\w'.cell? ⟨U.heap.size,1,none⟩=some (.int .u64 zm)/\w'.cell? ⟨U.heap.size,2,none⟩=some (.slice zK zM.length zL)/\w'.cell? ⟨U.heap.size,3,none⟩=some (.slice zN zP.length zO)/\w'.cell? ⟨U.heap.size,4,none⟩=some (.slice zQ zS.length zR))) (by kernel_rfl) ?_ (fun hHeld=>?_)
 ·exact⟨a0,a1,a2,a3,a4,b0,b1,b2,b3,b4,d0,d1,d2,d3,d4⟩
 refine tkH 0 27 ?_;refine tkH 1 28 ?_;refine tkH 2 29 ?_;refine tkH 4 31 ?_;refine tkH 5 32 ?_;refine tkH 6 33 ?_;refine rdH 3 (fun K hK=>?_);go_simp;go_wp2_with (go_at_call 33;refine (n7.out X1.drew (Below.refl _ _).drew).mono ?_;rintro e T1 ⟨rfl,dh⟩;(have ea:Below X1.heap.size X1 T1:=(Below.refl _ X1).drew.trans dh;have kq:=ea.size;replace a0:=(ea.cell (p:=⟨w.heap.size,0,none⟩) m4).trans a0;replace a1:=(ea.cell (p:=⟨w.heap.size,1,none⟩) m4).trans a1;replace a2:=(ea.cell (p:=⟨w.heap.size,2,none⟩) m4).trans a2;replace a3:=(ea.cell (p:=⟨w.heap.size,3,none⟩) m4).trans a3;replace a4:=(ea.cell (p:=⟨w.heap.size,4,none⟩) m4).trans a4;replace b0:=(ea.cell (p:=⟨w.heap.size+1,0,none⟩) m5).trans b0;replace b1:=(ea.cell (p:=⟨w.heap.size+1,1,none⟩) m5).trans b1;replace b2:=(ea.cell (p:=⟨w.heap.size+1,2,none⟩) m5).trans b2;replace b3:=(ea.cell (p:=⟨w.heap.size+1,3,none⟩) m5).trans b3;replace b4:=(ea.cell (p:=⟨w.heap.size+1,4,none⟩) m5).trans b4;replace d0:=(ea.cell (p:=⟨U.heap.size,0,none⟩) m6).trans d0;replace d1:=(ea.cell (p:=⟨U.heap.size,1,none⟩) m6).trans d1;replace d2:=(ea.cell (p:=⟨U.heap.size,2,none⟩) m6).trans d2;replace d3:=(ea.cell (p:=⟨U.heap.size,3,none⟩) m6).trans d3;replace d4:=(ea.cell (p:=⟨U.heap.size,4,none⟩) m6).trans d4;clear dh))
 refine hK.out _ _ ?_ (fun hHeld=>?_)
 ·exact⟨a0,a1,a2,a3,a4,b0,b1,b2,b3,b4,d0,d1,d2,d3,d4⟩
 clear hK K;refine rdH 7 (fun K hK=>?_);go_simp;go_wp2_with (go_at_call 33;refine (n6.out T1 ea).mono ?_;rintro e T2 ⟨rfl,eQ⟩;(replace a0:=(eQ.cell (p:=⟨w.heap.size,0,none⟩) (ltl m4 kq)).trans a0;replace a1:=(eQ.cell (p:=⟨w.heap.size,1,none⟩) (ltl m4 kq)).trans a1;replace a2:=(eQ.cell (p:=⟨w.heap.size,2,none⟩) (ltl m4 kq)).trans a2;replace a3:=(eQ.cell (p:=⟨w.heap.size,3,none⟩) (ltl m4 kq)).trans a3;replace a4:=(eQ.cell (p:=⟨w.heap.size,4,none⟩) (ltl m4 kq)).trans a4;replace b0:=(eQ.cell (p:=⟨w.heap.size+1,0,none⟩) (ltl m5 kq)).trans b0;replace b1:=(eQ.cell (p:=⟨w.heap.size+1,1,none⟩) (ltl m5 kq)).trans b1;replace b2:=(eQ.cell (p:=⟨w.heap.size+1,2,none⟩) (ltl m5 kq)).trans b2;replace b3:=(eQ.cell (p:=⟨w.heap.size+1,3,none⟩) (ltl m5 kq)).trans b3;replace b4:=(eQ.cell (p:=⟨w.heap.size+1,4,none⟩) (ltl m5 kq)).trans b4;replace d0:=(eQ.cell (p:=⟨U.heap.size,0,none⟩) (ltl m6 kq)).trans d0;replace d1:=(eQ.cell (p:=⟨U.heap.size,1,none⟩) (ltl m6 kq)).trans d1;replace d2:=(eQ.cell (p:=⟨U.heap.size,2,none⟩) (ltl m6 kq)).trans d2;replace d3:=(eQ.cell (p:=⟨U.heap.size,3,none⟩) (ltl m6 kq)).trans d3;replace d4:=(eQ.cell (p:=⟨U.heap.size,4,none⟩) (ltl m6 kq)).trans d4))
 refine hK.out _ _ ?_ (fun hHeld=>?_)
 ·exact⟨a0,a1,a2,a3,a4,b0,b1,b2,b3,b4,d0,d1,d2,d3,d4⟩
 clear hK K;refine tkH 8 8 ?_;refine tkH 9 9 ?_;refine tkH 10 10 ?_;refine wpAnyH_done (by kernel_rfl) ?_ _;refine NoPanic.normal ?_;go_wp2_with fail;go_ret3;rw[<- s9.out];refine⟨?_,aD.trans ((ea.trans (eQ.mono ea.size)).mono aD.size)⟩;rw[HO.out];simp only[jp8,juo];rw[bg.out,bf.out];rfl)
 ·(
 clear qD HYI ug q4 q5 q6;have HO:=Lh ho;have HI:=Lh (jtj n 13 X);have hn:n=13\/n=14:=by (
 rcases xw.out with ⟨z,e⟩ | e | e
 ·rw[ho] at e;cases e
 ·rw[ho] at e;cases e;exact .inl rfl
 ·rw[ho] at e;cases e;exact .inr rfl)
 clear ho xw;unfold jwz at HI;unfold jwz;rcases hn with rfl | rfl
 ·(rw[decide_eq_true rfl] at HI;go_wp2_with fail;refine HI.out.mono ?_;clear HI hX;rintro e X1 ⟨rfl,af⟩;go_wp2_with fail;go_ret3;rw[<- s9.out];refine⟨?_,dp.trans (af.mono dp.size)⟩;rw[HO.out];rfl)
 ·(rw[decide_eq_false (by decide)] at HI;go_wp2_with fail;refine HI.out.mono ?_;clear HI hX;rintro e X1 ⟨rfl,af⟩;go_wp2_with fail;go_ret3;rw[<- s9.out];refine⟨?_,dp.trans (af.mono dp.size)⟩;rw[HO.out];rfl))
theorem jij(Q:Prop)(HP:Q->jwj)(s:Sc)(x y:Vl)(w:World)(hs:s.In w.heap.size w)(hx:x.In w)(hy:y.In w)(hq:isT 16 s.er=true->Q\/NoP s.er):Calls Tryz.prog 13 #[s.val,x.val,y.val] w (jz6 w (.tuple #[.bool (jp8 (jqb s.er x.er y.er) y.er),juo (jqb s.er x.er y.er)])):=by
 have HW:=Lh (fun B W (hb:Below w.heap.size w W) (hB:V4.Bxd W B #[.int .i64 s.k,s.v1])=>jgb Q HP s x y W (hs.later hb) (hx.later hb) (hy.later hb) hq B hB);have fq:=jjz s.er x.er y.er;obtain⟨o,ho⟩:=exq (jqb s.er x.er y.er);rw[ho] at HW fq;rw[ho];clear ho hs hx hy hq;obtain⟨p,hp⟩:=exq (jp8 o y.er);obtain⟨q,rt⟩:=exq (jp8 o x.er);obtain⟨ev,lk⟩:=exq (juo o);rw[hp,rt,lk] at HW;rw[hp,lk];clear hp rt lk fq;obtain⟨k,A,c,l⟩:=s;obtain⟨n,m,sA,sc,ss,cA,cc,cs,vA,vc,vs⟩:=x;obtain⟨n',m',sA',sc',ss',cA',cc',cs',vA',vc',vs'⟩:=y;simp only[jzh,S2.Sc.k,S2.Sc.v1] at HW;simp only[jzh,S2.jzh];obtain⟨V,hV⟩:=exq (((w.alloc (.cells #[.int .i64 k,.slice A l.length c] 24)).alloc (.cells #[.int .u64 n,.int .u64 m,.slice sA ss.length sc,.slice cA cs.length cc,.slice vA vs.length vc] 30)).alloc (.cells #[.int .u64 n',.int .u64 m',.slice sA' ss'.length sc',.slice cA' cs'.length cc',.slice vA' vs'.length vc'] 30));obtain⟨q3,q4,q5,ai,bz⟩:=jdd hV;have dm:w.heap.size+3<=V.heap.size:=by omega
 clear bz;obtain⟨e0,e1⟩:=blk2c q3;obtain⟨a0,a1,a2,a3,a4⟩:=blk5 q4;obtain⟨b0,b1,b2,b3,b4⟩:=blk5 q5;have l0:w.heap.size<V.heap.size:=by omega
 have l1:w.heap.size+1<V.heap.size:=by omega
 have l2:w.heap.size+1+1<V.heap.size:=by omega
 go_enter Tryz.func13,Tryz.ntmps13;go_upto_region 1 with fail
 refine wp_region_noPanic ?_;refine wp_region_held_drew (S:=(fun w'=>w'.cell? ⟨w.heap.size,0,none⟩=some (.int .i64 k)/\w'.cell? ⟨w.heap.size,1,none⟩=some (.slice A l.length c)/\w'.cell? ⟨w.heap.size+1,0,none⟩=some (.int .u64 n)/\w'.cell? ⟨w.heap.size+1,1,none⟩=some (.int .u64 m)/\w'.cell? ⟨w.heap.size+1,2,none⟩=some (.slice sA ss.length sc)/\w'.cell? ⟨w.heap.size+1,3,none⟩=some (.slice cA cs.length cc)/\w'.cell? ⟨w.heap.size+1,4,none⟩=some (.slice vA vs.length vc)/\w'.cell? ⟨w.heap.size+1+1,0,none⟩=some (.int .u64 n')/\w'.cell? ⟨w.heap.size+1+1,1,none⟩=some (.int .u64 m')/\w'.cell? ⟨w.heap.size+1+1,2,none⟩=some (.slice sA' ss'.length sc')/\w'.cell? ⟨w.heap.size+1+1,3,none⟩=some (.slice cA' cs'.length cc')/\w'.cell? ⟨w.heap.size+1+1,4,none⟩=some (.slice vA' vs'.length vc'))) (by kernel_rfl) ?_ (fun hHeld=>?_)
 ·exact⟨e0,e1,a0,a1,a2,a3,a4,b0,b1,b2,b3,b4⟩
 refine tkH 0 12 ?_;refine tkH 1 13 ?_;refine tkH 2 14 ?_;refine rdH 3 (fun K hK=>?_);go_simp;go_wp2_with (go_at_call 32;refine (by_any k A l.length c V.drew).mono ?_;rintro e U ⟨B,rfl,wM,gy⟩;(have az:Below V.heap.size V U:=(Below.refl _ V).drew.trans gy;have fv:=az.size;have ij:=ai.trans (az.mono ai.size);have wS:=Lh (HW.out B U ij wM);replace e0:=(az.cell (p:=⟨w.heap.size,0,none⟩) l0).trans e0;replace e1:=(az.cell (p:=⟨w.heap.size,1,none⟩) l0).trans e1;replace a0:=(az.cell (p:=⟨w.heap.size+1,0,none⟩) l1).trans a0;replace a1:=(az.cell (p:=⟨w.heap.size+1,1,none⟩) l1).trans a1;replace a2:=(az.cell (p:=⟨w.heap.size+1,2,none⟩) l1).trans a2;replace a3:=(az.cell (p:=⟨w.heap.size+1,3,none⟩) l1).trans a3;replace a4:=(az.cell (p:=⟨w.heap.size+1,4,none⟩) l1).trans a4;replace b0:=(az.cell (p:=⟨w.heap.size+1+1,0,none⟩) l2).trans b0;replace b1:=(az.cell (p:=⟨w.heap.size+1+1,1,none⟩) l2).trans b1;replace b2:=(az.cell (p:=⟨w.heap.size+1+1,2,none⟩) l2).trans b2;replace b3:=(az.cell (p:=⟨w.heap.size+1+1,3,none⟩) l2).trans b3;replace b4:=(az.cell (p:=⟨w.heap.size+1+1,4,none⟩) l2).trans b4;clear gy wM HW))
 refine hK.out _ _ ?_ (fun hHeld=>?_)
 ·exact⟨e0,e1,a0,a1,a2,a3,a4,b0,b1,b2,b3,b4⟩
 clear hK K;refine rdH 4 (fun K hK=>?_);go_simp;go_wp2_with (go_at_call 31;refine wS.out.mono ?_;rintro e T ⟨rfl,dh⟩;(replace e0:=(dh.cell (p:=⟨w.heap.size,0,none⟩) (ltl l0 fv)).trans e0;replace e1:=(dh.cell (p:=⟨w.heap.size,1,none⟩) (ltl l0 fv)).trans e1;replace a0:=(dh.cell (p:=⟨w.heap.size+1,0,none⟩) (ltl l1 fv)).trans a0;replace a1:=(dh.cell (p:=⟨w.heap.size+1,1,none⟩) (ltl l1 fv)).trans a1;replace a2:=(dh.cell (p:=⟨w.heap.size+1,2,none⟩) (ltl l1 fv)).trans a2;replace a3:=(dh.cell (p:=⟨w.heap.size+1,3,none⟩) (ltl l1 fv)).trans a3;replace a4:=(dh.cell (p:=⟨w.heap.size+1,4,none⟩) (ltl l1 fv)).trans a4;replace b0:=(dh.cell (p:=⟨w.heap.size+1+1,0,none⟩) (ltl l2 fv)).trans b0;replace b1:=(dh.cell (p:=⟨w.heap.size+1+1,1,none⟩) (ltl l2 fv)).trans b1;replace b2:=(dh.cell (p:=⟨w.heap.size+1+1,2,none⟩) (ltl l2 fv)).trans b2;replace b3:=(dh.cell (p:=⟨w.heap.size+1+1,3,none⟩) (ltl l2 fv)).trans b3;replace b4:=(dh.cell (p:=⟨w.heap.size+1+1,4,none⟩) (ltl l2 fv)).trans b4;clear wS))
 refine hK.out _ _ ?_ (fun hHeld=>?_)
 ·exact⟨e0,e1,a0,a1,a2,a3,a4,b0,b1,b2,b3,b4⟩
 clear hK K;refine tkH 5 11 ?_;refine tkH 6 17 ?_;refine tkH 7 18 ?_;refine tkH 8 19 ?_;refine tkH 9 8 ?_;refine tkH 10 9 ?_;refine tkH 11 10 ?_;refine wpAnyH_done (by kernel_rfl) ?_ _;refine NoPanic.normal ?_;have eh:=ij.trans (dh.mono ij.size);clear e0 e1 a0 a1 a2 a3 a4 b0 b1 b2 b3 b4;go_wp2_with fail;go_ret2;exact⟨by simp,eh⟩
theorem jpn(Q:Prop)(HP:Q->jwj)(s:Sc)(x y:Vl)(w:World)(hs:s.In w.heap.size w)(hx:x.In w)(hy:y.In w)(hq:isT 16 s.er=true->Q\/NoP s.er):Calls Tryz.prog 15 #[s.val,x.val,y.val] w (jz6 w (.tuple #[.int .i64 (wghC (jqb s.er x.er y.er) x.er y.er),juo (jqb s.er x.er y.er)])):=by
 have HW:=Lh (fun B W (hb:Below w.heap.size w W) (hB:V4.Bxd W B #[.int .i64 s.k,s.v1])=>jgb Q HP s x y W (hs.later hb) (hx.later hb) (hy.later hb) hq B hB);have fq:=jjz s.er x.er y.er;obtain⟨o,ho⟩:=exq (jqb s.er x.er y.er);rw[ho] at HW fq;rw[ho];clear ho hs hx hy hq;obtain⟨p,hp⟩:=exq (jp8 o y.er);obtain⟨q,rt⟩:=exq (jp8 o x.er);obtain⟨ev,lk⟩:=exq (juo o);rw[hp,rt,lk] at HW;rw[lk];obtain⟨cv,wv⟩:=exq (wghC o x.er y.er);rw[wv];have lG:Hid ((ev = .nilIface/\cv=cmpN p q)\/(ev = .iface 56 (.int .i64 14)/\cv=0)):=by (
 rcases fq with ⟨z,rfl⟩ | rfl | rfl
 ·left;rw[<- hp,<- rt,<- lk,<- wv];exact⟨rfl,rfl⟩
 ·left;rw[<- hp,<- rt,<- lk,<- wv];exact⟨rfl,rfl⟩
 ·right;rw[<- lk,<- wv];exact⟨rfl,rfl⟩)
 clear hp rt lk fq wv;obtain⟨k,A,c,l⟩:=s;obtain⟨n,m,sA,sc,ss,cA,cc,cs,vA,vc,vs⟩:=x;obtain⟨n',m',sA',sc',ss',cA',cc',cs',vA',vc',vs'⟩:=y;simp only[jzh,S2.Sc.k,S2.Sc.v1] at HW;simp only[jzh,S2.jzh];obtain⟨V,hV⟩:=exq (((w.alloc (.cells #[.int .i64 k,.slice A l.length c] 24)).alloc (.cells #[.int .u64 n,.int .u64 m,.slice sA ss.length sc,.slice cA cs.length cc,.slice vA vs.length vc] 30)).alloc (.cells #[.int .u64 n',.int .u64 m',.slice sA' ss'.length sc',.slice cA' cs'.length cc',.slice vA' vs'.length vc'] 30));obtain⟨q3,q4,q5,ai,bz⟩:=jdd hV;have dm:w.heap.size+3<=V.heap.size:=by omega
 clear bz;obtain⟨e0,e1⟩:=blk2c q3;obtain⟨a0,a1,a2,a3,a4⟩:=blk5 q4;obtain⟨b0,b1,b2,b3,b4⟩:=blk5 q5;have l0:w.heap.size<V.heap.size:=by omega
 have l1:w.heap.size+1<V.heap.size:=by omega
 have l2:w.heap.size+1+1<V.heap.size:=by omega
 go_enter Tryz.func15,Tryz.ntmps15;go_upto_region 1 with fail
 refine wp_region_noPanic ?_;refine wp_region_held_drew (S:=(fun w'=>w'.cell? ⟨w.heap.size,0,none⟩=some (.int .i64 k)/\w'.cell? ⟨w.heap.size,1,none⟩=some (.slice A l.length c)/\w'.cell? ⟨w.heap.size+1,0,none⟩=some (.int .u64 n)/\w'.cell? ⟨w.heap.size+1,1,none⟩=some (.int .u64 m)/\w'.cell? ⟨w.heap.size+1,2,none⟩=some (.slice sA ss.length sc)/\w'.cell? ⟨w.heap.size+1,3,none⟩=some (.slice cA cs.length cc)/\w'.cell? ⟨w.heap.size+1,4,none⟩=some (.slice vA vs.length vc)/\w'.cell? ⟨w.heap.size+1+1,0,none⟩=some (.int .u64 n')/\w'.cell? ⟨w.heap.size+1+1,1,none⟩=some (.int .u64 m')/\w'.cell? ⟨w.heap.size+1+1,2,none⟩=some (.slice sA' ss'.length sc')/\w'.cell? ⟨w.heap.size+1+1,3,none⟩=some (.slice cA' cs'.length cc')/\w'.cell? ⟨w.heap.size+1+1,4,none⟩=some (.slice vA' vs'.length vc'))) (by kernel_rfl) ?_ (fun hHeld=>?_)
 ·exact⟨e0,e1,a0,a1,a2,a3,a4,b0,b1,b2,b3,b4⟩
 refine tkH 0 12 ?_;refine tkH 1 13 ?_;refine tkH 2 14 ?_;refine rdH 3 (fun K hK=>?_);go_simp;go_wp2_with (go_at_call 32;refine (by_any k A l.length c V.drew).mono ?_;rintro e U ⟨B,rfl,wM,gy⟩;(have az:Below V.heap.size V U:=(Below.refl _ V).drew.trans gy;have fv:=az.size;have ij:=ai.trans (az.mono ai.size);have wS:=Lh (HW.out B U ij wM);replace e0:=(az.cell (p:=⟨w.heap.size,0,none⟩) l0).trans e0;replace e1:=(az.cell (p:=⟨w.heap.size,1,none⟩) l0).trans e1;replace a0:=(az.cell (p:=⟨w.heap.size+1,0,none⟩) l1).trans a0;replace a1:=(az.cell (p:=⟨w.heap.size+1,1,none⟩) l1).trans a1;replace a2:=(az.cell (p:=⟨w.heap.size+1,2,none⟩) l1).trans a2;replace a3:=(az.cell (p:=⟨w.heap.size+1,3,none⟩) l1).trans a3;replace a4:=(az.cell (p:=⟨w.heap.size+1,4,none⟩) l1).trans a4;replace b0:=(az.cell (p:=⟨w.heap.size+1+1,0,none⟩) l2).trans b0;replace b1:=(az.cell (p:=⟨w.heap.size+1+1,1,none⟩) l2).trans b1;replace b2:=(az.cell (p:=⟨w.heap.size+1+1,2,none⟩) l2).trans b2;replace b3:=(az.cell (p:=⟨w.heap.size+1+1,3,none⟩) l2).trans b3;replace b4:=(az.cell (p:=⟨w.heap.size+1+1,4,none⟩) l2).trans b4;clear gy wM HW))
 refine hK.out _ _ ?_ (fun hHeld=>?_)
 ·exact⟨e0,e1,a0,a1,a2,a3,a4,b0,b1,b2,b3,b4⟩
 clear hK K;refine rdH 4 (fun K hK=>?_);go_simp;go_wp2_with (go_at_call 31;refine wS.out.mono ?_;rintro e T ⟨rfl,dh⟩;(replace e0:=(dh.cell (p:=⟨w.heap.size,0,none⟩) (ltl l0 fv)).trans e0;replace e1:=(dh.cell (p:=⟨w.heap.size,1,none⟩) (ltl l0 fv)).trans e1;replace a0:=(dh.cell (p:=⟨w.heap.size+1,0,none⟩) (ltl l1 fv)).trans a0;replace a1:=(dh.cell (p:=⟨w.heap.size+1,1,none⟩) (ltl l1 fv)).trans a1;replace a2:=(dh.cell (p:=⟨w.heap.size+1,2,none⟩) (ltl l1 fv)).trans a2;replace a3:=(dh.cell (p:=⟨w.heap.size+1,3,none⟩) (ltl l1 fv)).trans a3;replace a4:=(dh.cell (p:=⟨w.heap.size+1,4,none⟩) (ltl l1 fv)).trans a4;replace b0:=(dh.cell (p:=⟨w.heap.size+1+1,0,none⟩) (ltl l2 fv)).trans b0;replace b1:=(dh.cell (p:=⟨w.heap.size+1+1,1,none⟩) (ltl l2 fv)).trans b1;replace b2:=(dh.cell (p:=⟨w.heap.size+1+1,2,none⟩) (ltl l2 fv)).trans b2;replace b3:=(dh.cell (p:=⟨w.heap.size+1+1,3,none⟩) (ltl l2 fv)).trans b3;replace b4:=(dh.cell (p:=⟨w.heap.size+1+1,4,none⟩) (ltl l2 fv)).trans b4;clear wS))
 refine hK.out _ _ ?_ (fun hHeld=>?_)
 ·exact⟨e0,e1,a0,a1,a2,a3,a4,b0,b1,b2,b3,b4⟩
 clear hK K;refine tkH 5 11 ?_;refine tkH 6 17 ?_;refine tkH 7 18 ?_;refine tkH 8 19 ?_;refine tkH 9 8 ?_;refine tkH 10 9 ?_;refine tkH 11 10 ?_;refine wpAnyH_done (by kernel_rfl) ?_ _;refine NoPanic.normal ?_;have eh:=ij.trans (dh.mono ij.size);clear e0 e1 a0 a1 a2 a3 a4 b0 b1 b2 b3 b4;rcases lG.out with ⟨h1,h2⟩ | ⟨h1,h2⟩
 ·(
 subst h1;subst h2;clear lG;cases p with
 | true=>(
 cases q with
 | true=>(go_wp2_with fail;go_ret2;exact⟨rfl,eh⟩)
 | false=>(go_wp2_with fail;go_ret2;exact⟨rfl,eh⟩))
 | false=>(
 cases q with
 | true=>(go_wp2_with fail;go_ret2;exact⟨rfl,eh⟩)
 | false=>(go_wp2_with fail;go_ret2;exact⟨rfl,eh⟩)))
 ·(subst h1;subst h2;clear lG;go_wp2_with fail;go_ret2;exact⟨rfl,eh⟩)
end J5
end Go.Proofs.YtobggoephhjofaaGreatDoor
