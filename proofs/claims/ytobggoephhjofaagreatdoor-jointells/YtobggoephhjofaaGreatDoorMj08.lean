/- A part. No condition. -/
import Derived.Test.YtobggoephhjofaaGreatDoorMj07
import Derived.RangeFuncNested
import Derived.RangeFuncBound
import Derived.RangeFuncCalls
import Derived.RangeFuncLeaves
import Derived.Shelf.Abstract
import Derived.Shelf.RegionOpen
import Derived.OwnWalkIn
import Derived.TacticsInMore
import Derived.LoopNIn
import Derived.LoopIn
import Derived.Sort.QuietIn
set_option maxRecDepth 100000
set_option maxHeartbeats 16000000
namespace Go.Proofs.YtobggoephhjofaaGreatDoor
namespace C3
open Go.RowKit
theorem jg6{l:List Tk}{i:Nat}{x:Tk}(hx:l[i]?=some x):l.drop i=x :: l.drop (i+1):=by
 obtain⟨hi,he⟩:=List.getElem?_eq_some_iff.1 hx;rw[List.drop_eq_getElem_cons hi,he]
def jj6(d:Bool)(l:List Tk)(q n:Int):List Tk:=if d then l else jqw l q n
theorem jfd{l ys:List Tk}{W:List Tk}{k:Nat}{x:Tk}{q n:Int}(h:W=ys++jj6 true (l.drop k) q n)(hx:l[k]?=some x):W=(ys++[x])++jj6 true (l.drop (k+1)) q n:=by
 rw[h,jg6 hx];simp[jj6]
theorem jlv{l ys:List Tk}{W:List Tk}{k:Nat}{x:Tk}{q n:Int}(h:W=ys++jj6 false (l.drop k) q n)(hx:l[k]?=some x)(hlt:x.k<q):W=(ys++[x])++jj6 false (l.drop (k+1)) q n:=by
 rw[h,jg6 hx];simp[jj6,jqw,hlt]
theorem jlx{l ys:List Tk}{W:List Tk}{k:Nat}{x:Tk}{q n:Int}(h:W=ys++jj6 false (l.drop k) q n)(hx:l[k]?=some x)(hlt:x.k=q):W=(ys++[⟨q,max n x.n⟩])++jj6 true (l.drop (k+1)) q n:=by
 rw[h,jg6 hx];simp[jj6,jqw,hlt]
theorem jlw{l ys:List Tk}{W:List Tk}{k:Nat}{x:Tk}{q n:Int}(h:W=ys++jj6 false (l.drop k) q n)(hx:l[k]?=some x)(hlt:q<x.k):W=((ys++[⟨q,n⟩])++[x])++jj6 true (l.drop (k+1)) q n:=by
 rw[h,jg6 hx,jj6,if_neg (by simp),jqw,if_neg (by omega),if_neg (by omega)];simp[jj6]
theorem jqg.new{w:World}{x:Tk}{t:TypeId}:jqg (w.heap.size+1) (w.alloc (.cells #[.int .i64 x.k,.int .u64 x.n] t)) (some ⟨w.heap.size,0,none⟩) [x] :=
  jqg.one (by omega) (by simp) (by simp)
theorem jox{ys:List Tk}{x:Tk}(h:ys.length<=100000):ys.length+[x].length<=1000000:=by simp;omega
theorem jta{ys:List Tk}{x:Tk}{m:Nat}(h:ys.length+1<=m):(ys++[x]).length<=m:=by simp;omega
theorem jdf(A:Option Addr)(c:Nat)(l:List Tk)(q n:Int)(w:World)(h:In w A c l)(hn:n≠0)(hn0:0<=n)(hn1:n<=18446744073709551615)(hlen:l.length<=1000):Calls Tryz.prog 97 #[.slice A l.length c,.int .i64 q,.int .u64 n] w (jrj w (jqw l q n)):=by
 obtain⟨hl,-,-,hnok⟩:=h;have HN:Hid (Nok (jqw l q n)):=jui hnok ⟨hn0,hn1⟩;have hnb:(n == 0)=false:=by simp[hn]
 clear hnok hn;go_enter Tryz.func97,Tryz.ntmps97;go_wp2_with fail;go_loopw [7,8,9] (fun ov dv iv wr=>∃ (k:Nat) (d:Bool) (ys:List Tk),k<=l.length/\iv = .int .i64 k/\dv = .bool d/\ys.length<=2*k/\jwa wr w.heap.size ov ys/\Hid (jqw l q n=ys++jj6 d (l.drop k) q n)/\Below w.heap.size w wr) (fun _ _ iv _=>l.length - (intOf iv).toNat)
 case atStart=>exact⟨0,false,[],Nat.zero_le _,rfl,rfl,by simp,jwa.nil _ _,by simp[Hid,jj6],Below.refl _ _⟩
 case round=>(
 obtain⟨k,d,ys,hk,rfl,rfl,hyk,hown,h0,hbw⟩:=hrel;by_cases hlt:k<l.length
 ·(
 obtain⟨b,off,rfl,hb,hc⟩:=hl.get hlt;obtain⟨x,hx⟩:∃ x,l[k]?=some x:=⟨_,List.getElem?_eq_getElem hlt⟩
 obtain⟨x0,x1⟩:=hc k x hx;have HX:=Lh hx;have hc0:=(hbw.cell (p:=⟨b,off+k*2,none⟩) hb).trans x0;have hc1:=(hbw.cell (p:=⟨b,off+k*2+1,none⟩) hb).trans x1;have HC0:=Lh x0;have HC1:=Lh x1;clear hx hc hl x0 x1;obtain⟨xk,xn⟩:=x;dsimp only at hc0 hc1 HC0 HC1
 have hbb:b<wr.heap.size:=ltl hb hbw.size;cases d with
 | true=>(
 have HO:=Lh (hown.below (jzf (wr) (.cells #[.int .i64 xk,.int .u64 xn] 53)));have HBA:Hid (Below w.heap.size w (wr.alloc (.cells #[.int .i64 xk,.int .u64 xn] 53))):=(jzj hbw);clear hown hbw;go_wp2_with (at_builtin;refine jz2 _ rfl (.tmp 59) (.tmp 64) 54 rfl w.heap.size Tryz.underlying54 _ ys rfl HO.out (wr.heap.size+1) (some ⟨wr.heap.size,0,none⟩) 1 1 [⟨xk,xn⟩] rfl rfl (jqg.one (by omega) (by simp) (by simp)) (jox (by omega)) HBA.out.size ?_;intro v2 w2 hown3 hg3 _;have hbw5:Below w.heap.size w w2:=HBA.out.grown hg3 HBA.out.size (fun k hk=>(World.ownsRow.lt HO.out k hk).1);clear hg3)
 go_roundw
 case rel=>exact⟨k+1,true,ys++[⟨xk,xn⟩],by omega,by go_num,rfl,by simp;omega,hown3,jfd h0.out HX.out,hbw5⟩
 case measure=>simp[intOf];omega)
 | false=>(
 by_cases c1:xk<q
 ·(
 have HO:=Lh (hown.below (jzf (wr) (.cells #[.int .i64 xk,.int .u64 xn] 53)));have HBA:Hid (Below w.heap.size w (wr.alloc (.cells #[.int .i64 xk,.int .u64 xn] 53))):=(jzj hbw);have HC:=Lh c1;have d1:decide (q<=xk)=false:=decide_eq_false (by omega);clear hown hbw c1;go_wp2_with (at_builtin;refine jz2 _ rfl (.tmp 59) (.tmp 64) 54 rfl w.heap.size Tryz.underlying54 _ ys rfl HO.out (wr.heap.size+1) (some ⟨wr.heap.size,0,none⟩) 1 1 [⟨xk,xn⟩] rfl rfl (jqg.one (by omega) (by simp) (by simp)) (jox (by omega)) HBA.out.size ?_;intro v2 w2 hown3 hg3 _;have hbw5:Below w.heap.size w w2:=HBA.out.grown hg3 HBA.out.size (fun k hk=>(World.ownsRow.lt HO.out k hk).1);clear hg3)
 go_roundw
 case rel=>exact⟨k+1,false,ys++[⟨xk,xn⟩],by omega,by go_num,rfl,by simp;omega,hown3,jlv h0.out HX.out HC.out,hbw5⟩
 case measure=>simp[intOf];omega)
 ·(
 by_cases c2:xk=q
 ·(
 subst c2;have HO:=Lh ((hown.below (jzf (wr) (.cells #[.int .i64 xk,.int .u64 (max n xn)] 53))).below (jzf (wr.alloc (.cells #[.int .i64 xk,.int .u64 (max n xn)] 53)) (.cells #[.int .i64 xk,.int .u64 (max n xn)] 53)));have HBA:Hid (Below w.heap.size w ((wr.alloc (.cells #[.int .i64 xk,.int .u64 (max n xn)] 53)).alloc (.cells #[.int .i64 xk,.int .u64 (max n xn)] 53))):=(jzj (jzj hbw));clear c1 hown hbw;go_wp2_with (at_builtin;refine jz2 _ rfl (.tmp 48) (.tmp 50) 54 rfl w.heap.size Tryz.underlying54 _ ys rfl HO.out (wr.heap.size+1+1) (some ⟨wr.heap.size+1,0,none⟩) 1 1 [⟨xk,max n xn⟩] rfl rfl (jqg.one (by omega) (by simp) (by simp)) (jox (by omega)) HBA.out.size ?_;intro v2 w2 hown3 hg3 _;have hbw5:Below w.heap.size w w2:=HBA.out.grown hg3 HBA.out.size (fun k hk=>(World.ownsRow.lt HO.out k hk).1);clear hg3;have hd0:=(hbw5.cell (p:=⟨b,off+k*2,none⟩) hb).trans HC0.out)
 go_roundw
 case rel=>exact⟨k+1,true,ys++[Tk.mk xk (max n xn)],by omega,by go_num,rfl,by simp;omega,hown3,jlx h0.out HX.out rfl,hbw5⟩
 case measure=>simp[intOf];omega)
 ·(
 have c3:q<=xk:=by omega
 have HC:Hid (q<xk):=by show q<xk;omega
 have c2':(xk == q)=false:=by simp[c2]
 have HO:=Lh ((hown.below (jzf (wr) (.cells #[.int .i64 q,.int .u64 n] 53))).below (jzf (wr.alloc (.cells #[.int .i64 q,.int .u64 n] 53)) (.cells #[.int .i64 q,.int .u64 n] 53)));have HBA:Hid (Below w.heap.size w ((wr.alloc (.cells #[.int .i64 q,.int .u64 n] 53)).alloc (.cells #[.int .i64 q,.int .u64 n] 53))):=(jzj (jzj hbw));clear c1 c2 hown hbw;go_wp2_with (first | (at_builtin;refine jz2 _ rfl (.tmp 48) (.tmp 50) 54 rfl w.heap.size Tryz.underlying54 _ ys rfl HO.out (wr.heap.size+1+1) (some ⟨wr.heap.size+1,0,none⟩) 1 1 [⟨q,n⟩] rfl rfl (jqg.one (by omega) (by simp) (by simp)) (jox (by omega)) HBA.out.size ?_;intro v2 w2 hown3 hg3 _;have hbw5:Below w.heap.size w w2:=HBA.out.grown hg3 HBA.out.size (fun k hk=>(World.ownsRow.lt HO.out k hk).1);clear hg3;have hd0:=(hbw5.cell (p:=⟨b,off+k*2,none⟩) hb).trans HC0.out;have hd1:=(hbw5.cell (p:=⟨b,off+k*2+1,none⟩) hb).trans HC1.out;have hb2:b<w2.heap.size:=ltl hb hbw5.size;have HO2:=Lh (hown3.below (jzf w2 (.cells #[.int .i64 xk,.int .u64 xn] 53)));have HB2:Hid (Below w.heap.size w (w2.alloc (.cells #[.int .i64 xk,.int .u64 xn] 53))):=jzj hbw5) | (at_builtin;refine jz2 _ rfl (.tmp 59) (.tmp 64) 54 rfl w.heap.size Tryz.underlying54 v2 (ys++[⟨q,n⟩]) rfl HO2.out (w2.heap.size+1) (some ⟨w2.heap.size,0,none⟩) 1 1 [⟨xk,xn⟩] rfl rfl (jqg.one (by omega) (by simp) (by simp)) (jox (jta (by omega))) HB2.out.size ?_;intro v3 w3 hown6 hg3 _;have hbw8:Below w.heap.size w w3:=HB2.out.grown hg3 HB2.out.size (fun k hk=>(World.ownsRow.lt HO2.out k hk).1);clear hg3))
 go_roundw
 case rel=>exact⟨k+1,true,(ys++[Tk.mk q n])++[Tk.mk xk xn],by omega,by go_num,rfl,by simp;omega,hown6,jlw h0.out HX.out HC.out,hbw8⟩
 case measure=>simp[intOf];omega))))
 ·(
 cases d with
 | true=>(
 go_wp2_with fail;go_ret;refine jgh hown ?_ HN.out hbw;rw[h0.out,List.drop_eq_nil_of_le (by omega)];simp[jj6])
 | false=>(
 have HO:=Lh (hown.below (jzf wr (.cells #[.int .i64 q,.int .u64 n] 53)));have HBA:Hid (Below w.heap.size w (wr.alloc (.cells #[.int .i64 q,.int .u64 n] 53))):=jzj hbw;clear hown hbw;go_wp2_with (
 at_builtin
 refine jz2 _ rfl (.tmp 68) (.tmp 72) 54 rfl w.heap.size Tryz.underlying54 _ ys rfl HO.out _ (some ⟨wr.heap.size,0,none⟩) 1 1 [⟨q,n⟩] rfl rfl jqg.new ?ql ?qs ?_;case ql=>(simp only[List.length_cons,List.length_nil];omega)
 case qs=>exact HBA.out.size
 intro v2 w2 hown3 hg3 _;have hbw5:Below w.heap.size w w2:=HBA.out.grown hg3 HBA.out.size (fun k hk=>(World.ownsRow.lt HO.out k hk).1))
 go_ret;refine jgh hown3 ?_ HN.out hbw5;rw[h0.out,List.drop_eq_nil_of_le (by omega)];simp[jj6,jqw])))
theorem jfq{a b ys:List Tk}{k:Nat}{y:Tk}(h:ys=jx2 a (b.take k))(hy:b[k]?=some y):jqw ys y.k y.n=jx2 a (b.take (k+1)):=by
 obtain⟨hi,he⟩:=List.getElem?_eq_some_iff.1 hy;rw[List.take_succ_eq_append_getElem hi,he,h];unfold jx2;rw[List.foldl_append];rfl
theorem jci{a b ys:List Tk}{k:Nat}(h:ys=jx2 a (b.take k))(hk:b.length<=k):ys=jx2 a b:=by rwa [List.take_of_length_le hk] at h
theorem jgl(A A':Option Addr)(c c':Nat)(l l':List Tk)(w:World)(h:In w A c l)(h':In w A' c' l')(hn:∀ y∈l',y.n≠0)(hlen:l.length<=100)(hlen':l'.length<=100):Calls Tryz.prog 52 #[.slice A l.length c,.slice A' l'.length c'] w (jrj w (jx2 l l')):=by
 obtain⟨hl,-,-,hnok⟩:=h;obtain⟨hl',-,-,hnok'⟩:=h';have HNZ:Hid (∀ y∈l',y.n≠0/\0<=y.n/\y.n<=18446744073709551615):=fun y hy=>⟨hn y hy,hnok' y hy⟩
 have HNK:=Lh hnok;clear hn hnok hnok';go_enter Tryz.func52,Tryz.ntmps52;go_wp2_with (at_builtin;refine jz2 _ rfl (.const (.slice none 0 0)) (.tmp 7) 54 rfl w.heap.size Tryz.underlying54 (.slice none 0 0) [] rfl (jwa.nil _ _) _ A l.length c l rfl rfl hl (by simp;omega) (Nat.le_refl _) ?_;intro v2 w2 hown3 hg3 _;have hbw5:Below w.heap.size w w2:=(Below.refl _ w).grown hg3 (Nat.le_refl _) (fun k hk=>by cases hk);clear hg3;obtain⟨A2,c2,rfl,hin2⟩:=jwa.form hown3 HNK.out;clear hown3)
 simp only[List.nil_append] at hin2 ⊢;go_loopw [5,6] (fun ov iv wr=>∃ (k:Nat) (A2:Option Addr) (c2:Nat) (ys:List Tk),k<=l'.length/\iv = .int .i64 k/\ov = .slice A2 ys.length c2/\In wr A2 c2 ys/\ys.length<=l.length+k/\Hid (ys=jx2 l (l'.take k))/\Below w.heap.size w wr) (fun _ iv _=>l'.length - (intOf iv).toNat)
 case atStart=>exact⟨0,A2,c2,l,Nat.zero_le _,rfl,rfl,hin2,by omega,by simp[Hid,jx2],hbw5⟩
 case round=>(
 obtain⟨k,A3,c3,ys,hk,rfl,rfl,hin3,hyk,h0,hbw⟩:=hrel;clear hin2 hbw5;by_cases hlt:k<l'.length
 ·(
 obtain⟨b,off,rfl,hb,hc⟩:=(hl'.below hbw).get hlt;obtain⟨y,hy⟩:∃ y,l'[k]?=some y:=⟨_,List.getElem?_eq_getElem hlt⟩
 obtain⟨hc0,hc1⟩:=hc k y hy;have HY:=Lh hy;have HN3:=Lh (HNZ.out y (List.mem_of_getElem? hy));clear hy hc hl';obtain⟨yk,yn⟩:=y;dsimp only at hc0 hc1 HN3
 have hki:(k:Int)<(l'.length:Int):=by omega
 have HI3:=Lh hin3;have HBW:=Lh hbw;clear hin3 hbw;go_wp2_with fail;go_still_tail 11,(by kernel_rfl)
 change wpList _ _ _ _ _ wr.drew;go_wp2_with fail;refine (jdf A3 c3 ys yk yn _ (HI3.out.later (jqo wr)) HN3.out.1 HN3.out.2.1 HN3.out.2.2 (by omega)).mono ?_;rintro e w4 ⟨A4,c4,rfl,hin4,hb4⟩;have hbw4:Below w.heap.size w w4:=(HBW.out.drew).trans (hb4.mono HBW.out.size);go_wp2_with fail;go_roundw
 case rel=>exact⟨k+1,A4,c4,jqw ys yk yn,by omega,by go_num,rfl,hin4,by have:=jvn yk yn ys;omega,jfq h0.out HY.out,hbw4⟩
 case measure=>simp[intOf];omega)
 ·(
 go_wp2_with fail;go_ret;have e:=jci h0.out (by omega);subst e;exact⟨A3,c3,rfl,hin3,hbw⟩))
theorem jg2(x:Int)(w:World):Calls Tryz.prog 168 #[.int .i64 x] w fun e w'=>e = .returned (.bool false)/\w=w':=by
 go_enter Tryz.func168,Tryz.ntmps168;go_wp2
 go_ret;exact⟨rfl,rfl⟩
def jx9(x y:Int):Int:=if x<y then -1 else if y<x then 1 else 0
theorem jxt{x y:Int}(h:x<y):jx9 x y = -1:=if_pos h
theorem jx4{x y:Int}(h:y<x):jx9 x y=1:=by unfold jx9;rw[if_neg (by omega),if_pos h]
theorem jx5(x:Int):jx9 x x=0:=by unfold jx9;rw[if_neg (by omega),if_neg (by omega)]
theorem jjt(x y:Int)(w:World):Calls Tryz.prog 156 #[.int .i64 x,.int .i64 y] w fun e w'=>e = .returned (.int .i64 (jx9 x y))/\w=w':=by
 rcases Int.lt_trichotomy x y with h | h | h
 ·(
 rw[jxt h];go_enter Tryz.func156,Tryz.ntmps156;go_wp2_with (go_at_call 168;refine (jg2 _ _).mono ?_;rintro e w' ⟨rfl,rfl⟩)
 go_ret;exact⟨rfl,rfl⟩)
 ·(
 subst h;rw[jx5];go_enter Tryz.func156,Tryz.ntmps156;go_wp2_with (go_at_call 168;refine (jg2 _ _).mono ?_;rintro e w' ⟨rfl,rfl⟩)
 go_ret;exact⟨rfl,rfl⟩)
 ·(
 rw[jx4 h];have h1:¬ x<y:=by omega
 go_enter Tryz.func156,Tryz.ntmps156;go_wp2_with (go_at_call 168;refine (jg2 _ _).mono ?_;rintro e w' ⟨rfl,rfl⟩)
 go_ret;exact⟨rfl,rfl⟩)
theorem jko(xk xn yk yn:Int)(w:World):Calls Tryz.prog 127 #[.agg #[.int .i64 xk,.int .u64 xn],.agg #[.int .i64 yk,.int .u64 yn]] w (jqd w (.int .i64 (jx9 xk yk))):=by
 go_enter Tryz.func127,Tryz.ntmps127;go_wp2_with (go_at_call 156;refine (jjt _ _ _).mono ?_;rintro e w' ⟨rfl,rfl⟩)
 go_ret;exact⟨rfl,jzj (jzj (Below.refl _ _))⟩
theorem jrs(xk xn:Int)(w:World):Calls Tryz.prog 164 #[.agg #[.int .i64 xk,.int .u64 xn]] w (jqd w (.bool (bad ⟨xk,xn⟩))):=by
 obtain⟨p,hp⟩:=exq (bad ⟨xk,xn⟩);rw[hp];unfold bad at hp;dsimp only at hp
 by_cases c1:xk<0
 ·(
 simp[c1] at hp
 subst hp;go_enter Tryz.func164,Tryz.ntmps164;go_wp2_with fail;go_ret;exact⟨rfl,jzf _ _⟩)
 ·(
 have d1:decide (xk<0)=false:=decide_eq_false c1;by_cases c2:1000000<xk
 ·(
 simp[c2] at hp
 subst hp;go_enter Tryz.func164,Tryz.ntmps164;go_wp2_with fail;go_ret;exact⟨rfl,jzf _ _⟩)
 ·(
 have d2:decide (1000000<xk)=false:=decide_eq_false c2;by_cases c3:xn=0
 ·(
 simp[c3] at hp
 subst hp;subst c3;go_enter Tryz.func164,Tryz.ntmps164;go_wp2_with fail;go_ret;exact⟨rfl,jzf _ _⟩)
 ·(
 simp[c1,c2,c3] at hp
 subst hp;have d3:(xn == 0)=false:=by simp[c3]
 go_enter Tryz.func164,Tryz.ntmps164;go_wp2_with fail;go_ret;exact⟨rfl,jzf _ _⟩)))
def jny(w:World)(t:Tk)(e:Ending)(w':World):Prop:=e = .returned (.agg #[.int .i64 t.k,.int .u64 t.n])/\Below w.heap.size w w'
theorem jgw(xk xn yk yn:Int)(w:World):Calls Tryz.prog 128 #[.agg #[.int .i64 xk,.int .u64 xn],.agg #[.int .i64 yk,.int .u64 yn]] w (jny w (jj1 ⟨xk,xn⟩ ⟨yk,yn⟩)):=by
 by_cases h:xn<yn
 ·(
 have e:jj1 ⟨xk,xn⟩ ⟨yk,yn⟩=⟨yk,yn⟩:=by unfold jj1;rw[if_pos h]
 rw[e];go_enter Tryz.func128,Tryz.ntmps128;go_wp2_with fail;refine bodyPost_ret (jjc rfl _ _ (w.heap.size+1+1) (.int .i64 yk) (.int .u64 yn) rfl (by go_simp) (by go_simp)) rfl ?_;exact⟨rfl,jzj (jzj (jzj (Below.refl _ _)))⟩)
 ·(
 have e:jj1 ⟨xk,xn⟩ ⟨yk,yn⟩=⟨xk,xn⟩:=by unfold jj1;rw[if_neg h]
 rw[e];go_enter Tryz.func128,Tryz.ntmps128;go_wp2_with fail;refine bodyPost_ret (jjc rfl _ _ (w.heap.size+1+1) (.int .i64 xk) (.int .u64 xn) rfl (by go_simp) (by go_simp)) rfl ?_;exact⟨rfl,jzj (jzj (jzj (Below.refl _ _)))⟩)
theorem asc_fall{l:List Tk}{i:Nat}{x y:Tk}(hy:l[i]?=some y)(hx:l[i+1]?=some x)(hb:x.k<=y.k):decide (Asc l)=false:=by
 refine decide_eq_false fun h=>?_
 obtain⟨h1,e1⟩:=List.getElem?_eq_some_iff.1 hy;obtain⟨h2,e2⟩:=List.getElem?_eq_some_iff.1 hx;have:=List.pairwise_iff_getElem.1 h i (i+1) h1 h2 (by omega);rw[e1,e2] at this;omega
theorem asc_end{l:List Tk}{i:Nat}(h1:Asc (l.take i))(hi:l.length<=i):decide (Asc l)=true:=by
 rw[List.take_of_length_le hi] at h1;exact decide_eq_true h1
theorem jnv(l:List Tk):Asc (l.take 1):=by
 cases l with
 | nil=>exact List.Pairwise.nil
 | cons x l=>exact List.pairwise_singleton _ _
theorem jgg(A:Option Addr)(c:Nat)(l:List Tk)(w:World)(h:In w A c l):Calls Tryz.prog 162 #[.slice A l.length c,.func (.func 127) #[] #[]] w (jqd w (.bool (decide (Asc l)))):=by
 obtain⟨hl,hcap,htop,-⟩:=h;have hlm:l.length<=9223372036854775807:=by unfold maxLen at htop;omega
 clear hcap htop;go_enter Tryz.func162,Tryz.ntmps162;go_wp2_with fail;go_loopw [5] (fun iv wr=>∃ k:Nat,iv = .int .i64 ((k:Int)+1)/\(k<=l.length)/\Hid (Asc (l.take (k+1)))/\Below w.heap.size w wr) (fun iv _=>l.length+1 - (intOf iv).toNat)
 case atStart=>exact⟨0,rfl,Nat.zero_le _,jnv l,Below.refl _ _⟩
 case round=>(
 obtain⟨k,rfl,hk,h1,hbw⟩:=hrel;by_cases hlt:k+1<l.length
 ·(
 obtain⟨b,off,rfl,hb,hc⟩:=(hl.below hbw).get hlt;obtain⟨x,hx⟩:∃ x,l[k+1]?=some x:=⟨_,List.getElem?_eq_getElem hlt⟩
 obtain⟨y,hy⟩:∃ y,l[k]?=some y:=⟨_,List.getElem?_eq_getElem (by omega)⟩
 obtain⟨hc0,hc1⟩:=hc (k+1) x hx;obtain⟨hd0,hd1⟩:=hc k y hy;have HX:=Lh hx;have HY:=Lh hy;clear hx hy hc hl;obtain⟨xk,xn⟩:=x;obtain⟨yk,yn⟩:=y;dsimp only at hc0 hc1 hd0 hd1
 have hki:(k:Int)+1<(l.length:Int):=by omega
 have hki0:(k:Int)<(l.length:Int):=by omega
 have HBW:=Lh hbw;have s1:IntKind.i64.wrap (k:Int)=(k:Int):=IntWalk.i64_in _ (by omega);have s2:0<=(k:Int)+1:=by omega
 have s3:((k:Int)+1).toNat=k+1:=by omega
 clear hbw;go_wp2_with fail;go_still_tail 10,(by kernel_rfl)
 change wpList _ _ _ _ _ wr.drew;clear s1 s2 s3;go_wp2_with fail;refine (jko yk yn xk xn _).mono ?_;rintro e w4 ⟨rfl,hb4⟩;have hbw4:Below w.heap.size w w4:=(HBW.out.drew).trans (hb4.mono HBW.out.size);by_cases c4:yk<xk
 ·(
 have HC:=Lh c4;rw[jxt c4];clear c4;go_wp2_with fail;go_roundw
 case rel=>exact⟨k+1,by go_num,by omega,jtq h1.out HY.out HX.out HC.out,hbw4⟩
 case measure=>simp[intOf];omega)
 ·(
 have HC:Hid (xk<=yk):=by show xk<=yk;omega
 have c5:0<=jx9 yk xk:=by unfold jx9;rw[if_neg c4];split <;> omega
 generalize jx9 yk xk=q at *;clear c4;go_wp2_with fail;go_ret;exact⟨jzi (asc_fall HY.out HX.out HC.out).symm,hbw4⟩))
 ·(
 go_wp2_with fail;go_ret;exact⟨jzi (asc_end h1.out (by omega)).symm,hbw⟩))
end C3
namespace J5
open C3 (Tk jz1 jxo jx9)
open S2 (Tr)
open V4 (Va jzz)
open R1 (jqv)
def jxy(a b:Str):Int:=if a<b then -1 else if b<a then 1 else 0
def jw8(a b:List Tk):Int:=if jzz a b=true then -1 else if jzz b a=true then 1 else 0
def mix{M V:Type}(c:M->M->Int)(z:V):List (M×V)->List (M×V)->List (M×V×V)
  | [],b=>b.map fun p=>(p.1,z,p.2)
  | x :: a,[]=>(x :: a).map fun p=>(p.1,p.2,z)
  | x :: a,y :: b=>if c x.1 y.1<0 then (x.1,x.2,z) :: mix c z a (y :: b) else if 0<c x.1 y.1 then (y.1,z,y.2) :: mix c z (x :: a) b else (y.1,x.2,y.2) :: mix c z a b
termination_by a b=>a.length+b.length
section
variable {M V:Type} (c:M->M->Int) (z:V)
theorem jmo:mix c z [] []=[]:=by rw[mix];rfl
theorem jgr(y:M×V)(b:List (M×V)):mix c z [] (y :: b)=(y.1,z,y.2) :: mix c z [] b:=by rw[mix,mix];rfl
theorem jl5(x:M×V)(a:List (M×V)):mix c z (x :: a) []=(x.1,x.2,z) :: mix c z a []:=by
 rw[mix];cases a with
 | nil=>rw[mix];rfl
 | cons y a=>rw[mix];rfl
theorem jvw{x y:M×V}(a b:List (M×V))(h:c x.1 y.1<0):mix c z (x :: a) (y :: b)=(x.1,x.2,z) :: mix c z a (y :: b):=by rw[mix,if_pos h]
theorem jbb{x y:M×V}(a b:List (M×V))(h:0<c x.1 y.1):mix c z (x :: a) (y :: b)=(y.1,z,y.2) :: mix c z (x :: a) b:=by rw[mix,if_neg (by omega),if_pos h]
theorem jbc{x y:M×V}(a b:List (M×V))(h:c x.1 y.1=0):mix c z (x :: a) (y :: b)=(y.1,x.2,y.2) :: mix c z a b:=by rw[mix,if_neg (by omega),if_neg (by omega)]
theorem mix_len(a b:List (M×V)):(mix c z a b).length<=a.length+b.length:=by
 induction a,b using mix.induct (c:=c) with
 | case1 b=>rw[mix];simp
 | case2 x a=>rw[mix];simp
 | case3 x a y b h ih=>rw[jvw c z a b h];simp only[List.length_cons] at ih ⊢;omega
 | case4 x a y b h h2 ih=>rw[jbb c z a b h2];simp only[List.length_cons] at ih ⊢;omega
 | case5 x a y b h h2 ih=>rw[jbc c z a b (by omega)];simp only[List.length_cons] at ih ⊢;omega
theorem jmp{p:M×V×V}(a b:List (M×V))(h:p∈mix c z a b):((∃ x∈a,x.2=p.2.1)\/p.2.1=z)/\((∃ y∈b,y.2=p.2.2)\/p.2.2=z)/\((∃ x∈a,x.1=p.1)\/∃ y∈b,y.1=p.1):=by
 induction a,b using mix.induct (c:=c) with
 | case1 b=>(
 rw[mix] at h;obtain⟨y,hy,rfl⟩:=List.mem_map.1 h;exact⟨.inr rfl,.inl ⟨y,hy,rfl⟩,.inr ⟨y,hy,rfl⟩⟩)
 | case2 x a=>(
 rw[mix] at h;obtain⟨y,hy,rfl⟩:=List.mem_map.1 h;exact⟨.inl ⟨y,hy,rfl⟩,.inr rfl,.inl ⟨y,hy,rfl⟩⟩)
 | case3 x a y b h1 ih=>(
 rw[jvw c z a b h1] at h;rcases List.mem_cons.1 h with rfl | h
 ·exact⟨.inl ⟨x,by simp,rfl⟩,.inr rfl,.inl ⟨x,by simp,rfl⟩⟩
 ·(
 obtain⟨i1,i2,i3⟩:=ih h;exact⟨i1.imp (fun ⟨q,hq,e⟩=>⟨q,by simp[hq],e⟩) id,i2,i3.imp (fun ⟨q,hq,e⟩=>⟨q,by simp[hq],e⟩) id⟩))
 | case4 x a y b h1 h2 ih=>(
 rw[jbb c z a b h2] at h;rcases List.mem_cons.1 h with rfl | h
 ·exact⟨.inr rfl,.inl ⟨y,by simp,rfl⟩,.inr ⟨y,by simp,rfl⟩⟩
 ·(
 obtain⟨i1,i2,i3⟩:=ih h;exact⟨i1,i2.imp (fun ⟨q,hq,e⟩=>⟨q,by simp[hq],e⟩) id,i3.imp id (fun ⟨q,hq,e⟩=>⟨q,by simp[hq],e⟩)⟩))
 | case5 x a y b h1 h2 ih=>(
 rw[jbc c z a b (by omega)] at h;rcases List.mem_cons.1 h with rfl | h
 ·exact⟨.inl ⟨x,by simp,rfl⟩,.inl ⟨y,by simp,rfl⟩,.inr ⟨y,by simp,rfl⟩⟩
 ·(
 obtain⟨i1,i2,i3⟩:=ih h;exact⟨i1.imp (fun ⟨q,hq,e⟩=>⟨q,by simp[hq],e⟩) id,i2.imp (fun ⟨q,hq,e⟩=>⟨q,by simp[hq],e⟩) id,i3.imp (fun ⟨q,hq,e⟩=>⟨q,by simp[hq],e⟩) (fun ⟨q,hq,e⟩=>⟨q,by simp[hq],e⟩)⟩))
end
theorem jhh{M V M' V':Type}{c:M->M->Int}{c':M'->M'->Int}{z:V}{z':V'}(f:M->M')(g:V->V')(hc:∀ x y,c x y=c' (f x) (f y))(hz:g z=z')(a b:List (M×V)):(mix c z a b).map (fun p=>(f p.1,g p.2.1,g p.2.2))=mix c' z' (a.map fun p=>(f p.1,g p.2)) (b.map fun p=>(f p.1,g p.2)):=by
 induction a,b using mix.induct (c:=c) with
 | case1 b=>rw[mix,List.map_nil,mix];simp[hz]
 | case2 x a=>rw[mix];simp only[List.map_cons,List.map_nil];rw[mix];simp[hz]
 | case3 x a y b h ih=>rw[jvw c z a b h,List.map_cons,List.map_cons,List.map_cons,jvw c' z' _ _ (by rw[<- hc];exact h),ih,hz,List.map_cons]
 | case4 x a y b h h2 ih=>rw[jbb c z a b h2,List.map_cons,List.map_cons,List.map_cons,jbb c' z' _ _ (by rw[<- hc];exact h2),ih,hz,List.map_cons]
 | case5 x a y b h h2 ih=>(
 have h0:c x.1 y.1=0:=by omega
 rw[jbc c z a b h0,List.map_cons,List.map_cons,List.map_cons,jbc c' z' _ _ (by rw[<- hc];exact h0),ih])
def jxf{M V W:Type}(f:V->V->Option W):List (M×V×V)->Option (List (M×W))
  | []=>some []
  | p :: l=>(f p.2.1 p.2.2).bind fun v=>(jxf f l).map fun r=>(p.1,v) :: r
def jw0{M V W:Type}(f:V->V->Option W)(l:List (M×V×V)):Option (List (M×W)):=if 40<l.length then none else jxf f l
theorem jkq{M V W:Type}(f:V->V->Option W)(p:M×V×V):∀ l:List (M×V×V),jxf f (l++[p])=(jxf f l).bind fun r=>(f p.2.1 p.2.2).map fun v=>r++[(p.1,v)]
  | []=>by simp only[List.nil_append,jxf,Option.bind_some,Option.map_some];cases f p.2.1 p.2.2 <;> rfl
  | q :: l=>by
    rw[List.cons_append,jxf,jxf,jkq f p l]
    cases f q.2.1 q.2.2 with
    | none=>rfl
    | some v =>
      cases jxf f l with
      | none=>rfl
      | some r =>
        cases f p.2.1 p.2.2 <;> rfl
theorem jw3{M V W:Type}(f:V->V->Option W):∀ (l r:List (M×V×V)),jxf f l=none->jxf f (l++r)=none
  | [],_,h=>by simp[jxf] at h
  | q :: l,r,h=>by
    rw[List.cons_append,jxf]
    rw[jxf] at h
    cases hf:f q.2.1 q.2.2 with
    | none=>rfl
    | some v =>
      rw[hf] at h
      cases ha:jxf f l with
      | none=>rw[jw3 f l r ha];rfl
      | some x=>rw[ha] at h;simp at h
theorem jpg{M V W:Type}{f:V->V->Option W}{l:List (M×V×V)}{k:Nat}{p:M×V×V}{r:List (M×W)}(hp:l[k]?=some p)(h:jxf f (l.take k)=some r):jxf f (l.take (k+1))=(f p.2.1 p.2.2).map fun v=>r++[(p.1,v)]:=by
 obtain⟨hk,he⟩:=List.getElem?_eq_some_iff.1 hp;rw[List.take_succ_eq_append_getElem hk,he,jkq,h];rfl
theorem jc0{M V W:Type}{f:V->V->Option W}{l:List (M×V×V)}{k:Nat}{p:M×V×V}{r:List (M×W)}(hp:l[k]?=some p)(h:jxf f (l.take k)=some r)(hn:f p.2.1 p.2.2=none):jw0 f l=none:=by
 have h1:jxf f (l.take (k+1))=none:=by rw[jpg hp h,hn];rfl
 have:=jw3 f _ (l.drop (k+1)) h1;rw[List.take_append_drop] at this;unfold jw0;split
 ·rfl
 ·exact this
def jjf:List Str->List Str->Int
  | [],[]=>0
  | [],_ :: _=>-1
  | _ :: _,[]=>1
  | x :: a,y :: b=>if jxy x y=0 then jjf a b else jxy x y
def jjk(x y:Va):Int:=if jx9 x.n y.n=0 then (if jx9 x.m y.m=0 then jjf x.s y.s else jx9 x.m y.m) else jx9 x.n y.n
def jj7(x y:Va):Va:=if jjk x y<0 then .mk y.n y.m y.s [] [] else .mk x.n x.m x.s [] []
def jkn(x y:Va):Option Va:=if (x.c++y.c).foldl jz1 []=[] then some .zero else if 40<((x.c++y.c).foldl jz1 []).length then none else some (.mk 0 0 [] [(x.c++y.c).foldl jz1 []] [])
def jq2(x:Va)(i:Nat):Va:=x.v[i]?.getD .zero
def setE(x y:Va):Option Va:=if 40<(jqv x.s y.s).length then none else some (.mk 0 0 (jqv x.s y.s) [] [])
def jk6(l:List Tk)(cs:List (List Tk)):Bool:=cs.any fun o=>decide (jxo l o = -1)
def jrl(f:Va->Va->Option Va)(x y:Va):Option Va:=(jw0 f (mix jxy .zero (x.s.zip x.v) (y.s.zip y.v))).map fun l => .mk 0 0 (l.map (·.1)) [] (l.map (·.2))
def jwl(f:Va->Va->Option Va)(x y:Va):Option Va:=(jw0 f ((mix jw8 .zero (x.c.zip x.v) (y.c.zip y.v)).filter fun p=>!jk6 p.1 (x.c++y.c))).map fun l => .mk 0 0 [] (l.map (·.1)) (l.map (·.2))
def ju7(f g:Va->Va->Option Va)(x y:Va):Option Va:=(f (jq2 x 0) (jq2 y 0)).bind fun u=>(g (jq2 x 1) (jq2 y 1)).map fun v => .mk 0 0 [] [] [u,v]
def jzs:Tr->Va->Va->Option Va
  | .mk k [],x,y=>if k=3 then setE x y else if k=6 then some (jj7 x y) else if k=7 then jkn x y else some (.mk (max x.n y.n) 0 [] [] [])
  | .mk k [a],x,y=>if k=4 then jrl (jzs a) x y else jwl (jzs a) x y
  | .mk _ [a,b],x,y=>ju7 (jzs a) (jzs b) x y
  | .mk _ (_ :: _ :: _ :: _),_,_=>none
end J5
namespace V4
open Go.RowKit Go.Shelf
structure KN (D B:Nat) (W W':World):Prop where
  size:W.heap.size<=W'.heap.size
  same:∀ (b:Nat) (o:Obj),W.heap[b]?=some o->(o.isCells=true/\b≠D\/B<=b)->W'.heap[b]?=some o
theorem KN.refl(D B:Nat)(W:World):KN D B W W:=⟨Nat.le_refl _,fun _ _ h _=>h⟩
theorem KN.trans{D B:Nat}{X Y Z:World}(h:KN D B X Y)(k:KN D B Y Z):KN D B X Z:=⟨leT h.size k.size,fun b o h1 h2=>k.same b o (h.same b o h1 h2) h2⟩
theorem KN.mono{D B B':Nat}{W W':World}(h:KN D B W W')(hB:B<=B'):KN D B' W W':=⟨h.size,fun b o h1 h2=>h.same b o h1 (h2.imp id fun h=>leT hB h)⟩
theorem KN.of_below{D B:Nat}{W W':World}(h:Below W.heap.size W W'):KN D B W W':=⟨h.size,fun b _ h1 _=>(h.block b (Array.getElem?_eq_some_iff.1 h1).1).trans h1⟩
theorem KN.later{D B:Nat}{W X Y:World}(h:KN D B W X)(hb:Below W.heap.size X Y):KN D B W Y :=
  ⟨leT h.size hb.size,fun b o h1 h2=>(hb.block b (Array.getElem?_eq_some_iff.1 h1).1).trans (h.same b o h1 h2)⟩
theorem KN.put{D B l:Nat}{W:World}{o:Obj}(h:W.heap[l]?=some o)(ho:o.isCells=false)(hl:l<B)(o':Obj):KN D B W (W.putObj l o') :=
  ⟨by simp,fun b o2 h1 h2=>by
    have hne:b≠l:=fun e=>by
      subst e;rw[h] at h1;cases h1
      rcases h2 with ⟨h2,_⟩ | h2
      · rw[ho] at h2;cases h2
      · omega
    rw[World.putObj_heap_other hne];exact h1⟩
theorem KN.cell{D B:Nat}{W W':World}(h:KN D B W W'){b o:Nat}{v:Value}(hb:b≠D)(hc:W.cell? ⟨b,o,none⟩=some v):W'.cell? ⟨b,o,none⟩=some v:=by
 obtain⟨ob,h1,h2⟩:=cells_of_cell hc;exact (World.cell?_of_block (a:=⟨b,o,none⟩) ((h.same b ob h1 (.inl ⟨h2,hb⟩)).trans h1.symm)).trans hc
theorem KN.boxed{D B:Nat}{W W':World}(h:KN D B W W'){b:Nat}{t:TypeId}{v:Value}(hb:b≠D)(hc:Boxed W b t v):Boxed W' b t v:=h.same b _ hc (.inl ⟨rfl,hb⟩)
structure KF (B:Nat) (W W':World):Prop where
  size:W.heap.size<=W'.heap.size
  same:∀ (b:Nat) (o:Obj),B<=b->W.heap[b]?=some o->W'.heap[b]?=some o
theorem KN.kf{D B:Nat}{W W':World}(h:KN D B W W'):KF B W W':=⟨h.size,fun b o h1 h2=>h.same b o h2 (.inr h1)⟩
theorem KF.trans{B:Nat}{X Y Z:World}(h:KF B X Y)(k:KF B Y Z):KF B X Z:=⟨leT h.size k.size,fun b o h1 h2=>k.same b o h1 (h.same b o h1 h2)⟩
theorem KF.mono{B B':Nat}{W W':World}(h:KF B W W')(hB:B<=B'):KF B' W W':=⟨h.size,fun b o h1 h2=>h.same b o (leT hB h1) h2⟩
theorem KF.later{B:Nat}{W X Y:World}(h:KF B W X)(hb:Below W.heap.size X Y):KF B W Y :=
  ⟨leT h.size hb.size,fun b o h1 h2=>(hb.block b (Array.getElem?_eq_some_iff.1 h2).1).trans (h.same b o h1 h2)⟩
theorem KF.of_below{B:Nat}{W W':World}(h:Below W.heap.size W W'):KF B W W':=(KN.of_below (D:=0) h).kf
theorem KF.put{B l:Nat}{W:World}(hl:l<B)(o':Obj):KF B W (W.putObj l o'):=⟨by simp,fun b o2 h1 h2=>by rw[World.putObj_heap_other (by omega)];exact h2⟩
theorem KF.set{B b:Nat}{W:World}(hb:b<B)(v:Value):KF B W (W.setCell ⟨b,0,none⟩ v):=⟨by simp,fun k o h1 h2=>(Below.heap_setCell _ _ _ _ (by simp only;omega)).trans h2⟩
theorem KF.boxed{B:Nat}{W W':World}(h:KF B W W'){b:Nat}{t:TypeId}{v:Value}(hb:B<=b)(hc:Boxed W b t v):Boxed W' b t v:=h.same b _ hb hc
theorem KN.from{D B:Nat}{W W':World}(h:KN D B W W'):KeepsFrom B W W':=⟨h.size,fun b o h1 h2 _=>h.same b o h2 (.inr h1)⟩
def Ab{β:Type}(B:Nat)(J:β->World->Prop):Prop:=∀ s W W',J s W->Below B W W'->J s W'
def jtu{α:Type}(P:Program)(g:Nat)(lb:Array Value)(encs:α->Array Value)(D:Nat)(ok:α->Prop)(zs:List α)(w:World):Prop :=
  ∀ (l:Nat) (J Jx:Nat->World->Prop) (W:World),Below w.heap.size w W->Ab W.heap.size J->Ab W.heap.size Jx ->
    (∀ k x W1,zs[k]?=some x->J k W1->W.heap.size<=W1.heap.size->YieldAt Fence.wide 0 P l (encs x) W1 fun e W' =>
      (e = .returned (.bool true)/\J (k+1) W'/\KN D W.heap.size W1 W'/\ok x)\/(e = .returned (.bool false)/\Jx k W'/\KF W.heap.size W1 W')) ->
    J 0 W ->
    Calls P g (#[.func (.yield l) #[] #[]]++lb) W fun e W'=>(∃ v,e = .returned v)/\(J zs.length W'\/∃ k,k<zs.length/\Jx k W')
theorem jql{m m':Nat}{P:Program}{l:Nat}{args:Array Value}{W:World}{R:Ending->World->Prop}(h:YieldAt Fence.wide m P l args W R):YieldAt Fence.wide m' P l args W R:=by
 obtain⟨fn,tmps,assign,body,h1,h2⟩:=h;exact⟨fn,tmps,assign,body,h1,h2.1,fun c cs _=>h2.2 c cs (room_wide _)⟩
def postO{α:Type}(B D:Nat)(ok:α->Prop)(I:Nat->World->Prop)(Ix:Code->Nat->World->Prop)(k:Nat)(x:α)(W:World):Exit->Act->World->Prop
  | .normal,_,W'=>KN D B W W'/\I (k+1) W'/\ok x
  | .ret,_,W'=>KF B W W'/\Ix .ret k W'
  | .exit id,_,W'=>KF B W W'/\Ix (.exit id) k W'
  | .goto t,_,W'=>KF B W W'/\Ix (.goto t) k W'
  | .panic _,_,_=>False
  | .outgrown,_,_=>False
theorem jwf{α:Type}{n:Nat}{P:Program}{g:Operand}{ps:Array Tmp}{assign body:Code}{Q:Exit->Act->World->Prop}{a:Act}{w:World}{gf:Nat}{lb:Array Value}(hg:a.eval g = .func (.func gf) #[] lb)(eg:Enters P gf){encs:α->Array Value}{D:Nat}{ok:α->Prop}{zs:List α}(hseq:jtu P gf lb encs D ok zs w)(hps:∀ x,(encs x).size=ps.size)(I:Nat->World->Prop)(Ix:Code->Nat->World->Prop)(hI:Ab w.heap.size I)(hIx:∀ c,Ab w.heap.size (Ix c))(h0:I 0 w)(Ax:α->Act->World->Prop)(hAx:∀ x a',OwnFrom w.heap.size (fun (_:Unit) W=>Ax x a' W))(hassign:∀ (l k:Nat) (x:α) (W:World) (K:Act->World->Prop),zs[k]?=some x->I k W->(∀ a' W',Below W.heap.size W W'->Ax x a' W'->K a' W')->assign.wpIn (Fence.wide.inRound l) 0 P (Exit.then K (fun _ _ _=>False)) { tmps:=(ps.zip (encs x)).foldl (fun t (p,v)=>t.setIfInBounds p v) a.tmps,defers:=[] } W)(hbody:∀ (l k:Nat) (x:α) (a':Act) (W:World),w.heap.size<=W.heap.size->zs[k]?=some x->I k W->Ax x a' W->body.wpIn (Fence.wide.inRound l) 0 P (postO w.heap.size D ok I Ix k x W) a' W)(hdone:∀ (E:Nat) (W:World),w.heap.size<=E->I zs.length W->W.heap[E]?=some (.deferred (some []))->Q .normal { a with defers:={ target := .collected E,args:=#[] } :: a.defers } W)(hstop:∀ (E:Nat) (c:Code) (k:Nat) (W:World),w.heap.size<=E->k<zs.length->Ix c k W->W.heap[E]?=some (.deferred (some []))->c.wpIn Fence.wide n P Q { a with defers:={ target := .collected E,args:=#[] } :: a.defers } W):(Code.rangeFunc g ps assign body).wpIn Fence.wide n P Q a w:=by
 refine wpIn_rangeFunc fun fn hfn=>?_
 show ∃ _ _ _ _ _ _ _ _,_
 obtain⟨R,hR⟩:∃ R:LoopState->Option Code->Obj,R=fun st pe => .loop { state:=st,pending:=pe,fn,tmps:=a.tmps,params:=ps,assign,body,defers:=w.heap.size }:=⟨_,rfl⟩
 have hRc:∀ st pe,(R st pe).isCells=false:=fun st pe=>by rw[hR];rfl
 obtain⟨V,hV⟩:=exq ((w.alloc (.deferred (some []))).alloc (R .ready none));have hsz:V.heap.size=w.heap.size+2:=by rw[<- hV];simp
 have hbV:Below w.heap.size w V:=by rw[<- hV];exact ((Below.refl _ w).alloc (Nat.le_refl _) _).alloc (by simp) _
 have hrec:V.heap[w.heap.size+1]?=some (R .ready none):=by rw[<- hV];have:=World.alloc_heap_new (w.alloc (.deferred (some []))) (R .ready none);rwa [World.size_alloc] at this
 have hdef:V.heap[w.heap.size]?=some (.deferred (some [])):=by rw[<- hV];exact (Below.heap_alloc _ _ _ (by simp)).trans (World.alloc_heap_new w _)
 -- a turn of the record leaves what is below
 have turn:∀ (X:World) (o:Obj),Below w.heap.size X (X.putObj (w.heap.size+1) o):=fun X o =>
   ⟨rfl,rfl,rfl,by simp,fun k hk=>World.putObj_heap_other (by omega)⟩
 refine⟨w.heap.size+1,[{ target := .collected w.heap.size,args:=#[] }],V,{ target := .fn (.func gf) lb,args:=#[.func (.yield (w.heap.size+1)) #[] #[]] },V,gf,
   #[.func (.yield (w.heap.size+1)) #[] #[]]++lb,V,?_,?_,?_,?_,fun h=>absurd h (by simp[Fence.wide]),callsIn_wide.2 ?_⟩
 ·rw[<- hV,hR];exact run_enterLoop_outer _ _ _ _ _
 ·(
 simp only[resolve,hg];simp[go_sem])
 ·intro f' _;trivial
 ·(
 simp[invoke,go_sem]
 exact eg _ _)
 ·(
 refine (hseq (w.heap.size+1)
   (fun k W=>I k W/\W.heap[w.heap.size+1]?=some (R .ready none)/\W.heap[w.heap.size]?=some (.deferred (some [])))
   (fun k W=>∃ c,Ix c k W/\W.heap[w.heap.size+1]?=some (R .done (some c))/\W.heap[w.heap.size]?=some (.deferred (some [])))
   V hbV ?_ ?_ ?_ ⟨hI _ _ _ h0 hbV,hrec,hdef⟩).mono ?_
 ·(
 rintro k X Y ⟨h1,h2,h3⟩ hb;exact⟨hI _ _ _ h1 (hb.mono (by omega)),(hb.block _ (by omega)).trans h2,(hb.block _ (by omega)).trans h3⟩)
 ·(
 rintro k X Y ⟨c,h1,h2,h3⟩ hb;exact⟨c,hIx c _ _ _ h1 (hb.mono (by omega)),(hb.block _ (by omega)).trans h2,(hb.block _ (by omega)).trans h3⟩)
 ·(
 rintro k x X hx ⟨hi,hl,hd⟩ hXs;have hy:=run_yield (P:=P) (args:=encs x) (l:=w.heap.size+1) (by rw[hR] at hl;exact hl) (hps x);refine⟨fn,_,assign,body,hy,roundIn_of_wpIn trivial (hassign _ k x X _ hx hi ?_)⟩;intro a' Y hbY hax;have hlY:Y.heap[w.heap.size+1]?=some (R .ready none):=(hbY.block _ (by omega)).trans hl;have hdY:Y.heap[w.heap.size]?=some (.deferred (some [])):=(hbY.block _ (by omega)).trans hd;have hltY:w.heap.size+1<Y.heap.size:=(Array.getElem?_eq_some_iff.1 hlY).1;have hbeg:(Instr.beginRound (w.heap.size+1)).run P Y = .ok () (Y.putObj (w.heap.size+1) (R .busy none)):=by (
 rw[hR] at hlY ⊢;exact run_beginRound hlY rfl)
 refine⟨_,hbeg,?_⟩;have hiZ:I k (Y.putObj (w.heap.size+1) (R .busy none)):=hI _ _ _ hi ((hbY.mono (by omega)).trans (turn _ _));have hlZ:(Y.putObj (w.heap.size+1) (R .busy none)).heap[w.heap.size+1]?=some (R .busy none):=World.putObj_heap_same hltY;have hdZ:(Y.putObj (w.heap.size+1) (R .busy none)).heap[w.heap.size]?=some (.deferred (some [])):=(World.putObj_heap_other (by omega)).trans hdY;have hkZ:KN D V.heap.size X (Y.putObj (w.heap.size+1) (R .busy none)):=(KN.of_below hbY).trans (KN.put hlY (hRc _ _) (by omega) _);have hfin:∀ (jump:Option Code) (Z:World),Z.heap[w.heap.size+1]?=some (R .busy none) ->
     (Instr.endRound (w.heap.size+1) jump).run P Z = .ok (.bool jump.isNone) (Z.putObj (w.heap.size+1) (R (if jump.isNone then .ready else .done) jump)):=fun jump Z hz=>by
   rw[hR] at hz ⊢
   exact run_endRound jump hz
 refine wpIn_mono (hbody _ k x a' _ (by simp;omega) hx hiZ ((hAx x a').putObj (s:=()) _ hax (by omega) hlY (hRc _ _))) ?_;have leave:∀ (c:Code) (Z:World),KF w.heap.size (Y.putObj (w.heap.size+1) (R .busy none)) Z->Ix c k Z->∃ v w',(Instr.endRound (w.heap.size+1) (some c)).run P Z = .ok v w' /\
     ((Ending.returned v = .returned (.bool true)/\(I (k+1) w'/\w'.heap[w.heap.size+1]?=some (R .ready none)/\w'.heap[w.heap.size]?=some (.deferred (some [])))/\KN D V.heap.size X w'/\ok x) \/
       (Ending.returned v = .returned (.bool false)/\(∃ c,Ix c k w'/\w'.heap[w.heap.size+1]?=some (R .done (some c))/\w'.heap[w.heap.size]?=some (.deferred (some [])))/\KF V.heap.size X w')):=fun c Z hk hi=>by
   have h1:=hk.same _ _ (by omega) hlZ
   have h2:=hk.same _ _ (Nat.le_refl _) hdZ
   exact⟨_,_,hfin (some c) Z h1,.inr ⟨rfl,⟨c,hIx c _ _ _ hi (turn _ _),World.putObj_heap_same (Array.getElem?_eq_some_iff.1 h1).1,(World.putObj_heap_other (by omega)).trans h2⟩,
     hkZ.kf.trans ((hk.mono (by omega)).trans (KF.put (by omega) _))⟩⟩
 rintro e a3 Z hp;cases e with
 | normal=>(
 obtain⟨hk,hi3,hok⟩:=hp;have h1:=hk.from.same _ _ (by omega) hlZ (hRc _ _)
 have h2:=hk.from.same _ _ (Nat.le_refl _) hdZ rfl
 exact⟨_,_,hfin none Z h1,.inl ⟨rfl,⟨hI _ _ _ hi3 (turn _ _),World.putObj_heap_same (Array.getElem?_eq_some_iff.1 h1).1,(World.putObj_heap_other (by omega)).trans h2⟩,
   hkZ.trans ((hk.mono (by omega)).trans (KN.put h1 (hRc _ _) (by omega) _)),hok⟩⟩)
 | ret=>exact leave .ret Z hp.1 hp.2
 | exit id=>exact leave (.exit id) Z hp.1 hp.2
 | goto t=>exact leave (.goto t) Z hp.1 hp.2
 | panic ch=>exact hp.elim
 | outgrown=>exact hp.elim)
 ·(
 rintro e X ⟨⟨v,rfl⟩,⟨hi,hl,hd⟩ | ⟨k,hk,c,hi,hl,hd⟩⟩
 ·(
 refine⟨none,_,by rw[hR] at hl;exact run_endLoop hl (by simp),?_⟩;exact hdone _ _ (Nat.le_refl _) (hI _ _ _ hi (turn _ _)) ((World.putObj_heap_other (by omega)).trans hd))
 ·(
 refine⟨some c,_,by rw[hR] at hl;exact run_endLoop hl (by simp),?_⟩;exact hstop _ c k _ (Nat.le_refl _) hk (hIx c _ _ _ hi (turn _ _)) ((World.putObj_heap_other (by omega)).trans hd))))
inductive Nd (β:Type) where
  | mk (x:β) (l:List (Nd β))
def Nd.lab{β:Type}:Nd β->β | .mk x _=>x
theorem Nd.ind{β:Type}{P:Nd β->Prop}(h:∀ x l,(∀ t∈l,P t)->P (.mk x l)):∀ t,P t:=fun t =>
  Nd.rec (motive_1:=P) (motive_2:=fun l=>∀ t∈l,P t) (fun x l ih=>h x l ih) (by simp) (fun x l hx hl y hy=>by
    rcases List.mem_cons.1 hy with rfl | h'
    · exact hx
    · exact hl y h') t
mutual
def Nd.pre{β:Type}:Nd β->List β
  | .mk x l=>x :: Nd.preL l
def Nd.preL{β:Type}:List (Nd β)->List β
  | []=>[]
  | t :: l=>t.pre++Nd.preL l
end
theorem jjn{β:Type}(a b:List (Nd β)):Nd.preL (a++b)=Nd.preL a++Nd.preL b:=by
 induction a with
 | nil=>rfl
 | cons x a ih=>rw[List.cons_append,Nd.preL,ih,Nd.preL,List.append_assoc]
theorem jgp{β:Type}{l:List (Nd β)}{k:Nat}{t:Nd β}(hx:l[k]?=some t):Nd.preL (l.take (k+1))=Nd.preL (l.take k)++t.pre:=by
 obtain⟨hk,he⟩:=List.getElem?_eq_some_iff.1 hx;rw[List.take_succ_eq_append_getElem hk,he,jjn,Nd.preL,Nd.preL,List.append_nil]
theorem jwg{β:Type}{l:List (Nd β)}{k:Nat}{t:Nd β}(hx:l[k]?=some t):Nd.preL l=Nd.preL (l.take k)++(t.pre++Nd.preL (l.drop (k+1))):=by
 obtain⟨hk,he⟩:=List.getElem?_eq_some_iff.1 hx;conv=>lhs;rw[<- List.take_append_drop k l]
 rw[jjn,List.drop_eq_getElem_cons hk,he,Nd.preL]
def At{β:Type}(zs:List β)(k:Nat)(ys:List β):Prop:=∀ i y,ys[i]?=some y->zs[k+i]?=some y
theorem At.left{β:Type}{zs:List β}{k:Nat}{a b:List β}(h:At zs k (a++b)):At zs k a:=fun i y hy=>h i y (by rw[List.getElem?_append_left (List.getElem?_eq_some_iff.1 hy).1];exact hy)
theorem At.right{β:Type}{zs:List β}{k:Nat}{a b:List β}(h:At zs k (a++b)):At zs (k+a.length) b:=fun i y hy=>by
  have:=h (a.length+i) y (by rw[List.getElem?_append_right (by omega)];simpa using hy)
  rw[Nat.add_assoc];exact this
theorem At.all{β:Type}(zs:List β):At zs 0 zs:=fun i y hy=>by rw[Nat.zero_add];exact hy
open S2 (Sc jxv)
def Bar(D b:Nat):Prop:=b≠D
theorem jzr.kn{D B:Nat}{W W':World}{A:Option Addr}{cs:List Value}(h:jzr (Bar D) W A cs)(hk:KN D B W W'):jzr (Bar D) W' A cs:=by
 rcases h with h | ⟨b,off,hA,hP,h⟩
 ·exact .inl h
 ·exact .inr ⟨b,off,hA,hP,fun i x hx=>hk.cell hP (h i x hx)⟩
theorem Ck.Inp.kn{D B:Nat}{W W':World}{k:Ck}(h:k.Inp (Bar D) W)(hk:KN D B W W'):k.Inp (Bar D) W':=⟨h.lies.kn hk,h.cap,h.top,h.nok,h.few⟩
theorem Vl.Inp.kn{D B:Nat}{W W':World}{x:Vl}(h:x.Inp (Bar D) W)(hk:KN D B W W'):x.Inp (Bar D) W':=by
 induction h with
 | mk n m sA sc ss cA cc cs vA vc vs h1 h2 h3 h4 h5 h6 h7 h8 h9 h10 _ ih=>exact .mk _ _ _ _ _ _ _ _ _ _ _ h1 h2 (h3.kn hk) h4 h5 (h6.kn hk) h7 (fun k hk'=>(h8 k hk').kn hk) (h9.kn hk) h10 ih
theorem LiesP_kn{D B:Nat}{W W':World}{A:Option Addr}{l:List Sc}(h:jxv (Bar D) W A l)(hk:KN D B W W'):jxv (Bar D) W' A l:=by
 rcases h with h | ⟨b,off,hA,hP,h⟩
 ·exact .inl h
 ·exact .inr ⟨b,off,hA,hP,fun i x hx=>⟨hk.cell hP (h i x hx).1,hk.cell hP (h i x hx).2⟩⟩
theorem sc_kn{D B:Nat}{W W':World}{s:Sc}(h:s.Inp (Bar D) W)(hk:KN D B W W'):s.Inp (Bar D) W':=by
 induction h with
 | mk k A c l hl h1 h2 h3 _ ih=>exact .mk k A c l (LiesP_kn hl hk) h1 h2 h3 ih
theorem jzr.lt{P:Nat->Prop}{W:World}{A:Option Addr}{cs:List Value}(h:jzr P W A cs):jzr (fun b=>b<W.heap.size) W A cs:=by
 cases cs with
 | nil=>exact .inl rfl
 | cons u cs=>(
 rcases h with h | ⟨b,off,hA,_,h⟩
 ·cases h
 ·exact .inr ⟨b,off,hA,World.block_lt_of_cell? W _ (h 0 u rfl),h⟩)
theorem Vl.Inp.inn{P:Nat->Prop}{W:World}{x:Vl}(h:x.Inp P W):x.In W:=by
 unfold Vl.In;induction h with
 | mk n m sA sc ss cA cc cs vA vc vs h1 h2 h3 h4 h5 h6 h7 h8 h9 h10 _ ih=>exact .mk _ _ _ _ _ _ _ _ _ _ _ h1 h2 h3.lt h4 h5 h6.lt h7 (fun k hk=>⟨(h8 k hk).lies.lt,(h8 k hk).cap,(h8 k hk).top,(h8 k hk).nok,(h8 k hk).few⟩) h9.lt h10 ih
theorem sc_inn{P:Nat->Prop}{W:World}{s:Sc}(h:s.Inp P W):s.In W.heap.size W:=by
 unfold S2.Sc.In;induction h with
 | mk k A c l hl h1 h2 h3 _ ih=>(
 refine .mk k A c l ?_ h1 h2 h3 ih;cases l with
 | nil=>exact .inl rfl
 | cons u l=>(
 rcases hl with h | ⟨b,off,hA,_,h⟩
 ·cases h
 ·exact .inr ⟨b,off,hA,World.block_lt_of_cell? W _ (h 0 u rfl).1,h⟩))
theorem Vl.In.bar{W:World}{x:Vl}{D:Nat}(h:x.In W)(hD:W.heap.size<=D):x.Inp (Bar D) W:=Vl.Inp.mono h fun b hb=>by unfold Bar;omega
theorem jlp{n D:Nat}{W:World}{s:Sc}(h:s.In n W)(hD:n<=D):s.Inp (Bar D) W:=S2.Sc.Inp.mono h fun b hb=>by unfold Bar;omega
def Vl.vs:Vl->List Vl | .mk _ _ _ _ _ _ _ _ _ _ vs=>vs
def Vl.cs:Vl->List Ck | .mk _ _ _ _ _ _ _ cs _ _ _=>cs
def Vl.ss:Vl->List Str | .mk _ _ _ _ ss _ _ _ _ _ _=>ss
def scAt(l:List Sc)(i:Nat):Sc:=(l[min i (l.length - 1)]?).getD (.mk 0 none 0 [])
mutual
def jjl:Vl->Sc->Nd (Sc×Vl)
  | .mk n m sA sc ss cA cc cs vA vc vs,s => .mk (s,.mk n m sA sc ss cA cc cs vA vc vs) (jvq vs s.ins 0)
def jvq:List Vl->List Sc->Nat->List (Nd (Sc×Vl))
  | [],_,_=>[]
  | x :: l,ins,i=>jjl x (scAt ins i) :: jvq l ins (i+1)
end
theorem jkb:∀ (l:List Vl) (ins:List Sc) (j i:Nat),(jvq l ins j)[i]?=(l[i]?).map fun x=>jjl x (scAt ins (j+i))
  | [],_,_,_=>by simp[jvq]
  | x :: l,ins,j,0=>by simp[jvq]
  | x :: l,ins,j,i+1=>by
    simp only[jvq,List.getElem?_cons_succ]
    rw[jkb l ins (j+1) i,show j+1+i=j+(i+1) by omega]
theorem jbt(v:Vl)(s:Sc):jjl v s = .mk (s,v) (jvq v.vs s.ins 0):=by cases v;rw[jjl];rfl
theorem jvp(v:Vl)(s:Sc):(jjl v s).lab=(s,v):=by rw[jbt];rfl
def jxc(x:Sc×Vl):List (Sc×Vl):=(List.range x.2.vs.length).zipWith (fun i v=>(scAt x.1.ins i,v)) x.2.vs
theorem jv0(x:Sc×Vl)(i:Nat):(jxc x)[i]?=(x.2.vs[i]?).map fun v=>(scAt x.1.ins i,v):=by
 unfold jxc;rw[List.getElem?_zipWith];rcases Nat.lt_or_ge i x.2.vs.length with h | h
 ·rw[List.getElem?_range h,List.getElem?_eq_getElem h];rfl
 ·rw[List.getElem?_eq_none h,List.getElem?_eq_none (by simpa using h)];rfl
theorem jgx(x:Sc×Vl):(jxc x).length=x.2.vs.length:=by simp[jxc]
theorem jcg(x:Sc×Vl):(jvq x.2.vs x.1.ins 0).map Nd.lab=jxc x:=by
 refine List.ext_getElem? fun i=>?_
 rw[List.getElem?_map,jkb,jv0];cases x.2.vs[i]? <;> simp[jvp]
end V4
end Go.Proofs.YtobggoephhjofaaGreatDoor
