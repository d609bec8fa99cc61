/- A part. No condition. -/
import Derived.Test.YtobggoephhjofaaGreatDoorMk25
set_option maxRecDepth 100000
set_option maxHeartbeats 16000000
namespace Go.Proofs.YtobggoephhjofaaGreatDoor
namespace J5
open Go.RowKit Go.Shelf
open C3 (Tk In jzk jzf jjd jxz jjb jjc)
open S2 (Sc Tr isT)
open V4 (Va Vl Ck isV jzh jzw jqp)
def RetY(w:World)(x y:Vl)(o:Va)(e:Ending)(w':World):Prop:=∃ z:Vl,(z=x\/z=y)/\e = .returned z.val/\z.er=o/\Below w.heap.size w w'
theorem lastE_zl{y:Va}(h:isV (.mk 6 []) y=true)(hn:Nn y):jj4 .zero y=y:=by
 have h2:=(jjs 16 (.mk 6 []) (Nat.le_refl _) (by decide) y h hn).2;rw[jzp,if_neg (by decide),if_pos rfl] at h2;exact Option.some.inj h2
theorem lastE_zr{y:Va}(h:isV (.mk 6 []) y=true)(hn:Nn y):jj4 y .zero=y:=by
 have h2:=(jjs 16 (.mk 6 []) (Nat.le_refl _) (by decide) y h hn).1;rw[jzp,if_neg (by decide),if_pos rfl] at h2;exact Option.some.inj h2
theorem jwq{n m n' m':Int}{t t':Str}(b:Bool)(h:b=true↔(n<n'\/(n=n'/\(m<m'\/(m=m'/\t<t'))))):jj4 (.mk n m [t] [] []) (.mk n' m' [t'] [] [])=if b=true then .mk n' m' [t'] [] [] else .mk n m [t] [] []:=by
 have key:jxc (.mk n m [t] [] []) (.mk n' m' [t'] [] [])<0↔(n<n'\/(n=n'/\(m<m'\/(m=m'/\t<t')))):=by (
 have hL:jjl [t] [t']<0↔t<t':=by (
 rw[jjl];by_cases h0:jx1 t t'=0
 ·(rw[if_pos h0];have e:t=t':=jxe.eq h0;subst e;simp[jjl])
 ·(
 rw[if_neg h0];unfold jx1;by_cases h1:t<t'
 ·rw[if_pos h1];simp[h1]
 ·(rw[if_neg h1];split <;> simp[h1])))
 show (if jjd n n'=0 then (if jjd m m'=0 then jjl [t] [t'] else jjd m m') else jjd n n')<0↔_
 rcases Int.lt_trichotomy n n' with h | h | h
 ·(rw[jxz h,if_neg (by decide)];exact⟨fun _ => .inl h,fun _=>by decide⟩)
 ·(
 subst h;rw[jjc,if_pos rfl];rcases Int.lt_trichotomy m m' with h2 | h2 | h2
 ·(rw[jxz h2,if_neg (by decide)];exact⟨fun _ => .inr ⟨rfl,.inl h2⟩,fun _=>by decide⟩)
 ·(
 subst h2;rw[jjc,if_pos rfl,hL];exact⟨fun h => .inr ⟨rfl,.inr ⟨rfl,h⟩⟩,fun h=>by (
 rcases h with h | ⟨_,h | ⟨_,h⟩⟩
 ·omega
 ·omega
 ·exact h)⟩)
 ·(rw[jjb h2,if_neg (by decide)];exact⟨fun h=>by omega,fun h=>by rcases h with h | ⟨_,h | ⟨h,_⟩⟩ <;> omega⟩))
 ·(rw[jjb h,if_neg (by decide)];exact⟨fun h=>by omega,fun h=>by rcases h with h | ⟨h,_⟩ <;> omega⟩))
 unfold jj4;by_cases hb:b=true
 ·rw[if_pos hb,if_pos (key.2 (h.1 hb))];rfl
 ·rw[if_neg hb,if_neg (fun h2=>hb (h.2 (key.1 h2)))];rfl
theorem jcb(x y:Vl)(w:World)(hx:x.In w)(hy:y.In w)(vx:isV (.mk 6 []) x.er=true)(vy:isV (.mk 6 []) y.er=true):Calls Tryz.prog 50 #[x.val,y.val] w (RetY w x y (jj4 x.er y.er)):=by
 have HX:=Lh hx;have HY:=Lh hy;have HNX:=Lh (Nn.of_inp hx);have HNY:=Lh (Nn.of_inp hy);have HVX:=Lh vx;have HVY:=Lh vy;obtain⟨R,hR⟩:=exq (jj4 x.er y.er);have HR:=Lh hR;rw[hR];obtain⟨x0,cU⟩:=exq (x);obtain⟨y0,cN⟩:=exq (y);have EX:=Lh cU;have EY:=Lh cN;rw[cU] at HX HNX HVX HR;rw[cN] at HY HNY HVY HR;clear cU cN hR hx hy;have fV:=jw5.1 vx;have jj:=jw5.1 vy;clear vx vy;obtain⟨xn,xm,xK,xL,xN,xO,xP,xQ,xR,xS,xU⟩:=x;obtain⟨yn,ym,yK,yL,yN,yO,yP,yQ,yR,yS,yT⟩:=y;rw[jzw] at fV jj;rcases fV with fV | ⟨n1,m1,t1,fV,-,-⟩
 ·(
 have ex0:x0.er = .zero:=by rw[<- EX.out,jzw];exact fV
 rw[Va.zero,jqp] at fV;obtain⟨rfl,rfl,rfl,uw,uv⟩:=fV;obtain rfl:=List.map_eq_nil_iff.1 uw;obtain rfl:=List.map_eq_nil_iff.1 uv;clear jj uw uv;have HE:=Lh ex0;clear ex0;simp only[jzh,List.length_nil];obtain⟨V,hV⟩:=exq (((w.alloc (.cells #[.int .u64 0,.int .u64 0,.slice xK 0 xL,.slice xO 0 xP,.slice xR 0 xS] 30)).alloc (.cells #[.int .u64 yn,.int .u64 ym,.slice yK yN.length yL,.slice yO yQ.length yP,.slice yR yT.length yS] 30)).alloc (.cells #[.int .u64 0,.int .u64 0,.slice none 0 0,.slice none 0 0,.slice none 0 0] 30));obtain⟨q0,q1,q2,ai,dm⟩:=jdd hV;obtain⟨a0,a1,a2,a3,a4⟩:=blk5 q0;obtain⟨b0,b1,b2,b3,b4⟩:=blk5 q1;have d0:V.cell? ⟨w.heap.size+1+1,0,none⟩=some (.int .u64 0):=jza q2 0 _ rfl;have f0:=jzb q2 0;have d1:V.cell? ⟨w.heap.size+1+1,1,none⟩=some (.int .u64 0):=jza q2 1 _ rfl;have f1:=jzb q2 1;have d2:V.cell? ⟨w.heap.size+1+1,2,none⟩=some (.slice none 0 0):=jza q2 2 _ rfl;have f2:=jzb q2 2;have d3:V.cell? ⟨w.heap.size+1+1,3,none⟩=some (.slice none 0 0):=jza q2 3 _ rfl;have f3:=jzb q2 3;have d4:V.cell? ⟨w.heap.size+1+1,4,none⟩=some (.slice none 0 0):=jza q2 4 _ rfl;have f4:=jzb q2 4;go_enter Tryz.func50,Tryz.ntmps50;go_wp2_with fail;refine bodyPost_ret (V4.jzv rfl _ _ (w.heap.size+1+1) (.int .u64 yn) (.int .u64 ym) (.slice yK yN.length yL) (.slice yO yQ.length yP) (.slice yR yT.length yS) rfl (jza (jzc q2) 0 _ rfl) (jza (jzc q2) 1 _ rfl) (jza (jzc q2) 2 _ rfl) (jza (jzc q2) 3 _ rfl) (jza (jzc q2) 4 _ rfl)) rfl ?_;exact⟨_,.inr rfl,rfl,by rw[EY.out,<- HR.out];exact (by rw[HE.out,lastE_zl HVY.out HNY.out]),jzm ai (by omega)⟩)
 ·(
 have ex0:x0.er = .mk n1 m1 [t1] [] []:=by rw[<- EX.out,jzw];exact fV
 rw[jqp] at fV;obtain⟨rfl,rfl,rfl,uw,uv⟩:=fV;obtain rfl:=List.map_eq_nil_iff.1 uw;obtain rfl:=List.map_eq_nil_iff.1 uv;clear uw uv;have HE:=Lh ex0;clear ex0;rcases jj with jj | ⟨n2,m2,t2,jj,-,-⟩
 ·(
 have ey0:y0.er = .zero:=by rw[<- EY.out,jzw];exact jj
 rw[Va.zero,jqp] at jj;obtain⟨rfl,rfl,rfl,uu,ut⟩:=jj;obtain rfl:=List.map_eq_nil_iff.1 uu;obtain rfl:=List.map_eq_nil_iff.1 ut;clear uu ut;have ri:=Lh ey0;clear ey0;simp only[jzh,List.length_nil,List.length_cons,Nat.zero_add];obtain⟨V,hV⟩:=exq (((w.alloc (.cells #[.int .u64 xn,.int .u64 xm,.slice xK 1 xL,.slice xO 0 xP,.slice xR 0 xS] 30)).alloc (.cells #[.int .u64 0,.int .u64 0,.slice yK 0 yL,.slice yO 0 yP,.slice yR 0 yS] 30)).alloc (.cells #[.int .u64 0,.int .u64 0,.slice none 0 0,.slice none 0 0,.slice none 0 0] 30));obtain⟨q0,q1,q2,ai,dm⟩:=jdd hV;obtain⟨a0,a1,a2,a3,a4⟩:=blk5 q0;obtain⟨b0,b1,b2,b3,b4⟩:=blk5 q1;have d0:V.cell? ⟨w.heap.size+1+1,0,none⟩=some (.int .u64 0):=jza q2 0 _ rfl;have f0:=jzb q2 0;have d1:V.cell? ⟨w.heap.size+1+1,1,none⟩=some (.int .u64 0):=jza q2 1 _ rfl;have f1:=jzb q2 1;have d2:V.cell? ⟨w.heap.size+1+1,2,none⟩=some (.slice none 0 0):=jza q2 2 _ rfl;have f2:=jzb q2 2;have d3:V.cell? ⟨w.heap.size+1+1,3,none⟩=some (.slice none 0 0):=jza q2 3 _ rfl;have f3:=jzb q2 3;have d4:V.cell? ⟨w.heap.size+1+1,4,none⟩=some (.slice none 0 0):=jza q2 4 _ rfl;have f4:=jzb q2 4;go_enter Tryz.func50,Tryz.ntmps50;go_wp2_with fail;refine bodyPost_ret (V4.jzv rfl _ _ (w.heap.size+1+1) (.int .u64 xn) (.int .u64 xm) (.slice xK 1 xL) (.slice xO 0 xP) (.slice xR 0 xS) rfl (jza (jzc q2) 0 _ rfl) (jza (jzc q2) 1 _ rfl) (jza (jzc q2) 2 _ rfl) (jza (jzc q2) 3 _ rfl) (jza (jzc q2) 4 _ rfl)) rfl ?_;exact⟨_,.inl rfl,rfl,by rw[EX.out,<- HR.out];exact (by rw[ri.out,lastE_zr HVX.out HNX.out]),jzm ai (by omega)⟩)
 ·(
 have ey0:y0.er = .mk n2 m2 [t2] [] []:=by rw[<- EY.out,jzw];exact jj
 rw[jqp] at jj;obtain⟨rfl,rfl,rfl,uu,ut⟩:=jj;obtain rfl:=List.map_eq_nil_iff.1 uu;obtain rfl:=List.map_eq_nil_iff.1 ut;clear uu ut;have ri:=Lh ey0;clear ey0;have hlx:jqr w xK [t1]:=(show (Vl.mk xn xm xK xL [t1] xO xP [] xR xS []).In w by rw[EX.out];exact HX.out).out.sl;have hly:jqr w yK [t2]:=(show (Vl.mk yn ym yK yL [t2] yO yP [] yR yS []).In w by rw[EY.out];exact HY.out).out.sl;obtain⟨xb,xo,rfl,gd,hxt⟩:=hlx.get (k:=0) (by simp);obtain⟨yb,yo,rfl,lH,hyt⟩:=hly.get (k:=0) (by simp);have ct1:=hxt 0 t1 rfl;have ct2:=hyt 0 t2 rfl;clear hlx hly hxt hyt;simp only[jzh,List.length_nil,List.length_cons,Nat.zero_add];by_cases hn:xn=yn
 ·(
 skip
 subst hn;by_cases hm:xm=ym
 ·(
 skip
 subst hm;by_cases ht:t1<t2
 ·(
 skip
 obtain⟨V,hV⟩:=exq (((w.alloc (.cells #[.int .u64 xn,.int .u64 xm,.slice (some ⟨xb,xo,none⟩) 1 xL,.slice xO 0 xP,.slice xR 0 xS] 30)).alloc (.cells #[.int .u64 xn,.int .u64 xm,.slice (some ⟨yb,yo,none⟩) 1 yL,.slice yO 0 yP,.slice yR 0 yS] 30)).alloc (.cells #[.int .u64 0,.int .u64 0,.slice none 0 0,.slice none 0 0,.slice none 0 0] 30));obtain⟨q0,q1,q2,ai,dm⟩:=jdd hV;obtain⟨a0,a1,a2,a3,a4⟩:=blk5 q0;obtain⟨b0,b1,b2,b3,b4⟩:=blk5 q1;have d0:V.cell? ⟨w.heap.size+1+1,0,none⟩=some (.int .u64 0):=jza q2 0 _ rfl;have f0:=jzb q2 0;have d1:V.cell? ⟨w.heap.size+1+1,1,none⟩=some (.int .u64 0):=jza q2 1 _ rfl;have f1:=jzb q2 1;have d2:V.cell? ⟨w.heap.size+1+1,2,none⟩=some (.slice none 0 0):=jza q2 2 _ rfl;have f2:=jzb q2 2;have d3:V.cell? ⟨w.heap.size+1+1,3,none⟩=some (.slice none 0 0):=jza q2 3 _ rfl;have f3:=jzb q2 3;have d4:V.cell? ⟨w.heap.size+1+1,4,none⟩=some (.slice none 0 0):=jza q2 4 _ rfl;have f4:=jzb q2 4;have g1:=R1.jkx ht;have u1:V.cell? ⟨xb,xo,none⟩=some (.string (S t1)):=(ai.cell (p:=⟨xb,xo+0,none⟩) gd).trans ct1;have u2:V.cell? ⟨yb,yo,none⟩=some (.string (S t2)):=(ai.cell (p:=⟨yb,yo+0,none⟩) lH).trans ct2;go_enter Tryz.func50,Tryz.ntmps50;go_wp2_with fail;go_quiet (fail)
 go_wp2_with fail;refine bodyPost_ret (V4.jzv rfl _ _ (w.heap.size+1+1) (.int .u64 xn) (.int .u64 xm) (.slice (some ⟨yb,yo,none⟩) 1 yL) (.slice yO 0 yP) (.slice yR 0 yS) rfl (jza (jzc (W:=V.drewN _) q2) 0 _ rfl) (jza (jzc (W:=V.drewN _) q2) 1 _ rfl) (jza (jzc (W:=V.drewN _) q2) 2 _ rfl) (jza (jzc (W:=V.drewN _) q2) 3 _ rfl) (jza (jzc (W:=V.drewN _) q2) 4 _ rfl)) rfl ?_;exact⟨_,.inr rfl,rfl,by rw[EY.out,<- HR.out];exact (by rw[HE.out,ri.out,jwq true (by simp[ht])];rfl),jzm (jzq ai _) (by omega)⟩)
 ·(
 skip
 obtain⟨V,hV⟩:=exq (((w.alloc (.cells #[.int .u64 xn,.int .u64 xm,.slice (some ⟨xb,xo,none⟩) 1 xL,.slice xO 0 xP,.slice xR 0 xS] 30)).alloc (.cells #[.int .u64 xn,.int .u64 xm,.slice (some ⟨yb,yo,none⟩) 1 yL,.slice yO 0 yP,.slice yR 0 yS] 30)).alloc (.cells #[.int .u64 0,.int .u64 0,.slice none 0 0,.slice none 0 0,.slice none 0 0] 30));obtain⟨q0,q1,q2,ai,dm⟩:=jdd hV;obtain⟨a0,a1,a2,a3,a4⟩:=blk5 q0;obtain⟨b0,b1,b2,b3,b4⟩:=blk5 q1;have d0:V.cell? ⟨w.heap.size+1+1,0,none⟩=some (.int .u64 0):=jza q2 0 _ rfl;have f0:=jzb q2 0;have d1:V.cell? ⟨w.heap.size+1+1,1,none⟩=some (.int .u64 0):=jza q2 1 _ rfl;have f1:=jzb q2 1;have d2:V.cell? ⟨w.heap.size+1+1,2,none⟩=some (.slice none 0 0):=jza q2 2 _ rfl;have f2:=jzb q2 2;have d3:V.cell? ⟨w.heap.size+1+1,3,none⟩=some (.slice none 0 0):=jza q2 3 _ rfl;have f3:=jzb q2 3;have d4:V.cell? ⟨w.heap.size+1+1,4,none⟩=some (.slice none 0 0):=jza q2 4 _ rfl;have f4:=jzb q2 4;have g1:=R1.jwb ht;have u1:V.cell? ⟨xb,xo,none⟩=some (.string (S t1)):=(ai.cell (p:=⟨xb,xo+0,none⟩) gd).trans ct1;have u2:V.cell? ⟨yb,yo,none⟩=some (.string (S t2)):=(ai.cell (p:=⟨yb,yo+0,none⟩) lH).trans ct2;go_enter Tryz.func50,Tryz.ntmps50;go_wp2_with fail;go_quiet (fail)
 go_wp2_with fail;refine bodyPost_ret (V4.jzv rfl _ _ (w.heap.size+1+1) (.int .u64 xn) (.int .u64 xm) (.slice (some ⟨xb,xo,none⟩) 1 xL) (.slice xO 0 xP) (.slice xR 0 xS) rfl (jza (jzc (W:=V.drewN _) q2) 0 _ rfl) (jza (jzc (W:=V.drewN _) q2) 1 _ rfl) (jza (jzc (W:=V.drewN _) q2) 2 _ rfl) (jza (jzc (W:=V.drewN _) q2) 3 _ rfl) (jza (jzc (W:=V.drewN _) q2) 4 _ rfl)) rfl ?_;exact⟨_,.inl rfl,rfl,by rw[EX.out,<- HR.out];exact (by rw[HE.out,ri.out,jwq false (by simp[ht])];rfl),jzm (jzq ai _) (by omega)⟩))
 ·(
 skip
 by_cases hm2:ym<xm
 ·(
 skip
 obtain⟨V,hV⟩:=exq (((w.alloc (.cells #[.int .u64 xn,.int .u64 xm,.slice (some ⟨xb,xo,none⟩) 1 xL,.slice xO 0 xP,.slice xR 0 xS] 30)).alloc (.cells #[.int .u64 xn,.int .u64 ym,.slice (some ⟨yb,yo,none⟩) 1 yL,.slice yO 0 yP,.slice yR 0 yS] 30)).alloc (.cells #[.int .u64 0,.int .u64 0,.slice none 0 0,.slice none 0 0,.slice none 0 0] 30));obtain⟨q0,q1,q2,ai,dm⟩:=jdd hV;obtain⟨a0,a1,a2,a3,a4⟩:=blk5 q0;obtain⟨b0,b1,b2,b3,b4⟩:=blk5 q1;have d0:V.cell? ⟨w.heap.size+1+1,0,none⟩=some (.int .u64 0):=jza q2 0 _ rfl;have f0:=jzb q2 0;have d1:V.cell? ⟨w.heap.size+1+1,1,none⟩=some (.int .u64 0):=jza q2 1 _ rfl;have f1:=jzb q2 1;have d2:V.cell? ⟨w.heap.size+1+1,2,none⟩=some (.slice none 0 0):=jza q2 2 _ rfl;have f2:=jzb q2 2;have d3:V.cell? ⟨w.heap.size+1+1,3,none⟩=some (.slice none 0 0):=jza q2 3 _ rfl;have f3:=jzb q2 3;have d4:V.cell? ⟨w.heap.size+1+1,4,none⟩=some (.slice none 0 0):=jza q2 4 _ rfl;have f4:=jzb q2 4;have g1:(xm != ym)=true:=bne_iff_ne.2 hm;have g2:decide (ym<xm)=true:=decide_eq_true hm2;clear hm;go_enter Tryz.func50,Tryz.ntmps50;go_wp2_with fail;refine bodyPost_ret (V4.jzv rfl _ _ (w.heap.size+1+1) (.int .u64 xn) (.int .u64 xm) (.slice (some ⟨xb,xo,none⟩) 1 xL) (.slice xO 0 xP) (.slice xR 0 xS) rfl (jza (jzc q2) 0 _ rfl) (jza (jzc q2) 1 _ rfl) (jza (jzc q2) 2 _ rfl) (jza (jzc q2) 3 _ rfl) (jza (jzc q2) 4 _ rfl)) rfl ?_;exact⟨_,.inl rfl,rfl,by rw[EX.out,<- HR.out];exact (by rw[HE.out,ri.out,jwq false (by simp;omega)];rfl),jzm ai (by omega)⟩)
 ·(
 skip
 obtain⟨V,hV⟩:=exq (((w.alloc (.cells #[.int .u64 xn,.int .u64 xm,.slice (some ⟨xb,xo,none⟩) 1 xL,.slice xO 0 xP,.slice xR 0 xS] 30)).alloc (.cells #[.int .u64 xn,.int .u64 ym,.slice (some ⟨yb,yo,none⟩) 1 yL,.slice yO 0 yP,.slice yR 0 yS] 30)).alloc (.cells #[.int .u64 0,.int .u64 0,.slice none 0 0,.slice none 0 0,.slice none 0 0] 30));obtain⟨q0,q1,q2,ai,dm⟩:=jdd hV;obtain⟨a0,a1,a2,a3,a4⟩:=blk5 q0;obtain⟨b0,b1,b2,b3,b4⟩:=blk5 q1;have d0:V.cell? ⟨w.heap.size+1+1,0,none⟩=some (.int .u64 0):=jza q2 0 _ rfl;have f0:=jzb q2 0;have d1:V.cell? ⟨w.heap.size+1+1,1,none⟩=some (.int .u64 0):=jza q2 1 _ rfl;have f1:=jzb q2 1;have d2:V.cell? ⟨w.heap.size+1+1,2,none⟩=some (.slice none 0 0):=jza q2 2 _ rfl;have f2:=jzb q2 2;have d3:V.cell? ⟨w.heap.size+1+1,3,none⟩=some (.slice none 0 0):=jza q2 3 _ rfl;have f3:=jzb q2 3;have d4:V.cell? ⟨w.heap.size+1+1,4,none⟩=some (.slice none 0 0):=jza q2 4 _ rfl;have f4:=jzb q2 4;have g1:(xm != ym)=true:=bne_iff_ne.2 hm;have g2:decide (ym<xm)=false:=decide_eq_false hm2;have hm3:=hm;clear hm;go_enter Tryz.func50,Tryz.ntmps50;go_wp2_with fail;refine bodyPost_ret (V4.jzv rfl _ _ (w.heap.size+1+1) (.int .u64 xn) (.int .u64 ym) (.slice (some ⟨yb,yo,none⟩) 1 yL) (.slice yO 0 yP) (.slice yR 0 yS) rfl (jza (jzc q2) 0 _ rfl) (jza (jzc q2) 1 _ rfl) (jza (jzc q2) 2 _ rfl) (jza (jzc q2) 3 _ rfl) (jza (jzc q2) 4 _ rfl)) rfl ?_;exact⟨_,.inr rfl,rfl,by rw[EY.out,<- HR.out];exact (by rw[HE.out,ri.out,jwq true (by simp;omega)];rfl),jzm ai (by omega)⟩)))
 ·(
 skip
 by_cases ji:yn<xn
 ·(
 skip
 obtain⟨V,hV⟩:=exq (((w.alloc (.cells #[.int .u64 xn,.int .u64 xm,.slice (some ⟨xb,xo,none⟩) 1 xL,.slice xO 0 xP,.slice xR 0 xS] 30)).alloc (.cells #[.int .u64 yn,.int .u64 ym,.slice (some ⟨yb,yo,none⟩) 1 yL,.slice yO 0 yP,.slice yR 0 yS] 30)).alloc (.cells #[.int .u64 0,.int .u64 0,.slice none 0 0,.slice none 0 0,.slice none 0 0] 30));obtain⟨q0,q1,q2,ai,dm⟩:=jdd hV;obtain⟨a0,a1,a2,a3,a4⟩:=blk5 q0;obtain⟨b0,b1,b2,b3,b4⟩:=blk5 q1;have d0:V.cell? ⟨w.heap.size+1+1,0,none⟩=some (.int .u64 0):=jza q2 0 _ rfl;have f0:=jzb q2 0;have d1:V.cell? ⟨w.heap.size+1+1,1,none⟩=some (.int .u64 0):=jza q2 1 _ rfl;have f1:=jzb q2 1;have d2:V.cell? ⟨w.heap.size+1+1,2,none⟩=some (.slice none 0 0):=jza q2 2 _ rfl;have f2:=jzb q2 2;have d3:V.cell? ⟨w.heap.size+1+1,3,none⟩=some (.slice none 0 0):=jza q2 3 _ rfl;have f3:=jzb q2 3;have d4:V.cell? ⟨w.heap.size+1+1,4,none⟩=some (.slice none 0 0):=jza q2 4 _ rfl;have f4:=jzb q2 4;have g1:(xn != yn)=true:=bne_iff_ne.2 hn;have g2:decide (yn<xn)=true:=decide_eq_true ji;clear hn;go_enter Tryz.func50,Tryz.ntmps50;go_wp2_with fail;refine bodyPost_ret (V4.jzv rfl _ _ (w.heap.size+1+1) (.int .u64 xn) (.int .u64 xm) (.slice (some ⟨xb,xo,none⟩) 1 xL) (.slice xO 0 xP) (.slice xR 0 xS) rfl (jza (jzc q2) 0 _ rfl) (jza (jzc q2) 1 _ rfl) (jza (jzc q2) 2 _ rfl) (jza (jzc q2) 3 _ rfl) (jza (jzc q2) 4 _ rfl)) rfl ?_;exact⟨_,.inl rfl,rfl,by rw[EX.out,<- HR.out];exact (by rw[HE.out,ri.out,jwq false (by simp;omega)];rfl),jzm ai (by omega)⟩)
 ·(
 skip
 obtain⟨V,hV⟩:=exq (((w.alloc (.cells #[.int .u64 xn,.int .u64 xm,.slice (some ⟨xb,xo,none⟩) 1 xL,.slice xO 0 xP,.slice xR 0 xS] 30)).alloc (.cells #[.int .u64 yn,.int .u64 ym,.slice (some ⟨yb,yo,none⟩) 1 yL,.slice yO 0 yP,.slice yR 0 yS] 30)).alloc (.cells #[.int .u64 0,.int .u64 0,.slice none 0 0,.slice none 0 0,.slice none 0 0] 30));obtain⟨q0,q1,q2,ai,dm⟩:=jdd hV;obtain⟨a0,a1,a2,a3,a4⟩:=blk5 q0;obtain⟨b0,b1,b2,b3,b4⟩:=blk5 q1;have d0:V.cell? ⟨w.heap.size+1+1,0,none⟩=some (.int .u64 0):=jza q2 0 _ rfl;have f0:=jzb q2 0;have d1:V.cell? ⟨w.heap.size+1+1,1,none⟩=some (.int .u64 0):=jza q2 1 _ rfl;have f1:=jzb q2 1;have d2:V.cell? ⟨w.heap.size+1+1,2,none⟩=some (.slice none 0 0):=jza q2 2 _ rfl;have f2:=jzb q2 2;have d3:V.cell? ⟨w.heap.size+1+1,3,none⟩=some (.slice none 0 0):=jza q2 3 _ rfl;have f3:=jzb q2 3;have d4:V.cell? ⟨w.heap.size+1+1,4,none⟩=some (.slice none 0 0):=jza q2 4 _ rfl;have f4:=jzb q2 4;have g1:(xn != yn)=true:=bne_iff_ne.2 hn;have g2:decide (yn<xn)=false:=decide_eq_false ji;have vB:=hn;clear hn;go_enter Tryz.func50,Tryz.ntmps50;go_wp2_with fail;refine bodyPost_ret (V4.jzv rfl _ _ (w.heap.size+1+1) (.int .u64 yn) (.int .u64 ym) (.slice (some ⟨yb,yo,none⟩) 1 yL) (.slice yO 0 yP) (.slice yR 0 yS) rfl (jza (jzc q2) 0 _ rfl) (jza (jzc q2) 1 _ rfl) (jza (jzc q2) 2 _ rfl) (jza (jzc q2) 3 _ rfl) (jza (jzc q2) 4 _ rfl)) rfl ?_;exact⟨_,.inr rfl,rfl,by rw[EY.out,<- HR.out];exact (by rw[HE.out,ri.out,jwq true (by simp;omega)];rfl),jzm ai (by omega)⟩))))
end J5
namespace R1
open Go.RowKit
def RetOS(w:World)(base:Nat)(ys:List Str)(e:Ending)(w':World):Prop:=∃ v,e = .returned v/\Own w' base v ys/\Below w.heap.size w w'
theorem jby{w w':World}{base:Nat}{v:Value}{ys zs:List Str}(h:Own w' base v ys)(e:ys=zs)(hb:Below w.heap.size w w'):RetOS w base zs (.returned v) w':=e▸⟨v,rfl,h,hb⟩
theorem jfo{w:World}{base base':Nat}{v:Value}{ys:List Str}(h:Own w base v ys)(hb:base'<=base):Own w base' v ys:=by
 refine⟨h.1,h.2.imp id ?_⟩;rintro ⟨g,cap,cur,rfl,h1,h2⟩;exact⟨g,cap,cur,rfl,leT hb h1,h2⟩
theorem put_new(A:Option Addr)(c:Nat)(xs:List Str)(s:Str)(w:World)(base:Nat)(hl:jqr w A xs)(ho:Own w base (.slice A xs.length c) xs)(wB:base<=w.heap.size)(hn:xs.length<=900000)(hc:xs.length<=c):Calls Tryz.prog 95 #[.slice A xs.length c,.string (S s)] w (RetOS w base (jbm s xs)):=by
 have HOW:=Lh ho;have li:=Lh wB;clear ho wB;go_enter Tryz.func95,Tryz.ntmps95;go_wp2
 go_loop [5] (fun i=>∃ k:Nat,k<=xs.length/\i = .int .i64 k/\Hid (∀ x∈xs.take k,x<s)) (fun i=>xs.length - (intOf i).toNat)
 case atStart=>exact⟨0,Nat.zero_le _,rfl,by simp[Hid]⟩
 case round=>(
 obtain⟨k,hk,rfl,h0⟩:=hrel;by_cases hlt:k<xs.length
 ·(
 obtain⟨b,off,rfl,hb,b8⟩:=hl.get hlt;obtain⟨x,hx⟩:∃ x,xs[k]?=some x:=⟨_,List.getElem?_eq_getElem hlt⟩
 have cj:=b8 k x hx;have HX:=Lh hx;have HC:=Lh b8;clear hx b8 hl;rcases jvg x s with js | js | js
 ·(
 have af:=jkx js;have ab:=jvr (jwo js);have HN:=Lh js;clear js;go_wp2
 go_round
 case rel=>exact⟨k+1,by omega,by go_num,lt_snoc h0.out HX.out HN.out⟩
 case measure=>simp[intOf];omega)
 ·(
 subst js;go_wp2
 go_ret;have e:=jl4 h0.out HX.out;refine jby HOW.out e (Below.refl _ _))
 ·(
 have af:=jwb (jxg js);have ab:=jvr (jwo js).symm;have HN:=Lh js;clear js;go_wp2
 have hkc:k<=c:=by omega
 have hkc':¬ c=k:=by omega
 go_region_law (first
   | (refine jj8 _ rfl (.const (.slice none 0 0)) (.tmp 27) _ rfl w.heap.size Tryz.underlying26 (.slice none 0 0) [] ?qs (Own.nil _ _) (some ⟨b,off,none⟩) k c (xs.take k) ?qm ?qx ?ql ?qn ?qb ?_
      case qs=>go_simp
      case qm=>simp;omega
      case qx=>go_simp
      case ql=>first | exact jqr.take hb HC.out k | exact (jqr.take hb HC.out k).alloc _
      case qn=>simp;omega
      case qb=>simp
      intro v1 w1 ah br cC
      have aD:Below w.heap.size w w1:=by
        first
          | exact (Below.refl _ w).drew.grown br (Nat.le_refl _) (by simp[Value.ownBlock])
          | exact ((Below.refl _ w).alloc (Nat.le_refl _) _).drew.grown br (by simp) (by simp[Value.ownBlock])
      have hnew:=br)
   | (refine jj8 _ rfl (.tmp 28) (.tmp 30) _ rfl w.heap.size Tryz.underlying26 v1 ([]++xs.take k) ?qs (ah.alloc _) (some ⟨w1.heap.size,0,none⟩) 1 1 [s] rfl ?qx (jqr.new _ _ _) ?qn ?qb ?_
      case qs=>go_simp
      case qx=>go_simp
      case qn=>simp;omega
      case qb=>(have:=aD.size;simp;omega)
      intro v2 w2 aw cF cz
      have eC:Below w.heap.size w w2:=(aD.alloc aD.size _).grown cF (by have:=aD.size;simp;omega) (fun k hk=>(ah.lt hk).1))
   | (refine jj8 _ rfl (.tmp 28) (.tmp 30) _ rfl w.heap.size Tryz.underlying26 v1 ([]++xs.take k) ?qs ah (some ⟨w.heap.size,0,none⟩) 1 1 [s] rfl ?qx ?ql ?qn aD.size ?_
      case qs=>go_simp
      case qx=>go_simp
      case ql=>exact jqr.grown (w:=(w.alloc (.cells #[.string (S s)] 9)).drew) (jqr.new w s _) hnew (by simp[Value.ownBlock])
      case qn=>simp;omega
      intro v2 w2 aw cF cz
      have eC:Below w.heap.size w w2:=aD.grown cF aD.size (fun k hk=>(ah.lt hk).1))
   | (refine jj8 _ rfl (.tmp 31) (.tmp 34) _ rfl w.heap.size Tryz.underlying26 v2 (([]++xs.take k)++[s]) ?qs aw (some ⟨b,off+k,none⟩) (xs.length - k) (c - k) (xs.drop k) ?qm ?qx ?ql ?qn eC.size ?_
      case qs=>go_simp
      case qm=>simp
      case qx=>go_simp
      case ql=>exact (jqr.drop hb HC.out k).below eC
      case qn=>simp;omega
      intro v3 w3 ap cV di
      have sq:Below w.heap.size w w3:=eC.grown cV eC.size (fun k hk=>(aw.lt hk).1)))
 all_goals
   go_wp2
   go_ret
   exact jby (jfo ap li.out) (by rw[<- jl3 h0.out HX.out HN.out];simp) sq))
 ·(
 have h1:∀ x∈xs,x<s:=by (have:=h0.out;rwa [List.take_of_length_le (by omega)] at this)
 have H1:=Lh h1;have HL:=Lh hl;clear h1 hl;go_wp2_with (first
   | (at_builtin
      refine jqe _ rfl (.const (.slice none 0 0)) (.tmp 36) _ rfl w.heap.size Tryz.underlying26 (.slice none 0 0) [] rfl (Own.nil _ _) A xs.length c xs rfl rfl HL.out ?qn ?qb ?_
      case qn=>simp;omega
      case qb=>simp
      intro v1 w1 ah br cC
      have aD:Below w.heap.size w w1:=(Below.refl _ w).grown br (Nat.le_refl _) (by simp[Value.ownBlock]))
   | (at_builtin
      refine jqe _ rfl (.tmp 37) (.tmp 39) _ rfl w.heap.size Tryz.underlying26 v1 ([]++xs) rfl (ah.alloc _) (some ⟨w1.heap.size,0,none⟩) 1 1 [s] rfl rfl (jqr.new _ _ _) ?qn ?qb ?_
      case qn=>simp;omega
      case qb=>(have:=aD.size;simp;omega)
      intro v2 w2 aw cF cz
      have eC:Below w.heap.size w w2:=(aD.alloc aD.size _).grown cF (by have:=aD.size;simp;omega) (fun k hk=>(ah.lt hk).1)))
 go_ret;exact jby (jfo aw li.out) (by rw[<- jl5 H1.out];simp) eC))
theorem jgq(A A':Option Addr)(c c':Nat)(us xs:List Str)(w:World)(hla:jqr w A us)(hl:jqr w A' xs)(hna:us.length<=400000)(hn:xs.length<=400000):Calls Tryz.prog 48 #[.slice A us.length c,.slice A' xs.length c'] w (RetOS w w.heap.size (jqm us xs)):=by
 have HLA:=Lh hla;clear hla;go_enter Tryz.func48,Tryz.ntmps48;go_wp2_with (
 at_builtin
 refine jqe _ rfl (.const (.slice none 0 0)) (.tmp 7) _ rfl w.heap.size Tryz.underlying26 (.slice none 0 0) [] rfl (Own.nil _ _) A us.length c us rfl rfl HLA.out ?qn ?qb ?_;case qn=>simp;omega
 case qb=>simp
 intro v1 w1 ah br cC;have aD:Below w.heap.size w w1:=(Below.refl _ w).grown br (Nat.le_refl _) (by simp[Value.ownBlock]))
 obtain⟨B0,d0,rfl,-,-,-⟩:=ah.form;simp only[List.nil_append] at ah ⊢;go_loopw [5,6] (fun out i wr=>∃ (k:Nat) (B:Option Addr) (d:Nat) (ys:List Str),k<=xs.length/\i = .int .i64 k/\out = .slice B ys.length d/\ys.length<=us.length+k/\Own wr w.heap.size (.slice B ys.length d) ys/\Hid (ys=jqm us (xs.take k))/\Below w.heap.size w wr) (fun _ i _=>xs.length - (intOf i).toNat)
 case atStart=>exact⟨0,B0,d0,us,Nat.zero_le _,rfl,rfl,Nat.le_refl _,ah,by simp[Hid,jqm],aD⟩
 case round=>(
 obtain⟨k,B,d,ys,hk,rfl,rfl,nN,hoy,h0,ar⟩:=hrel;by_cases hlt:k<xs.length
 ·(
 obtain⟨b,off,rfl,hb,hc⟩:=(hl.below ar).get hlt;obtain⟨x,hx⟩:∃ x,xs[k]?=some x:=⟨_,List.getElem?_eq_getElem hlt⟩
 have cj:=hc k x hx;have HX:=Lh hx;clear hx hc hl cC br ah;go_wp2_with fail;have hfy:=hoy.form;obtain⟨B2,d2,e2,hyd,-,hly⟩:=hfy;cases e2
 refine (put_new B d ys x wr w.heap.size hly hoy ar.size (by omega) hyd).mono ?_;rintro e w' ⟨v',rfl,h1,h4⟩;obtain⟨B',d',rfl,-,-,-⟩:=h1.form;go_wp2
 go_roundw
 case rel=>(
 refine⟨k+1,B',d',jbm x ys,by omega,by go_num,rfl,?_,h1,?_,ar.trans (h4.mono ar.size)⟩
 ·have:=jmp x ys;omega
 ·(
 show jbm x ys=jqm us (xs.take (k+1))
 rw[jrs HX.out,h0.out]))
 case measure=>simp[intOf];omega)
 ·(
 clear cC br ah;go_wp2
 go_ret;have e:jqm us xs=ys:=by (have:=h0.out;rw[List.take_of_length_le (by omega)] at this;exact this.symm)
 exact jby hoy e.symm ar))
end R1
namespace J5
open Go.RowKit Go.Shelf
open C3 (Tk In jzk jzf)
open S2 (Sc Tr isT)
open V4 (Va Vl Ck isV jqv jzt jzh jzw jqp)
def jp6(P:Nat->Prop)(w:World)(o:Option Va)(e:Ending)(w':World):Prop :=
  ∃ (z:Vl) (b:Bool),e = .returned (.tuple #[z.val,.bool b])/\z.Inp (fun k=>(P k\/w.heap.size<=k)/\k<w'.heap.size) w'/\Below w.heap.size w w'/\((b=true/\o=some z.er)\/(b=false/\o=none))
theorem jq4{P:Nat->Prop}{w V U:World}{o:Option Va}{b:Bool}{D:Nat}{zn zm:Int}{zK:Option Addr}{zL:Nat}{zM:List Str}{zN:Option Addr}{zO:Nat}{zP:List Ck}{zQ:Option Addr}{zR:Nat}{zS:List Vl}(ai:Below w.heap.size w V)(az:Below V.heap.size V U)(hD:w.heap.size<=D)
    (hi:(Vl.mk zn zm zK zL zM zN zO zP zQ zR zS).Inp (fun k=>(P k\/w.heap.size<=k)/\k≠D/\k<U.heap.size) U) (hc:(b=true/\o=some (Vl.mk zn zm zK zL zM zN zO zP zQ zR zS).er)\/(b=false/\o=none)) :
    jp6 P w o (.returned (.tuple #[.agg #[.int .u64 zn,.int .u64 zm,.slice zK zM.length zL,.slice zN zP.length zO,.slice zQ zS.length zR],.bool b])) (jz9 U D (.int .u64 zn) (.int .u64 zm) (.slice zK zM.length zL) (.slice zN zP.length zO) (.slice zQ zS.length zR)) :=
  ⟨_,b,rfl,(hi.keep fun _ hk=>jzn hk.2.1).mono fun _ hk=>⟨hk.1,ltl hk.2.2 (Nat.le_of_eq jzu.symm)⟩,jzm (ai.trans (az.mono ai.size)) hD,hc⟩
theorem refj_1(A:Option Addr)(c:Nat)(P:Nat->Prop)(x y:Vl)(w:World)(hP:∀ k,P k->k<w.heap.size)(hx:x.Inp P w)(hy:y.Inp P w):Calls Tryz.prog 23 #[(Sc.mk 1 A c []).val,x.val,y.val] w (jp6 P w (jzp (.mk 1 []) x.er y.er)):=by
 have nx:x.In w:=hx.mono hP;have ny:y.In w:=hy.mono hP;rw[show jzp (.mk 1 []) x.er y.er=some (.mk (max x.er.n y.er.n) 0 [] [] []) by rw[jzp,if_neg (by decide),if_neg (by decide),if_neg (by decide)]];clear hx hy;obtain⟨n,m,sA,sc,ss,cA,cc,cs,vA,vc,vs⟩:=x;obtain⟨n',m',sA',sc',ss',cA',cc',cs',vA',vc',vs'⟩:=y;have hn:=nx.out.hn;have rz:=ny.out.hn;clear nx ny;rw[jzw,jzw];simp only[Va.n];simp only[S2.jzh,jzh,List.length_nil];obtain⟨V,hV⟩:=exq ((((w.alloc (.cells #[.int .i64 1,.slice A 0 c] 24)).alloc (.cells #[.int .u64 n,.int .u64 m,.slice sA ss.length sc,.slice cA cs.length cc,.slice vA vs.length vc] 30)).alloc (.cells #[.int .u64 n',.int .u64 m',.slice sA' ss'.length sc',.slice cA' cs'.length cc',.slice vA' vs'.length vc'] 30)).alloc (.cells #[.int .u64 0,.int .u64 0,.slice none 0 0,.slice none 0 0,.slice none 0 0] 30));obtain⟨q3,q4,q5,q6,ai,bz⟩:=jbu hV;have dm:w.heap.size+4<=V.heap.size:=by omega
 clear bz;obtain⟨e0,e1⟩:=blk2c q3;obtain⟨a0,a1,a2,a3,a4⟩:=blk5 q4;obtain⟨b0,b1,b2,b3,b4⟩:=blk5 q5;obtain⟨d0,d1,d2,d3,d4⟩:=blk5 q6;obtain⟨f0,f1,f2,f3,f4⟩:=fro5 q6;have fj:0<=max n n'/\max n n'<=18446744073709551615:=by omega
 obtain⟨M,hM⟩:=exq (max n n');rw[hM] at fj;rw[hM];go_enter Tryz.func23,Tryz.ntmps23;go_wp2_with fail;refine bodyPost_ret (rcv5 rfl _ _ (w.heap.size+1+1+1) (.int .u64 M) (.int .u64 0) (.slice none 0 0) (.slice none 0 0) (.slice none 0 0) rfl (jzc q6)) rfl ?_;exact⟨.mk M 0 none 0 [] none 0 [] none 0 [],true,rfl,.mk _ _ _ _ _ _ _ _ _ _ _ fj (by omega) (.inl rfl) (by simp) (by simp) (.inl rfl) (by simp) (by simp) (.inl rfl) (by simp) (by simp),jzm ai (by omega),.inl ⟨rfl,by rw[jzw];rfl⟩⟩
theorem refj_2(A:Option Addr)(c:Nat)(P:Nat->Prop)(x y:Vl)(w:World)(hP:∀ k,P k->k<w.heap.size)(hx:x.Inp P w)(hy:y.Inp P w):Calls Tryz.prog 23 #[(Sc.mk 2 A c []).val,x.val,y.val] w (jp6 P w (jzp (.mk 2 []) x.er y.er)):=by
 have nx:x.In w:=hx.mono hP;have ny:y.In w:=hy.mono hP;rw[show jzp (.mk 2 []) x.er y.er=some (.mk (max x.er.n y.er.n) 0 [] [] []) by rw[jzp,if_neg (by decide),if_neg (by decide),if_neg (by decide)]];clear hx hy;obtain⟨n,m,sA,sc,ss,cA,cc,cs,vA,vc,vs⟩:=x;obtain⟨n',m',sA',sc',ss',cA',cc',cs',vA',vc',vs'⟩:=y;have hn:=nx.out.hn;have rz:=ny.out.hn;clear nx ny;rw[jzw,jzw];simp only[Va.n];simp only[S2.jzh,jzh,List.length_nil];obtain⟨V,hV⟩:=exq ((((w.alloc (.cells #[.int .i64 2,.slice A 0 c] 24)).alloc (.cells #[.int .u64 n,.int .u64 m,.slice sA ss.length sc,.slice cA cs.length cc,.slice vA vs.length vc] 30)).alloc (.cells #[.int .u64 n',.int .u64 m',.slice sA' ss'.length sc',.slice cA' cs'.length cc',.slice vA' vs'.length vc'] 30)).alloc (.cells #[.int .u64 0,.int .u64 0,.slice none 0 0,.slice none 0 0,.slice none 0 0] 30));obtain⟨q3,q4,q5,q6,ai,bz⟩:=jbu hV;have dm:w.heap.size+4<=V.heap.size:=by omega
 clear bz;obtain⟨e0,e1⟩:=blk2c q3;obtain⟨a0,a1,a2,a3,a4⟩:=blk5 q4;obtain⟨b0,b1,b2,b3,b4⟩:=blk5 q5;obtain⟨d0,d1,d2,d3,d4⟩:=blk5 q6;obtain⟨f0,f1,f2,f3,f4⟩:=fro5 q6;have fj:0<=max n n'/\max n n'<=18446744073709551615:=by omega
 obtain⟨M,hM⟩:=exq (max n n');rw[hM] at fj;rw[hM];go_enter Tryz.func23,Tryz.ntmps23;go_wp2_with fail;refine bodyPost_ret (rcv5 rfl _ _ (w.heap.size+1+1+1) (.int .u64 M) (.int .u64 0) (.slice none 0 0) (.slice none 0 0) (.slice none 0 0) rfl (jzc q6)) rfl ?_;exact⟨.mk M 0 none 0 [] none 0 [] none 0 [],true,rfl,.mk _ _ _ _ _ _ _ _ _ _ _ fj (by omega) (.inl rfl) (by simp) (by simp) (.inl rfl) (by simp) (by simp) (.inl rfl) (by simp) (by simp),jzm ai (by omega),.inl ⟨rfl,by rw[jzw];rfl⟩⟩
theorem refj_6(A:Option Addr)(c:Nat)(P:Nat->Prop)(x y:Vl)(w:World)(hP:∀ k,P k->k<w.heap.size)(hx:x.Inp P w)(hy:y.Inp P w)(vx:isV (.mk 6 []) x.er=true)(vy:isV (.mk 6 []) y.er=true):Calls Tryz.prog 23 #[(Sc.mk 6 A c []).val,x.val,y.val] w (jp6 P w (jzp (.mk 6 []) x.er y.er)):=by
 have px:x.In w:=hx.mono hP;have py:y.In w:=hy.mono hP;have HJ:=Lh (fun W (hb:Below w.heap.size w W)=>jcb x y W (px.later hb) (py.later hb) vx vy);rw[show jzp (.mk 6 []) x.er y.er=some (jj4 x.er y.er) by rw[jzp,if_neg (by decide),if_pos rfl]];obtain⟨res,a6⟩:=exq (jj4 x.er y.er);rw[a6] at HJ;rw[a6];have HX:=Lh hx;have HY:=Lh hy;obtain⟨x0,cU⟩:=exq (x);obtain⟨y0,cN⟩:=exq (y);have fO:Hid (∀ z:Vl,z=x\/z=y->z.Inp P w):=fun z hz=>by rcases hz with rfl | rfl;exact hx;exact hy
 rw[cU,cN] at fO;have EX:=Lh cU;have EY:=Lh cN;clear px py hx hy vx vy a6 cU cN HX HY;obtain⟨n,m,sA,sc,ss,cA,cc,cs,vA,vc,vs⟩:=x;obtain⟨n',m',sA',sc',ss',cA',cc',cs',vA',vc',vs'⟩:=y;simp only[jzh] at HJ;simp only[S2.jzh,jzh,List.length_nil];obtain⟨V,hV⟩:=exq ((((w.alloc (.cells #[.int .i64 6,.slice A 0 c] 24)).alloc (.cells #[.int .u64 n,.int .u64 m,.slice sA ss.length sc,.slice cA cs.length cc,.slice vA vs.length vc] 30)).alloc (.cells #[.int .u64 n',.int .u64 m',.slice sA' ss'.length sc',.slice cA' cs'.length cc',.slice vA' vs'.length vc'] 30)).alloc (.cells #[.int .u64 0,.int .u64 0,.slice none 0 0,.slice none 0 0,.slice none 0 0] 30));obtain⟨q3,q4,q5,q6,ai,bz⟩:=jbu hV;have dm:w.heap.size+4<=V.heap.size:=by omega
 clear bz;obtain⟨e0,e1⟩:=blk2c q3;obtain⟨a0,a1,a2,a3,a4⟩:=blk5 q4;obtain⟨b0,b1,b2,b3,b4⟩:=blk5 q5;go_enter Tryz.func23,Tryz.ntmps23;go_wp2_with fail;refine (HJ.out V ai).mono ?_;rintro e U ⟨⟨zn,zm,zK,zL,zM,zN,zO,zP,zQ,zR,zS⟩,hz,rfl,b7,az⟩;simp only[jzh];rw[EX.out,EY.out] at hz;have HZ:=Lh (fO.out _ hz);have HE:=Lh b7;have q6U:=q6.below (W':=U) az;clear hz b7 e0 e1 a0 a1 a2 a3 a4 b0 b1 b2 b3 b4 q3 q4 q5 hV;obtain⟨d0,d1,d2,d3,d4⟩:=blk5 q6U;obtain⟨f0,f1,f2,f3,f4⟩:=fro5 q6U;go_wp2_with fail;refine bodyPost_ret (rcv5 rfl _ _ (w.heap.size+1+1+1) (.int .u64 zn) (.int .u64 zm) (.slice zK zM.length zL) (.slice zN zP.length zO) (.slice zQ zS.length zR) rfl (jzc q6U)) rfl ?_;exact jq4 ai az (by omega) ((HZ.out.keep fun k hk=>(az.block k (ltl (hP k hk) ai.size)).trans (ai.block k (hP k hk))).mono fun k hk=>⟨.inl hk,by have:=hP k hk;omega,by have:=hP k hk;have:=ai.size;have:=az.size;omega⟩) (.inl ⟨rfl,by rw[HE.out]⟩)
theorem refj_3(A:Option Addr)(c:Nat)(P:Nat->Prop)(x y:Vl)(w:World)(hP:∀ k,P k->k<w.heap.size)(hx:x.Inp P w)(hy:y.Inp P w)(vx:isV (.mk 3 []) x.er=true)(vy:isV (.mk 3 []) y.er=true):Calls Tryz.prog 23 #[(Sc.mk 3 A c []).val,x.val,y.val] w (jp6 P w (jzp (.mk 3 []) x.er y.er)):=by
 obtain⟨s1,ex,sx,lx,tx⟩:=jj0.1 vx;obtain⟨s2,ey,sy,ly,ty⟩:=jj0.1 vy;have nx:x.In w:=hx.mono hP;have ny:y.In w:=hy.mono hP;have hlb:=R1.jpa s1 s2;obtain⟨al,nX⟩:=exq (R1.jqm s1 s2);have hsh:∀ s∈al,s.length<=maxLen:=fun s hs=>by (
 rw[<- nX,R1.jxw] at hs;have:s.length<=16:=by (
 rcases hs with hs | hs
 ·exact of_decide_eq_true (List.all_eq_true.1 tx s hs)
 ·exact of_decide_eq_true (List.all_eq_true.1 ty s hs))
 unfold maxLen;omega)
 rw[show jzp (.mk 3 []) x.er y.er=if al.length<=40 then some (.mk 0 0 al [] []) else none by (
 rw[jzp,if_pos rfl,ex,ey];show (if 40<(R1.jqm s1 s2).length then none else some (Va.mk 0 0 (R1.jqm s1 s2) [] []))=_
 rw[nX];by_cases h:40<al.length
 ·rw[if_pos h,if_neg (by omega)]
 ·rw[if_neg h,if_pos (by omega)])]
 rw[nX] at hlb;obtain⟨res,a6⟩:=exq ((if al.length<=40 then some (Va.mk 0 0 al [] []) else none));have HR:=Lh a6;rw[a6];clear hx hy vx vy a6;obtain⟨n,m,sA,sc,ss,cA,cc,cs,vA,vc,vs⟩:=x;obtain⟨n',m',sA',sc',ss',cA',cc',cs',vA',vc',vs'⟩:=y;rw[jzw,jqp] at ex ey;obtain⟨rfl,rfl,rfl,cB,dj⟩:=ex;obtain⟨rfl,rfl,rfl,gq,eU⟩:=ey;obtain rfl:=List.map_eq_nil_iff.1 cB;obtain rfl:=List.map_eq_nil_iff.1 dj;obtain rfl:=List.map_eq_nil_iff.1 gq;obtain rfl:=List.map_eq_nil_iff.1 eU;have HB:=Lh (fun W (hb:Below w.heap.size w W)=>R1.jgq sA sA' sc sc' ss ss' W (nx.out.sl.below hb) (ny.out.sl.below hb) (by omega) (by omega));rw[nX] at HB;clear cB dj gq eU nx ny nX sx sy tx ty;simp only[S2.jzh,jzh,List.length_nil];obtain⟨V,hV⟩:=exq ((((w.alloc (.cells #[.int .i64 3,.slice A 0 c] 24)).alloc (.cells #[.int .u64 0,.int .u64 0,.slice sA ss.length sc,.slice cA 0 cc,.slice vA 0 vc] 30)).alloc (.cells #[.int .u64 0,.int .u64 0,.slice sA' ss'.length sc',.slice cA' 0 cc',.slice vA' 0 vc'] 30)).alloc (.cells #[.int .u64 0,.int .u64 0,.slice none 0 0,.slice none 0 0,.slice none 0 0] 30));obtain⟨q3,q4,q5,q6,ai,bz⟩:=jbu hV;have dm:w.heap.size+4<=V.heap.size:=by omega
 clear bz;obtain⟨e0,e1⟩:=blk2c q3;obtain⟨a0,a1,a2,a3,a4⟩:=blk5 q4;obtain⟨b0,b1,b2,b3,b4⟩:=blk5 q5;go_enter Tryz.func23,Tryz.ntmps23;go_wp2_with fail;refine (HB.out V ai).mono ?_;rintro e U ⟨v3,rfl,aj,az⟩;obtain⟨A3,c3,rfl,_⟩:=jzy aj;have q6U:=q6.below (W':=U) az;have HL:=Lh (jz8 aj);have hg:∃ g:Bool,decide ((al.length:Int)<=40)=g:=⟨_,rfl⟩
 obtain⟨g,hg⟩:=hg;have HG:Hid (g=decide (al.length<=40)):=by show _=_;rw[<- hg];exact decide_eq_decide.2 (by omega)
 clear aj e0 e1 a0 a1 a2 a3 a4 b0 b1 b2 b3 b4 q3 q4 q5 hV HB;obtain⟨d0,d1,d2,d3,d4⟩:=blk5 q6U;obtain⟨f0,f1,f2,f3,f4⟩:=fro5 q6U;go_wp2_with fail;refine bodyPost_ret (rcv5 rfl _ _ (w.heap.size+1+1+1) (.int .u64 0) (.int .u64 0) (.slice A3 al.length c3) (.slice none 0 0) (.slice none 0 0) rfl (jzc q6U)) rfl ?_;refine⟨.mk 0 0 A3 c3 al none 0 [] none 0 [],_,rfl,?_,jzm (ai.trans (az.mono ai.size)) (by omega),?_⟩
 ·(have hi:=jbx 0 0 (by omega) (by omega) HL.out.1 HL.out.2.1 HL.out.2.2 (by omega) hsh;exact (hi.keep fun b hP=>(jzn (by have:=hP.1;omega)).trans rfl).mono fun b hP=>⟨.inr (by have:=hP.1;have:=ai.size;omega),ltl hP.2 (Nat.le_of_eq jzu.symm)⟩)
 ·(
 rw[HG.out,<- HR.out];by_cases h:al.length<=40
 ·exact .inl ⟨decide_eq_true h,by rw[if_pos h,jzw];rfl⟩
 ·exact .inr ⟨decide_eq_false h,if_neg h⟩)
end J5
namespace J5
open S2 (Tr isT)
open V4 (Va isV jqv)
section
variable {M V:Type} {c:M->M->Int} {z:V} {f:V->V->Option V}
theorem jt0(hc:Cmp c){F:List (M×V×V)}{r:List (M×V)}(hF:Up c F)(hr:Up c r)(h1:∀ q∈F,∃ w,f q.2.1 q.2.2=some w/\(q.1,w)∈r)(h2:∀ p∈r,∃ q∈F,q.1=p.1):jxf f F=some r:=by
 obtain⟨r',hr'⟩:=jpi (f:=f) (l:=F) fun q hq=>by obtain⟨w,hw,_⟩:=h1 q hq;exact⟨w,hw⟩
 rw[hr',jy9 hc (jx6 (jvf hr') hF) hr fun p=>?_];rw[jwa hr' p];constructor
 ·(rintro ⟨q,hq,e,hf⟩;obtain⟨w,hw,hm⟩:=h1 q hq;rw[hf] at hw;obtain rfl:=Option.some.inj hw;rw[e] at hm;exact hm)
 ·(intro hp;obtain⟨q,hq,e⟩:=h2 p hp;obtain⟨w,hw,hm⟩:=h1 q hq;have:=jy8 hc hr hp hm e.symm;refine⟨q,hq,e,?_⟩;rw[hw,this])
theorem jpj{F:List (M×V×V)}:jxf f F=none↔∃ q∈F,f q.2.1 q.2.2=none:=by
 constructor
 ·(
 intro h;refine Classical.byContradiction fun hn=>?_
 obtain⟨r,hr⟩:=jpi (f:=f) (l:=F) fun q hq=>by (
 cases hf:f q.2.1 q.2.2 with
 | some w=>exact⟨w,rfl⟩
 | none=>exact absurd ⟨q,hq,hf⟩ hn)
 rw[h] at hr;cases hr)
 ·(
 rintro ⟨q,hq,hf⟩;cases h:jxf f F with
 | none=>rfl
 | some r=>(obtain⟨w,hw⟩:=jb6 h q hq;rw[hf] at hw;cases hw))
def jcp(c:M->M->Int)(p:M×V):List (M×V)->List (M×V)
  | []=>[p]
  | x :: r=>if c x.1 p.1<0 then x :: jcp c p r else p :: x :: r
theorem jj9{p q:M×V}:∀ {r:List (M×V)},q∈jcp c p r↔q=p\/q∈r
  | []=>by simp[jcp]
  | x :: r=>by
    rw[jcp]
    split
    · rw[List.mem_cons,jj9,List.mem_cons]
      constructor
      · rintro (h | h | h)
        · exact .inr (.inl h)
        · exact .inl h
        · exact .inr (.inr h)
      · rintro (h | h | h)
        · exact .inr (.inl h)
        · exact .inl h
        · exact .inr (.inr h)
    · rw[List.mem_cons]
theorem jdh(hc:Cmp c){p:M×V}:∀ {r:List (M×V)},Up c r->(∀ q∈r,q.1≠p.1)->Up c (jcp c p r)
  | [],_,_=>List.pairwise_singleton _ _
  | x :: r,h,hn=>by
    obtain⟨h1,h2⟩:=List.pairwise_cons.1 h
    rw[jcp]
    split
    · rename_i hlt
      refine List.pairwise_cons.2 ⟨fun q hq=>?_,jdh hc h2 fun q hq=>hn q (by simp[hq])⟩
      rcases jj9.1 hq with rfl | hq
      · exact hlt
      · exact h1 q hq
    · rename_i hlt
      have hx:c p.1 x.1<0:=by
        rcases Int.lt_trichotomy (c x.1 p.1) 0 with h | h | h
        · exact absurd h hlt
        · exact absurd (hc.eq h) (hn x (by simp))
        · exact hc.gt h
      refine List.pairwise_cons.2 ⟨fun q hq=>?_,h⟩
      rcases List.mem_cons.1 hq with rfl | hq
      · exact hx
      · exact hc.trans hx (h1 q hq)
theorem jfx{V':Type}{p:M×V}{p':M×V'}(hp:p.1=p'.1):∀ {r:List (M×V)} {r':List (M×V')},r.map (·.1)=r'.map (·.1)->(jcp c p r).map (·.1)=(jcp c p' r').map (·.1)
  | [],[],_=>by simp[jcp,hp]
  | [],_ :: _,h=>by simp at h
  | _ :: _,[],h=>by simp at h
  | x :: r,x' :: r',h=>by
    simp only[List.map_cons,List.cons.injEq] at h
    rw[jcp,jcp,h.1,hp]
    split
    · simp only[List.map_cons];rw[jfx hp h.2,h.1]
    · simp[hp,h.1,h.2]
theorem jnf{p:M×V}:∀ {r:List (M×V)} {k:Nat},(∀ q∈r.take k,c q.1 p.1<0)->(∀ q,r[k]?=some q->¬ c q.1 p.1<0)->k<=r.length->jcp c p r=r.take k++p :: r.drop k
  | [],k,_,_,hk=>by
    obtain rfl:k=0:=by simpa using hk
    rfl
  | x :: r,0,_,h2,_=>by
    rw[jcp,if_neg (h2 x rfl)]
    rfl
  | x :: r,k+1,h1,h2,hk=>by
    rw[jcp,if_pos (h1 x (by simp)),jnf (k:=k) (fun q hq=>h1 q (by simp[hq])) (fun q hq=>h2 q (by simpa using hq)) (by simpa using hk)]
    rfl
theorem st_new(hc:Cmp c){F1 F2:List (M×V×V)}{m:M}{x y v:V}(h1:Up c F1)(h2:Up c F2)(hm:∀ q,q∈F2↔q∈F1\/q=(m,x,y))(hne:∀ q∈F1,q.1≠m)(hf:f x y=some v):F2=jcp c (m,x,y) F1/\(∀ r,jxf f F1=some r->jxf f F2=some (jcp c (m,v) r))/\(jxf f F1=none->jxf f F2=none):=by
 refine⟨jy9 hc h2 (jdh hc h1 hne) fun p=>by rw[hm,jj9,or_comm],fun r hr=>?_,fun hn=>?_⟩
 ·(
 have gi:=jx6 (jvf hr) h1;have fK:∀ q∈r,q.1≠m:=fun q hq=>by (obtain⟨q',mg,e,_⟩:=(jwa hr q).1 hq;rw[<- e];exact hne q' mg)
 refine jt0 hc h2 (jdh hc gi fK) (fun q hq=>?_) fun p hp=>?_
 ·(
 rcases (hm q).1 hq with hq | rfl
 ·(obtain⟨w,hw⟩:=jb6 hr q hq;exact⟨w,hw,jj9.2 (.inr ((jwa hr _).2 ⟨q,hq,rfl,hw⟩))⟩)
 ·exact⟨v,hf,jj9.2 (.inl rfl)⟩)
 ·(
 rcases jj9.1 hp with rfl | hp
 ·exact⟨_,(hm _).2 (.inr rfl),rfl⟩
 ·(obtain⟨q,hq,e,_⟩:=(jwa hr p).1 hp;exact⟨q,(hm q).2 (.inl hq),e⟩)))
 ·(obtain⟨q,hq,jw⟩:=jpj.1 hn;exact jpj.2 ⟨q,(hm q).2 (.inl hq),jw⟩)
theorem st_twin(hc:Cmp c){F1 F2:List (M×V×V)}{m:M}{u v:V}(h1:Up c F1)(h2:Up c F2)(hm:∀ q,q∈F2↔(q.1≠m/\q∈F1)\/q=(m,u,v))(h0:(m,u,z)∈F1)(hf:f u z=some u){r:List (M×V)}(hk:r.map (·.1)=F1.map (·.1)){k:Nat}{w:V}(hw:r[k]?=some (m,w)):(∀ w',(r.set k (m,w')).map (·.1)=F2.map (·.1))/\(jxf f F1=some r->w=u/\(∀ w',f u v=some w'->jxf f F2=some (r.set k (m,w')))/\(f u v=none->jxf f F2=none))/\(jxf f F1=none->jxf f F2=none):=by
 have hr:Up c r:=jx6 hk h1;have mO:k<r.length:=(List.getElem?_eq_some_iff.1 hw).1;have mset:∀ w',(r.set k (m,w')).map (·.1)=r.map (·.1):=fun w'=>by (
 rw[List.map_set];refine List.ext_getElem? fun i=>?_
 rw[List.getElem?_set];split
 ·(
 rename_i e
 subst e;split
 ·rw[List.getElem?_map,hw];rfl
 ·rename_i hlt;exact absurd (by simpa using mO) hlt)
 ·rfl)
 have mem:∀ w' p,p∈r.set k (m,w')↔(p.1≠m/\p∈r)\/p=(m,w'):=fun w' p=>by (
 have hrs:Up c (r.set k (m,w')):=jx6 ((mset w').trans hk) h1;have bx:(m,w')∈r.set k (m,w'):=List.mem_of_getElem? (i:=k) (by rw[List.getElem?_set_self mO]);constructor
 ·(
 intro hp;by_cases e:p.1=m
 ·exact .inr (jy8 hc hrs hp bx e)
 ·(
 refine .inl ⟨e,?_⟩;rcases List.mem_or_eq_of_mem_set hp with h | h
 ·exact h
 ·rw[h] at e;exact absurd rfl e))
 ·(
 rintro (⟨e,hp⟩ | rfl)
 ·(
 obtain⟨i,hi⟩:=List.getElem?_of_mem hp;refine List.mem_of_getElem? (i:=i) ?_;rw[List.getElem?_set,if_neg]
 ·exact hi
 ·(rintro rfl;rw[hw] at hi;obtain rfl:=Option.some.inj hi;exact e rfl))
 ·exact bx))
 have mk:r.map (·.1)=F2.map (·.1):=by (
 have up1:(r.map (·.1)).Pairwise (fun x y=>c x y<0):=List.pairwise_map.2 hr;have up2:(F2.map (·.1)).Pairwise (fun x y=>c x y<0):=List.pairwise_map.2 h2;have toU:∀ l:List M,l.Pairwise (fun x y=>c x y<0)->Up c (l.map fun x=>(x,())):=fun l h=>List.pairwise_map.2 h
 have e:=jy9 hc (toU _ up1) (toU _ up2) fun p=>by (
 rw[hk];simp only[List.mem_map];constructor
 ·(
 rintro ⟨m',⟨q,hq,rfl⟩,rfl⟩;by_cases e:q.1=m
 ·exact⟨q.1,⟨(m,u,v),(hm _).2 (.inr rfl),e.symm⟩,rfl⟩
 ·exact⟨q.1,⟨q,(hm _).2 (.inl ⟨e,hq⟩),rfl⟩,rfl⟩)
 ·(
 rintro ⟨m',⟨q,hq,rfl⟩,rfl⟩;rcases (hm q).1 hq with ⟨_,hq⟩ | rfl
 ·exact⟨q.1,⟨q,hq,rfl⟩,rfl⟩
 ·exact⟨m,⟨_,h0,rfl⟩,rfl⟩))
 have e2:=congrArg (List.map (·.1)) e;simpa[List.map_map,Function.comp_def] using e2)
 refine⟨fun w'=>(mset w').trans mk,fun ha=>?_,fun hn=>?_⟩
 ·(
 have hwu:w=u:=by (obtain⟨q,hq,e,h⟩:=(jwa ha _).1 (List.mem_of_getElem? hw);have:=jy8 hc h1 hq h0 e;rw[this,hf] at h;exact (Option.some.inj h).symm)
 refine⟨hwu,fun w' tu=>?_,fun hn=>jpj.2 ⟨_,(hm _).2 (.inr rfl),hn⟩⟩;refine jt0 hc h2 (jx6 ((mset w').trans mk) h2) (fun q hq=>?_) fun p hp=>?_
 ·(
 rcases (hm q).1 hq with ⟨e,hq⟩ | rfl
 ·(obtain⟨x,hx⟩:=jb6 ha q hq;exact⟨x,hx,(mem w' _).2 (.inl ⟨e,(jwa ha _).2 ⟨q,hq,rfl,hx⟩⟩)⟩)
 ·exact⟨w',tu,(mem w' _).2 (.inr rfl)⟩)
 ·(
 rcases (mem w' p).1 hp with ⟨e,hp⟩ | rfl
 ·(obtain⟨q,hq,e2,_⟩:=(jwa ha p).1 hp;exact⟨q,(hm q).2 (.inl ⟨by rw[e2];exact e,hq⟩),e2⟩)
 ·exact⟨_,(hm _).2 (.inr rfl),rfl⟩))
 ·(
 obtain⟨q,hq,jw⟩:=jpj.1 hn;have e:q.1≠m:=fun e=>by (have:=jy8 hc h1 hq h0 e;rw[this,hf] at jw;cases jw)
 exact jpj.2 ⟨q,(hm q).2 (.inl ⟨e,hq⟩),jw⟩)
end
end J5
end Go.Proofs.YtobggoephhjofaaGreatDoor
