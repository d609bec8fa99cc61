/- A part. No condition. -/
import Derived.Test.YtobggoephhjofaaGreatDoorMk20
import Derived.Deep.RegionHeld
set_option maxRecDepth 100000
set_option maxHeartbeats 16000000
namespace Go.Proofs.YtobggoephhjofaaGreatDoor
namespace J5
open Go.RowKit Go.Shelf
open C3 (Tk In Asc jxt jzk jzf juh)
open V4 (Va Vl Ck jzt jzl InC jqi jvs jw7 jvt)
def jko(m o:Ck):Bool:=decide (jxt m.l o.l = -1)
theorem jhi(m o:Ck)(Bm:Nat)(w:World)(hm:InC w m)(ho:InC w o)(am:Asc m.l)(ao:Asc o.l)(lm:m.l.length<=1000)(lo:o.l.length<=1000)(hc:w.cell? ⟨Bm,0,none⟩=some m.v):Calls Tryz.prog 135 #[o.v,.pointer (some ⟨Bm,0,none⟩)] w (jz6 w (.bool (jko m o))):=by
 have HC:=Lh (C3.jpn m.A o.A m.c o.c m.l o.l w (V4.Ck.Inp.inn hm) (V4.Ck.Inp.inn ho) am ao lm lo);unfold jko;obtain⟨q,hq⟩:=exq (jxt m.l o.l);rw[hq] at HC ⊢;clear hm ho am ao lm lo hq;obtain⟨mA,mc,ml⟩:=m;obtain⟨oA,oc,ol⟩:=o;simp only[V4.Ck.v] at hc HC ⊢;go_enter Tryz.func135,Tryz.ntmps135;go_wp2_with fail;refine HC.out.mono ?_;rintro e w' ⟨rfl,hb⟩;go_wp2_with fail;go_ret;refine⟨jzi ?_,hb⟩;by_cases h:q = -1
 ·subst h;rfl
 ·rw[decide_eq_false h];exact beq_eq_false_iff_ne.2 h
theorem jm5(m:Ck)(Bm:Nat)(A:Option Addr)(c:Nat)(cs:List Ck)(w:World)(hm:InC w m)(am:Asc m.l)(lm:m.l.length<=1000)(d8:w.cell? ⟨Bm,0,none⟩=some m.v)(qw:Bm<w.heap.size)(hl:jzt (fun b=>b<w.heap.size) w A (jzl cs))(hn:cs.length<=maxLen)(ht:∀ k∈cs,InC w k/\Asc k.l/\k.l.length<=1000):Calls Tryz.prog 145 #[.slice A cs.length c,.func (.func 135) #[] #[.pointer (some ⟨Bm,0,none⟩)]] w (juh w (cs.any (jko m))):=by
 have eI:cs.length<=9223372036854775807:=by unfold maxLen at hn;omega
 clear hn;have HT:=Lh ht;have HM:=Lh (And.intro hm (And.intro am (And.intro lm d8)));clear ht hm am lm d8;go_enter Tryz.func145,Tryz.ntmps145;go_wp2_with fail;go_loopw [8] (fun iv wr=>∃ k:Nat,k<=cs.length/\iv = .int .i64 k/\Hid ((cs.take k).any (jko m)=false)/\Below w.heap.size w wr) (fun iv _=>cs.length - (intOf iv).toNat)
 case atStart=>exact⟨0,Nat.zero_le _,rfl,by simp[Hid],Below.refl _ _⟩
 case round=>(
 obtain⟨k,hk,rfl,h0,ar⟩:=hrel;by_cases hlt:k<cs.length
 ·(
 obtain⟨x,hx⟩:∃ x,cs[k]?=some x:=⟨_,List.getElem?_eq_getElem hlt⟩
 obtain⟨b,off,rfl,hb,hc⟩:=jqi (hl.below ar) hx;have cq:=hc;have HX:=Lh hx;clear hx hc hl;obtain⟨q,hq⟩:=exq (jko m x);have HQ:=Lh hq;clear hq;go_wp2_with fail;refine (jhi m x Bm wr (HM.out.1.later ar) ((HT.out x (List.mem_of_getElem? HX.out)).1.later ar) HM.out.2.1 (HT.out x (List.mem_of_getElem? HX.out)).2.1 HM.out.2.2.1 (HT.out x (List.mem_of_getElem? HX.out)).2.2 ((ar.cell (p:=⟨Bm,0,none⟩) qw).trans HM.out.2.2.2)).mono ?_;rintro e w' ⟨rfl,ab⟩;have bj:Below w.heap.size w w':=ar.trans (ab.mono ar.size);rw[HQ.out];cases q with
 | true=>(go_wp2_with fail;go_ret;exact⟨_,rfl,(by rw[jvs HX.out HQ.out];exact decide_eq_true (by omega)),bj⟩)
 | false=>(
 go_wp2_with fail;go_roundw
 case rel=>exact⟨k+1,by omega,by go_num,jw7 h0.out HX.out HQ.out,bj⟩
 case measure=>simp[intOf];omega))
 ·(go_wp2_with fail;go_ret;exact⟨_,rfl,(by rw[jvt h0.out (by omega)];rfl),ar⟩))
theorem jbr(m:Ck)(Bm:Nat)(A:Option Addr)(c:Nat)(cs:List Ck)(w:World)(hm:InC w m)(am:Asc m.l)(lm:m.l.length<=1000)(d8:w.cell? ⟨Bm,0,none⟩=some m.v)(qw:Bm<w.heap.size)(hl:jzt (fun b=>b<w.heap.size) w A (jzl cs))(hn:cs.length<=maxLen)(ht:∀ k∈cs,InC w k/\Asc k.l/\k.l.length<=1000):Calls Tryz.prog 114 #[.slice A cs.length c,.func (.func 135) #[] #[.pointer (some ⟨Bm,0,none⟩)]] w (jz6 w (.bool (cs.any (jko m)))):=by
 have HA:=Lh (jm5 m Bm A c cs w hm am lm d8 qw hl hn ht);clear hl hn ht hm am lm d8 qw;go_enter Tryz.func114,Tryz.ntmps114;go_wp2_with fail;refine HA.out.mono ?_;rintro e w' ⟨i,rfl,hi,hb⟩;have HI:=Lh hi;clear hi;go_wp2_with fail;go_ret;exact⟨jzi HI.out,hb⟩
end J5
namespace J5
open Go.RowKit Go.Shelf
def jyq(o:Oper):Bool:=match o.op with
  | .defer _=>false
  | _=>true
theorem jos{o:Oper}(h:jyq o=true):∀ c,o.op ≠ .defer c:=fun c e=>by unfold jyq at h;rw[e] at h;cases h
def jv7(md:Region.Mode)(ops:Array Oper)(late:Nat->Bool)(i:Nat):Bool :=
  (List.range ops.size).all fun j=>!late j || match ops[j]? with
    | some o=>o.after.any fun e=>Region.binds md e && e.on == i
    | none=>true
theorem jmz{md:Region.Mode}{ops:Array Oper}{late:Nat->Bool}{i:Nat}(h:jv7 md ops late i=true){j:Nat}{o:Oper}(hj:ops[j]?=some o)(hl:late j=true):∃ e∈o.after,Region.binds md e=true/\e.on=i:=by
 unfold jv7 at h;have hlt:j<ops.size:=(Array.getElem?_eq_some_iff.1 hj).1;have:=List.all_eq_true.1 h j (List.mem_range.2 hlt);rw[hl,hj] at this;simp only[Bool.not_true,Bool.false_or] at this;obtain⟨x,hx,he⟩:=Array.any_eq_true.1 this;simp only[Bool.and_eq_true,beq_iff_eq] at he;exact⟨_,Array.getElem_mem hx,he.1,he.2⟩
section
variable {P:Program} {ops:Array Oper} {Q:Exit->Act->World->Prop} {md:Region.Mode} {l n:Nat} {late:Nat->Bool} {S T:World->Prop}
theorem jt4{o:Oper}{a:Act}{w:World}{K K':Act->World->Prop}(hp:jyq o=true)(hK:∀ a w,K a w->K' a w)(h:o.wp P a w K Q):o.wpIn (Fence.wide.inRound l) n P a w K' Q:=by
 refine⟨fun _ _=>trivial,?_⟩;rw[Oper.semAt_eq _ _ _ (jos hp)];unfold Oper.wp at h;generalize (execOp a.eval o).run P w=r at h ⊢;cases r with
 | ok x w'=>(
 cases x with
 | value v=>exact hK _ _ h
 | skip=>exact hK _ _ h
 | defer d=>exact hK _ _ h
 | enter f args=>(
 refine⟨fun h=>by simp[Fence.inRound,Fence.wide] at h,CallsIn.inRound l (callsIn_wide.2 (Calls.mono h fun e w' h=>?_))⟩;cases e with
 | returned v=>exact hK _ _ h
 | panicked c=>exact h
 | outgrown=>exact h)
 | row row args=>exact⟨fun h=>by simp[Fence.inRound,Fence.wide] at h,fun c cs _=>let ⟨v,w',r,s⟩:=h c cs;⟨v,w',hK _ _ r,stepsIn_wide.2 s⟩⟩
 | _=>exact h.elim)
 | halt x w'=>(
 cases x with
 | panic v=>exact h
 | _=>exact h.elim)
theorem jpq(hL:¬ LetsOut Q)(hp:∀ (i:Nat) (o:Oper),ops[i]?=some o->jyq o=true){i:Nat}{K K':Act->World->Prop}{a:Act}{w:World}(hK:∀ a w,K a w->K' a w)(h:wpOp P ops Q i K a w):wpOpIn (Fence.wide.inRound l) n P ops Q i K' a w:=by
 unfold wpOp at h;unfold wpOpIn;cases ho:ops[i]? with
 | none=>rw[ho] at h;exact hK _ _ h
 | some o=>(
 rw[ho] at h;simp only at h ⊢;split
 ·(
 rename_i hw
 rw[if_pos hw] at h;rcases h with h | h
 ·exact jt4 (hp i o ho) hK h
 ·exact absurd h.2 hL)
 ·(
 rename_i hw
 rw[if_neg hw] at h;exact⟨fun _ _=>trivial,hK _ _ h⟩))
theorem jka(hL:¬ LetsOut Q)(hp:∀ (i:Nat) (o:Oper),ops[i]?=some o->jyq o=true):∀ (fuel:Nat) (listed:Array Bool) (a:Act) (w:World),wpAny P md ops Q fuel listed a w->wpAnyIn (Fence.wide.inRound l) n P md ops Q fuel listed a w
  | 0,_,_,_,h=>h
  | fuel+1,_,_,_,h=>⟨h.1,fun i hi=>jpq hL hp (fun a' w' h'=>jka hL hp fuel _ a' w' h') (h.2 i hi)⟩
def jqs(late:Nat->Bool)(listed:Array Bool):Bool:=(List.range listed.size).any fun k=>late k && listed.getD k false
theorem jbl{i:Nat}{listed:Array Bool}(h:jqs late (listed.setIfInBounds i true)=false):jqs late listed=false:=by
 unfold jqs at *;rw[List.any_eq_false] at *;intro k hk;have:=h k (by simpa using hk);simp only[Bool.and_eq_true,not_and] at this ⊢;exact fun h1 h2=>this h1 (getD_set_true h2)
theorem jj2{i:Nat}{listed:Array Bool}(hi:late i=false)(h:jqs late listed=false):jqs late (listed.setIfInBounds i true)=false:=by
 unfold jqs at *;rw[List.any_eq_false] at *;intro k hk;have:=h k (by simpa using hk);simp only[Bool.and_eq_true,not_and] at this ⊢;intro h1 h2;have hne:i≠k:=fun e=>by subst e;rw[hi] at h1;cases h1
 rw[getD_set_ne false hne] at h2;exact this h1 h2
def jqu(P:Program)(md:Region.Mode)(ops:Array Oper)(Q:Exit->Act->World->Prop)(late:Nat->Bool)(S T:World->Prop):Nat->Array Bool->Act->World->Prop
  | 0,listed,a,w=>Region.ready md ops listed=[]/\Q .normal a w
  | fuel+1,listed,a,w =>
    (Region.ready md ops listed=[]->Q .normal a w) /\
    ∀ i∈Region.ready md ops listed,wpOp P ops Q i (fun a' w'=>(T w'/\(jqs late (listed.setIfInBounds i true)=false->S w'))/\jqu P md ops Q late S T fuel (listed.setIfInBounds i true) a' w') a w
theorem jyj:∀ (fuel:Nat) (listed:Array Bool) (a:Act) (w:World),jqu P md ops Q late S T fuel listed a w->wpAny P md ops Q fuel listed a w
  | 0,_,_,_,h=>h
  | fuel+1,_,_,_,h=>⟨h.1,fun i hi=>wpOp_mono (fun a' w' h'=>jyj fuel _ a' w' h'.2) (h.2 i hi)⟩
theorem jgc{i:Nat}{oj:Oper}{listed:Array Bool}(hr:i∈Region.ready md ops listed)(bu:∀ e∈oj.after,Region.binds md e=true->listed.getD e.on false=true):∀ e∈oj.after,Region.binds md e=true->e.on≠i:=fun e he hb tB=>by
  have h1:=bu e he hb
  have h0:=(mem_ready.1 hr).1
  rw[tB] at h1
  rcases Nat.lt_or_ge i listed.size with h' | h'
  · simp[h'] at h0 h1;rw[h0] at h1;cases h1
  · simp[Array.getElem?_eq_none h'] at h1
theorem jmc{i:Nat}{oi:Oper}{v:Value}(hi:ops[i]?=some oi)(jt:∀ (j:Nat) (o:Oper) cs b,ops[j]?=some o->o.op ≠ .select cs b)(hQ:∀ c a w,Q (.panic c) (a.put oi.dst v) w->Q (.panic c) a w)(hle:late i=false)(hw:jv7 md ops late i=true):∀ (fuel:Nat) (listed:Array Bool) (a:Act) (w:World),(∀ (j:Nat) (oj:Oper),ops[j]?=some oj->j≠i->listed.getD j true=false->(∀ e∈oj.after,Region.binds md e=true->e.on≠i)->oi.apart ops oj=true)->i∈Region.ready md ops listed->jqs late listed=false->YieldsIf P ops S oi v a->T w->S w->jqu P md ops Q late S T fuel (listed.setIfInBounds i true) (a.put oi.dst v) w->jqu P md ops Q late S T (fuel+1) listed a w:=by
 intro fuel;induction fuel with
 | zero=>(
 intro listed a w _ hr _ hy hT hS H;refine⟨fun h=>(by rw[h] at hr;cases hr),fun j hj=>?_⟩;by_cases fp:j=i
 ·subst fp;exact hy.wpOp hi hS ⟨⟨hT,fun _=>hS⟩,H⟩
 ·(have:=ready_mono hj fp;rw[H.1] at this;cases this))
 | succ fuel ih=>(
 intro listed a w fH hr jR hy hT hS H;refine⟨fun h=>(by rw[h] at hr;cases hr),fun j hj=>?_⟩;by_cases fp:j=i
 ·subst fp;exact hy.wpOp hi hS ⟨⟨hT,fun _=>hS⟩,H⟩
 ·(
 have h1:=H.2 j (ready_mono hj fp);obtain⟨jD,oj,lK,bu⟩:=mem_ready.1 hj;have jZ:=jgc hr bu;have lN:late j=false:=by (
 cases hl:late j with
 | false=>rfl
 | true=>(obtain⟨e,he,hb,ho⟩:=jmz hw lK hl;exact absurd ho (jZ e he hb)))
 have h2:=wpOp_putIf lK (fH j oj lK fp jD jZ) (fun cs b=>jt i oi cs b hi) (fun cs b=>jt j oj cs b lK) hQ hy h1;refine wpOp_mono (fun a' w' h3=>?_) h2;have mJ:=jj2 lN jR;have qu:S w':=h3.2.1.2 (by rw[Array.setIfInBounds_comm _ _ (Ne.symm fp)];exact jj2 hle mJ);refine⟨⟨h3.2.1.1,fun _=>qu⟩,ih (listed.setIfInBounds j true) a' w' (fun k ok hk lj pC mH=>?_) (ready_mono hr (Ne.symm fp)) mJ h3.1 h3.2.1.1 qu ?_⟩
 ·(
 refine fH k ok hk lj ?_ mH;by_cases qg:j=k
 ·subst qg;exact jD
 ·rw[getD_set_ne true qg] at pC;exact pC)
 ·(rw[Array.setIfInBounds_comm _ _ fp];exact h3.2.2)))
theorem jmb{i:Nat}{oi:Oper}{v:Value}(hi:ops[i]?=some oi)(jt:∀ (j:Nat) (o:Oper) cs b,ops[j]?=some o->o.op ≠ .select cs b)(hQ:∀ c a w,Q (.panic c) (a.put oi.dst v) w->Q (.panic c) a w)(hle:late i=false):∀ (fuel:Nat) (listed:Array Bool) (a:Act) (w:World),(∀ (j:Nat) (oj:Oper),ops[j]?=some oj->j≠i->listed.getD j true=false->(∀ e∈oj.after,Region.binds md e=true->e.on≠i)->oi.apart ops oj=true)->i∈Region.ready md ops listed->YieldsIf P ops T oi v a->T w->(jqs late listed=false->S w)->jqu P md ops Q late S T fuel (listed.setIfInBounds i true) (a.put oi.dst v) w->jqu P md ops Q late S T (fuel+1) listed a w:=by
 intro fuel;induction fuel with
 | zero=>(
 intro listed a w _ hr hy hT hS H;refine⟨fun h=>(by rw[h] at hr;cases hr),fun j hj=>?_⟩;by_cases fp:j=i
 ·subst fp;exact hy.wpOp hi hT ⟨⟨hT,fun h=>hS (jbl h)⟩,H⟩
 ·(have:=ready_mono hj fp;rw[H.1] at this;cases this))
 | succ fuel ih=>(
 intro listed a w fH hr hy hT hS H;refine⟨fun h=>(by rw[h] at hr;cases hr),fun j hj=>?_⟩;by_cases fp:j=i
 ·subst fp;exact hy.wpOp hi hT ⟨⟨hT,fun h=>hS (jbl h)⟩,H⟩
 ·(
 have h1:=H.2 j (ready_mono hj fp);obtain⟨jD,oj,lK,bu⟩:=mem_ready.1 hj;have jZ:=jgc hr bu;have h2:=wpOp_putIf lK (fH j oj lK fp jD jZ) (fun cs b=>jt i oi cs b hi) (fun cs b=>jt j oj cs b lK) hQ hy h1;refine wpOp_mono (fun a' w' h3=>?_) h2;have qu:jqs late (listed.setIfInBounds j true)=false->S w':=fun h=>h3.2.1.2 (by rw[Array.setIfInBounds_comm _ _ (Ne.symm fp)];exact jj2 hle h)
 refine⟨⟨h3.2.1.1,qu⟩,ih (listed.setIfInBounds j true) a' w' (fun k ok hk lj pC mH=>?_) (ready_mono hr (Ne.symm fp)) h3.1 h3.2.1.1 qu ?_⟩
 ·(
 refine fH k ok hk lj ?_ mH;by_cases qg:j=k
 ·subst qg;exact jD
 ·rw[getD_set_ne true qg] at pC;exact pC)
 ·(rw[Array.setIfInBounds_comm _ _ fp];exact h3.2.2)))
theorem juk{i:Nat}{oi:Oper}{v:Value}{fuel:Nat}{listed:Array Bool}{a:Act}{w:World}(hi:ops[i]?=some oi)
    (hs:Region.noSelect ops=true) (hf:Region.free md ops listed i=true) (hr:(Region.ready md ops listed).contains i=true) (hle:late i=false) (hw:jv7 md ops late i=true) (jR:jqs late listed=false)
    (hQ:∀ c a w,Q (.panic c) (a.put oi.dst v) w->Q (.panic c) a w) (hy:YieldsIf P ops S oi v a) (hT:T w) (hS:S w)
    (h:jqu P md ops Q late S T fuel (listed.setIfInBounds i true) (a.put oi.dst v) w):jqu P md ops Q late S T (fuel+1) listed a w :=
  jmc hi (Region.noSelect_spec hs) hQ hle hw fuel listed a w (Region.free_spec hi hf) (by simpa using hr) jR hy hT hS h
theorem juj{i:Nat}{oi:Oper}{v:Value}{fuel:Nat}{listed:Array Bool}{a:Act}{w:World}(hi:ops[i]?=some oi)
    (hs:Region.noSelect ops=true) (hf:Region.free md ops listed i=true) (hr:(Region.ready md ops listed).contains i=true) (hle:late i=false)
    (hQ:∀ c a w,Q (.panic c) (a.put oi.dst v) w->Q (.panic c) a w) (hy:YieldsIf P ops T oi v a) (hT:T w) (hS:S w)
    (h:jqu P md ops Q late S T fuel (listed.setIfInBounds i true) (a.put oi.dst v) w):jqu P md ops Q late S T (fuel+1) listed a w :=
  jmb hi (Region.noSelect_spec hs) hQ hle fuel listed a w (Region.free_spec hi hf) (by simpa using hr) hy hT (fun _=>hS) h
theorem jki(i d:Nat){oi:Oper}{v:Value}{fuel:Nat}{listed:Array Bool}{l:List Value}{df:List Deferred}{w:World}(hi:ops[i]?=some oi)(hd:oi.dst=some d)(hs:Region.noSelect ops=true)(hf:Region.free md ops listed i=true)(hr:(Region.ready md ops listed).contains i=true)(hle:late i=false)(hw:jv7 md ops late i=true)(jR:jqs late listed=false)(hQ:∀ c a w,Q (.panic c) (Act.put a (some d) v) w->Q (.panic c) a w)(hy:YieldsIf P ops S oi v ⟨l.toArray,df⟩)(hT:T w)(hS:S w)(h:jqu P md ops Q late S T fuel (listed.setIfInBounds i true) ⟨(l.set d v).toArray,df⟩ w):jqu P md ops Q late S T (fuel+1) listed ⟨l.toArray,df⟩ w:=by
 refine juk hi hs hf hr hle hw jR (by rw[hd];exact hQ) hy hT hS ?_;rw[hd];simpa[Act.put] using h
theorem jz7(i d:Nat){oi:Oper}{v:Value}{fuel:Nat}{listed:Array Bool}{l:List Value}{df:List Deferred}{w:World}(hi:ops[i]?=some oi)(hd:oi.dst=some d)(hs:Region.noSelect ops=true)(hf:Region.free md ops listed i=true)(hr:(Region.ready md ops listed).contains i=true)(hle:late i=false)(hQ:∀ c a w,Q (.panic c) (Act.put a (some d) v) w->Q (.panic c) a w)(hy:YieldsIf P ops T oi v ⟨l.toArray,df⟩)(hT:T w)(hS:S w)(h:jqu P md ops Q late S T fuel (listed.setIfInBounds i true) ⟨(l.set d v).toArray,df⟩ w):jqu P md ops Q late S T (fuel+1) listed ⟨l.toArray,df⟩ w:=by
 refine juj hi hs hf hr hle (by rw[hd];exact hQ) hy hT hS ?_;rw[hd];simpa[Act.put] using h
def jze(P:Program)(md:Region.Mode)(ops:Array Oper)(Q:Exit->Act->World->Prop)(late:Nat->Bool)(S T:World->Prop)(fuel:Nat)(listed:Array Bool)(a:Act)(w:World)(rs:List Nat):Prop :=
  ∀ i∈rs,wpOp P ops Q i (fun a' w'=>(T w'/\(jqs late (listed.setIfInBounds i true)=false->S w'))/\jqu P md ops Q late S T fuel (listed.setIfInBounds i true) a' w') a w
theorem jze.nil{fuel:Nat}{listed:Array Bool}{a:Act}{w:World}:jze P md ops Q late S T fuel listed a w []:=fun _ h=>by cases h
theorem jze.cons{fuel:Nat}{listed:Array Bool}{a:Act}{w:World}{i:Nat}{o:Oper}{rs:List Nat}(ho:ops[i]?=some o)
    (h:∀ K':Act->World->Prop,Shut (∀ a w,T w->(jqs late (listed.setIfInBounds i true)=false->S w)->jqu P md ops Q late S T fuel (listed.setIfInBounds i true) a w->K' a w)->if Region.wanted o (yielded ops a.tmps)=true then Oper.wp P o a w K' Q else K' (a.put o.dst undef) w)
    (hs:jze P md ops Q late S T fuel listed a w rs):jze P md ops Q late S T fuel listed a w (i :: rs):=fun j hj=>by
  rcases List.mem_cons.1 hj with rfl | hj
  · exact wpOp_step ho (fun K' hK=>h K' (fun a w hT hS hW=>hK a w ⟨⟨hT,hS⟩,hW⟩))
  · exact hs j hj
theorem jzg{rs:List Nat}{fuel:Nat}{listed:Array Bool}{a:Act}{w:World}(hr:Region.ready md ops listed=rs)(hne:rs≠[])(h:jze P md ops Q late S T fuel listed a w rs):jqu P md ops Q late S T (fuel+1) listed a w :=
  ⟨fun h0=>absurd (hr▸h0) hne,hr▸h⟩
theorem tkB (i d:Nat) {oi:Oper} {v:Value} {fuel:Nat} {listed:Array Bool} {l:List Value} {df:List Deferred} {w:World} (hS:S w) {l':List Value} (h:jqu P md ops Q late S T fuel (listed.setIfInBounds i true) ⟨l'.toArray,df⟩ w) (hi:ops[i]?=some oi:=by exact rfl) (hd:oi.dst=some d:=by exact rfl) (hs:Region.noSelect ops=true:=by kernel_rfl) (hf:Region.free md ops listed i=true:=by kernel_rfl) (hr:(Region.ready md ops listed).contains i=true:=by kernel_rfl) (hle:late i=false:=by exact rfl) (hQ:∀ c a w,Q (.panic c) (Act.put a (some d) v) w->Q (.panic c) a w:=by exact fun _ _ _ h=>h) (hy:YieldsIf P ops T oi v ⟨l.toArray,df⟩:=by exact Or.inl ⟨by rfl,by intro w hSw;(try dsimp only at hSw);go_simp;try (with_reducible rfl)⟩) (hT:T w:=by exact trivial) (hl:l.set d v=l':=by (simp only[lz,ls];exact rfl)):jqu P md ops Q late S T (fuel+1) listed ⟨l.toArray,df⟩ w :=
  jz7 i d hi hd hs hf hr hle hQ hy hT hS (hl▸h)
theorem rdC (i:Nat) {o:Oper} {fuel:Nat} {listed:Array Bool} {a:Act} {w:World} (h:∀ K':Act->World->Prop,Shut (∀ a w,T w->(jqs late (listed.setIfInBounds i true)=false->S w)->jqu P md ops Q late S T fuel (listed.setIfInBounds i true) a w->K' a w)->if Region.wanted o (yielded ops a.tmps)=true then Oper.wp P o a w K' Q else K' (a.put o.dst undef) w) (hr:Region.ready md ops listed=[i]:=by kernel_rfl) (ho:ops[i]?=some o:=by exact rfl):jqu P md ops Q late S T (fuel+1) listed a w :=
  jzg hr (by simp) (jze.cons ho h jze.nil)
theorem jz4{listed:Array Bool}{a:Act}{w:World}(hr:Region.ready md ops listed=[])(h:Q .normal a w):∀ fuel,jqu P md ops Q late S T fuel listed a w
  | 0=>⟨hr,h⟩
  | _+1=>⟨fun _=>h,by rw[hr];simp⟩
theorem jvv{id:Nat}{a:Act}{w:World}(late:Nat->Bool)(S T:World->Prop)(hm:P.follows .mixedOrders=true)(hL:¬ LetsOut Q)(hp:ops.all jyq=true)
    (h:jqu P .any ops Q late S T ops.size (Array.replicate ops.size false) a w.drew):(Code.region id ops true).wpIn (Fence.wide.inRound l) n P Q a w :=
  wpIn_region_any hm (jka hL (fun i o ho=>by
    rw[Array.all_eq_true] at hp
    obtain⟨hi,he⟩:=Array.getElem?_eq_some_iff.1 ho
    rw[<- he];exact hp i hi) _ _ _ _ (jyj _ _ _ _ h))
end
end J5
namespace J5
open Go.RowKit Go.Shelf
open V4 (Va Vl Ck jzt jzj KF)
theorem Tryz.infoVal:(Tryz.prog.info? 30).map (fun i=>(i.zero,i.size,i.bytes))=some (some (.agg #[.int .u64 0,.int .u64 0,.slice none 0 0,.slice none 0 0,.slice none 0 0]),5,88):=by kernel_rfl
theorem Tryz.infoStrJ:(Tryz.prog.info? 9).map (fun i=>(i.zero,i.size,i.bytes))=some (some (.string { data:=#[] }),1,16):=by kernel_rfl
theorem Tryz.infoTs:(Tryz.prog.info? 54).map (fun i=>(i.zero,i.size,i.bytes))=some (some (.slice none 0 0),1,24):=by kernel_rfl
theorem jq6{w w':World}{base:Nat}{e:TypeId}{size:Nat}{v:Value}{n:Nat}{xs:List Value}(h:w.ownsRow base e size v n xs)(hk:∀ b,v.ownBlock=some b->w'.heap[b]?=w.heap[b]?):w'.ownsRow base e size v n xs:=by
 refine⟨h.1,h.2.imp id ?_⟩;rintro ⟨g,cap,cur,rfl,h1,h2,h3⟩;exact⟨g,cap,cur,rfl,h1,(hk g rfl).trans h2,h3⟩
theorem jk1{w:World}{base base':Nat}{e:TypeId}{size:Nat}{v:Value}{n:Nat}{xs:List Value}(h:w.ownsRow base e size v n xs)(hb:base'<=base):w.ownsRow base' e size v n xs:=by
 refine⟨h.1,h.2.imp id ?_⟩;rintro ⟨g,cap,cur,rfl,h1,h2⟩;exact⟨g,cap,cur,rfl,leT hb h1,h2⟩
theorem jzy{w:World}{base:Nat}{e:TypeId}{size:Nat}{v:Value}{n:Nat}{xs:List Value}(h:w.ownsRow base e size v n xs):∃ A c,v = .slice A n c/\(A=none\/∃ g,A=some ⟨g,0,none⟩):=by
 rcases h.2 with ⟨rfl,rfl⟩ | ⟨g,cap,cur,rfl,_⟩
 ·exact⟨none,0,rfl,.inl rfl⟩
 ·exact⟨_,cap,rfl,.inr ⟨g,rfl⟩⟩
theorem jk0{w:World}{base:Nat}{e:TypeId}{size:Nat}{v:Value}{n:Nat}{xs:List Value}(h:w.ownsRow base e size v n xs){b:Nat}{t:TypeId}{cs:Array Value}(hb:Blk w b t cs)(hne:t≠e):some b≠v.ownBlock:=by
 rcases h.2 with ⟨rfl,_⟩ | ⟨g,cap,cur,rfl,_,h2,_⟩
 ·simp[Value.ownBlock]
 ·(
 intro e1;have:b=g:=by simpa[Value.ownBlock] using e1
 subst this;unfold Blk at hb;rw[hb] at h2;cases h2
 exact hne rfl)
section
variable {M:Type} (enc:M->Value) (el:TypeId)
structure Hd (base:Nat) (X:Nat->Prop) (vm vv:Value) (out:List (M×Vl)) (W:World):Prop where
  rm:W.ownsRow base el 1 vm out.length (out.map fun p=>enc p.1)
  rv:W.ownsRow base 30 5 vv out.length (jzj (out.map (·.2)))
  ne:vm.ownBlock=none\/vm.ownBlock≠vv.ownBlock
  xm:∀ b,vm.ownBlock=some b->X b
  xv:∀ b,vv.ownBlock=some b->X b
  vk:∀ p∈out,p.2.Inp (fun b=>base<=b/\b<W.heap.size/\some b≠vm.ownBlock/\some b≠vv.ownBlock/\X b) W
structure Two (base:Nat) (U:World) (vm0 vv0 vm vv:Value) (nm nv:Nat) (ms vs:List Value) (W:World):Prop where
  os:W.os=U.os
  tape:W.tape=U.tape
  output:W.output=U.output
  size:U.heap.size<=W.heap.size
  same:∀ b,b<U.heap.size->some b≠vm0.ownBlock->some b≠vv0.ownBlock->W.heap[b]?=U.heap[b]?
  rm:W.ownsRow base el 1 vm nm ms
  rv:W.ownsRow base 30 5 vv nv vs
  om:vm.ownBlock=vm0.ownBlock\/∃ b,vm.ownBlock=some b/\U.heap.size<=b
  ov:vv.ownBlock=vv0.ownBlock\/∃ b,vv.ownBlock=some b/\U.heap.size<=b
  ne:vm.ownBlock=none\/vm.ownBlock≠vv.ownBlock
variable {enc el}
variable {base:Nat} {X:Nat->Prop} {vm vv vm0 vv0 vm' vv':Value} {out:List (M×Vl)} {U U0 W W' W2:World} {nm nv:Nat} {ms vs:List Value}
theorem Hd.keep(h:Hd enc el base X vm vv out W)(hs:W.heap.size<=W'.heap.size)(hk:∀ b,base<=b->b<W.heap.size->X b->W'.heap[b]?=W.heap[b]?):Hd enc el base X vm vv out W' :=
  ⟨jq6 h.rm fun b hb=>hk b (h.rm.lt b hb).1 (h.rm.lt b hb).2 (h.xm b hb),jq6 h.rv fun b hb=>hk b (h.rv.lt b hb).1 (h.rv.lt b hb).2 (h.xv b hb),h.ne,h.xm,h.xv,
    fun p hp=>((h.vk p hp).keep fun b hP=>hk b hP.1 hP.2.1 hP.2.2.2.2).mono fun _ hP=>⟨hP.1,ltl hP.2.1 hs,hP.2.2⟩⟩
theorem Hd.below(h:Hd enc el base X vm vv out W)(hb:Below W.heap.size W W'):Hd enc el base X vm vv out W':=h.keep hb.size fun b _ hlt _=>hb.block b hlt
theorem Hd.kj{B:Nat}(h:Hd enc el base X vm vv out W)(hk:KJ B X W W'):Hd enc el base X vm vv out W' :=
  h.keep hk.bel.size fun b _ hlt hX=>by rw[Array.getElem?_eq_getElem hlt];exact hk.same b _ (Array.getElem?_eq_getElem hlt) hX
theorem Hd.nil(W:World)(base:Nat)(X:Nat->Prop):Hd enc el base X (.slice none 0 0) (.slice none 0 0) [] W :=
  ⟨World.ownsRow_nil _ _ _ _,World.ownsRow_nil _ _ _ _,.inl rfl,fun _ h=>(by cases h),fun _ h=>(by cases h),by simp⟩
theorem Two.start(h:Hd enc el base X vm vv out U):Two el base U vm vv vm vv out.length out.length (out.map fun p=>enc p.1) (jzj (out.map (·.2))) U.drew :=
  ⟨rfl,rfl,rfl,Nat.le_refl _,fun _ _ _ _=>rfl,h.rm,h.rv,.inl rfl,.inl rfl,h.ne⟩
theorem Two.alloc(h:Two el base U vm0 vv0 vm vv nm nv ms vs W)(o:Obj):Two el base U vm0 vv0 vm vv nm nv ms vs (W.alloc o) :=
  ⟨h.os,h.tape,h.output,leT h.size (by simp),fun b h1 h2 h3=>(Below.heap_alloc _ _ _ (ltl h1 h.size)).trans (h.same b h1 h2 h3),h.rm.alloc o,h.rv.alloc o,h.om,h.ov,h.ne⟩
theorem jyr{v v0:Value}{n b:Nat}(h:v.ownBlock=v0.ownBlock\/∃ b,v.ownBlock=some b/\n<=b)(hb:b<n)(h0:some b≠v0.ownBlock):some b≠v.ownBlock:=by
 rcases h with h | ⟨c,h,hc⟩
 ·rw[h];exact h0
 ·rw[h];intro e;have:=Option.some.inj e;omega
theorem Two.appM{m u:Nat}{us:List Value}(h:Two el base U vm0 vv0 vm vv nm nv ms vs W)(hr:W'.ownsRow base el 1 vm' m us)(hg:W.grownBy W' vm.ownBlock)(ho:vm'.ownBlock=vm.ownBlock\/vm'.ownBlock=some u)(hu:u=W.heap.size):Two el base U vm0 vv0 vm' vv m nv us vs W':=by
 subst hu;refine⟨hg.os.trans h.os,hg.tape.trans h.tape,hg.output.trans h.output,leT h.size hg.size,fun b h1 h2 h3=>(hg.block b (ltl h1 h.size) (jyr h.om h1 h2)).trans (h.same b h1 h2 h3),hr,h.rv.kept hg ?_,?_,h.ov,?_⟩
 ·(
 rcases h.ne with e | e
 ·(
 rw[e];cases vv.ownBlock with
 | none=>exact .inl rfl
 | some k=>exact .inr (by simp))
 ·exact .inr (Ne.symm e))
 ·(
 rcases ho with e | e
 ·rw[e];exact h.om
 ·exact .inr ⟨_,e,h.size⟩)
 ·(
 rcases ho with e | e
 ·rw[e];exact h.ne
 ·right;rw[e];intro e2;have:=(h.rv.lt _ e2.symm).2;omega)
theorem Two.appV{m u:Nat}{us:List Value}(h:Two el base U vm0 vv0 vm vv nm nv ms vs W)(hr:W'.ownsRow base 30 5 vv' m us)(hg:W.grownBy W' vv.ownBlock)(ho:vv'.ownBlock=vv.ownBlock\/vv'.ownBlock=some u)(hu:u=W.heap.size):Two el base U vm0 vv0 vm vv' nm m ms us W':=by
 subst hu;refine⟨hg.os.trans h.os,hg.tape.trans h.tape,hg.output.trans h.output,leT h.size hg.size,fun b h1 h2 h3=>(hg.block b (ltl h1 h.size) (jyr h.ov h1 h3)).trans (h.same b h1 h2 h3),h.rm.kept hg h.ne,hr,h.om,?_,?_⟩
 ·(
 rcases ho with e | e
 ·rw[e];exact h.ov
 ·exact .inr ⟨_,e,h.size⟩)
 ·(
 rcases ho with e | e
 ·rw[e];exact h.ne
 ·(
 cases hm:vm.ownBlock with
 | none=>exact .inl rfl
 | some k=>right;rw[e];intro e2;have:=(h.rm.lt _ (hm.trans e2)).2;omega))
theorem Two.cell{b i:Nat}{v:Value}(h:Two el base U vm0 vv0 vm vv nm nv ms vs W)(hm:some b≠vm0.ownBlock)(hv:some b≠vv0.ownBlock)(hc:U.cell? ⟨b,i,none⟩=some v):W.cell? ⟨b,i,none⟩=some v :=
  (World.cell?_of_block (a:=⟨b,i,none⟩) (h.same b (World.block_lt_of_cell? U _ hc) hm hv)).trans hc
theorem Two.fin{D:Nat}{m:M}{x:Vl}(h0:Hd enc el base X vm0 vv0 out U0)(hb:Below U0.heap.size U0 U)(hx:x.Inp (fun b=>U0.heap.size<=b/\b<U.heap.size) U)(h:Two el base U vm0 vv0 vm vv (out.length+1) (out.length+1) ((out.map fun p=>enc p.1)++[enc m]) (jzj (out.map (·.2))++jzj [x]) W)(h2:∀ b,b≠D->W2.heap[b]?=W.heap[b]?)(hs:W2.heap.size=W.heap.size)(hD:D<base)(b6:base<=U0.heap.size):Hd enc el base (fun b=>X b\/(U0.heap.size<=b/\b<W2.heap.size)) vm vv (out++[(m,x)]) W2:=by
 have wB:=hb.size;have ae:=h.size;refine⟨?_,?_,h.ne,fun b e=>?_,fun b e=>?_,fun p hp=>?_⟩
 ·(rw[List.length_append,List.map_append];exact jq6 h.rm fun b e=>h2 b (by have:=(h.rm.lt b e).1;omega))
 ·(rw[List.length_append,List.map_append,V4.jxb];exact jq6 h.rv fun b e=>h2 b (by have:=(h.rv.lt b e).1;omega))
 ·(
 rcases h.om with e1 | ⟨c,e1,hc⟩
 ·exact .inl (h0.xm b (by rw[<- e1];exact e))
 ·(rw[e1] at e;have:=Option.some.inj e;have hlt:=(h.rm.lt c e1).2;exact .inr ⟨by omega,by omega⟩))
 ·(
 rcases h.ov with e1 | ⟨c,e1,hc⟩
 ·exact .inl (h0.xv b (by rw[<- e1];exact e))
 ·(rw[e1] at e;have:=Option.some.inj e;have hlt:=(h.rv.lt c e1).2;exact .inr ⟨by omega,by omega⟩))
 ·(
 rcases List.mem_append.1 hp with hp | hp
 ·(
 refine ((h0.vk p hp).keep fun b hP=>?_).mono fun b hP=>⟨hP.1,by omega,jyr h.om (by omega) hP.2.2.1,jyr h.ov (by omega) hP.2.2.2.1,.inl hP.2.2.2.2⟩
 rw[h2 b (by omega),h.same b (by omega) hP.2.2.1 hP.2.2.2.1,hb.block b hP.2.1])
 ·(
 rw[List.mem_singleton.1 hp];have n1:∀ b,U0.heap.size<=b->some b≠vm0.ownBlock:=fun b hle e=>by have:=(h0.rm.lt b e.symm).2;omega
 have n2:∀ b,U0.heap.size<=b->some b≠vv0.ownBlock:=fun b hle e=>by have:=(h0.rv.lt b e.symm).2;omega
 refine (hx.keep fun b hP=>?_).mono fun b hP=>⟨by omega,by omega,jyr h.om hP.2 (n1 b hP.1),jyr h.ov hP.2 (n2 b hP.1),.inr ⟨hP.1,by omega⟩⟩
 rw[h2 b (by omega),h.same b hP.2 (n1 b hP.1) (n2 b hP.1)]))
theorem Two.kp{N D:Nat}(h0:Hd enc el base X vm0 vv0 out U0)(hb:Below U0.heap.size U0 U)(h:Two el base U vm0 vv0 vm vv nm nv ms vs W)(h2:∀ b,b≠D->W2.heap[b]?=W.heap[b]?)(hs:W2.heap.size=W.heap.size)(hN:N<=D)(hD:D<base):KP N base X U0 W2:=by
 refine⟨by rw[hs];exact leT hb.size h.size,fun b o ho hc=>?_⟩;have hlt:=(Array.getElem?_eq_some_iff.1 ho).1;have n1:some b≠vm0.ownBlock:=fun e=>by (
 rcases hc with hc | hc
 ·have:=(h0.rm.lt b e.symm).1;omega
 ·exact hc.2 (h0.xm b e.symm))
 have n2:some b≠vv0.ownBlock:=fun e=>by (
 rcases hc with hc | hc
 ·have:=(h0.rv.lt b e.symm).1;omega
 ·exact hc.2 (h0.xv b e.symm))
 rw[h2 b (by omega),h.same b (ltl hlt hb.size) n1 n2,hb.block b hlt];exact ho
end
section
variable {w:World} {o:Oper} {a:Act} {K:Act->World->Prop} {Q:Exit->Act->World->Prop}
theorem jqj{ops:Array Oper}{E:Prop}(jS:o.guard=none)(s x:Operand)(t:TypeId)(ho:o.op = .call { callee := .builtin .append,args:=#[s,x],argTypes:=#[t,t] })(base:Nat)(e:TypeId)(i:TypeInfo)(z:Value)(size bytes:Nat)(ht:Tryz.prog.underlying t=some (.slice e))(hi:Tryz.prog.info? e=some i)(hz:i.zero=some z)(ge:i.size=size)(gr:i.bytes=bytes)(fS:z.cells.size=size)(ae:0<size)(v:Value)(n:Nat)(xs:List Value)(hs:a.eval s=v)(aj:w.ownsRow base e size v n xs)(ad:Addr)(m c:Nat)(news:List Value)(hx:a.eval x = .slice (some ad) m c)(hl:news.length=m*size)(fG:∀ j u,news[j]?=some u->w.cell? (ad.add j)=some u)(h1:∀ u∈news,u.oneCell'=true)(qA:n+m<=maxLen)(fc:(n+m)*bytes<=140737488355328)(b6:base<=w.heap.size)(h:∀ v' w',w'.ownsRow base e size v' (n+m) (xs++news)->w.grownBy w' v.ownBlock->(v'.ownBlock=v.ownBlock\/v'.ownBlock=some w.heap.size)->K (a.put o.dst v') w'):if Region.wanted o (yielded ops a.tmps)=true then Oper.wp Tryz.prog o a w K Q else E:=by
 have hw:Region.wanted o (yielded ops a.tmps)=true:=by simp[Region.wanted,jS]
 rw[if_pos hw];exact S2.jlp w s x t ho base e i z size bytes ht hi hz ge gr fS ae v n xs hs aj ad m c news hx hl fG h1 qA fc b6 h
end
def jx2(W:World)(b:Nat)(l:List Value):Prop:=∀ j u,l[j]?=some u->W.cell? ((⟨b,0,none⟩:Addr).add j)=some u
theorem jx2.new(W:World)(cs:Array Value)(t:TypeId):jx2 (W.alloc (.cells cs t)) W.heap.size cs.toList:=fun j u hu=>by
  rw[Addr.add_lit]
  have:=jza (Blk.new W t cs) j u (by simpa using hu)
  simpa using this
theorem jx2.alloc{W:World}{b:Nat}{l:List Value}(h:jx2 W b l)(o:Obj):jx2 (W.alloc o) b l:=fun j u hu =>
  (World.cell?_alloc_lt _ _ _ (World.block_lt_of_cell? W _ (h j u hu))).trans (h j u hu)
theorem jx2.grown{W W':World}{row:Option Nat}{b:Nat}{l:List Value}(h:jx2 W b l)(hg:W.grownBy W' row)(hne:some b≠row):jx2 W' b l:=fun j u hu =>
  hg.cell (h j u hu) (by rw[Addr.add_lit];exact hne)
theorem Blk.putE{W:World}{b E:Nat}{t:TypeId}{cs:Array Value}(h:Blk W b t cs){o:Obj}(hne:b≠E):Blk (W.putObj E o) b t cs:=(World.putObj_heap_other hne).trans h
theorem KF.set'{B b:Nat}{W:World}(hb:b<B)(i:Nat)(v:Value):KF B W (W.setCell ⟨b,i,none⟩ v):=⟨by simp,fun k o h1 h2=>(Below.heap_setCell _ _ _ _ (by simp only;omega)).trans h2⟩
end J5
end Go.Proofs.YtobggoephhjofaaGreatDoor
