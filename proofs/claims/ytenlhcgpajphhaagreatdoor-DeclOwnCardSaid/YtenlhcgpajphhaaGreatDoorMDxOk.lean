import Derived.Test.YtenlhcgpajphhaaGreatDoorMDwAll
import Derived.Test.YtenlhcgpajphhaaGreatDoorMDpWholeP
import Derived.Test.YtenlhcgpajphhaaGreatDoorDoSpoil
import Derived.Test.YtenlhcgpajphhaaGreatDoorMErRead
import Derived.Test.YtenlhcgpajphhaaGreatDoorMDoKit
namespace Go.Proofs.YtenlhcgpajphhaaGreatDoor
open Go.RowKit
set_option linter.all false
theorem rdR_ok {L:List TokE} {k:Nat} {t:Ex} {a f:Int} (h:RdR L k (some t) a f):WfT t∧cnt t≤64:=by
 rcases h with ⟨q,h1,h,_⟩|⟨t',q,h1,hq,h,_⟩|⟨t',q,h1,hf,h,_⟩
 ·cases h
 ·cases h
 ·cases h;refine⟨h1.wf (by omega),?_⟩;rcases faultT_cases t with ⟨_,h,_⟩|h|h
  ·exact h
  ·omega
  ·omega
theorem okE_none:okE none:=fun t h=>by cases h
section
variable {L:List TokE} {n:Nat}
theorem exprS_ok (s:S8):okE (exprS L n s).2:=by
 unfold exprS;split
 ·rcases hx:rdX L s.k with ⟨o,a,f⟩
  cases o with
  | none=>exact okE_none
  | some t =>
   intro t' ht;cases ht;exact rdR_ok (rdX_some hx)
 ·exact okE_none
theorem loopS_all {α:Type} {P:α→Prop} {item:S8→S8 × α} (hi:∀ s,P (item s).2):∀ (f:Nat) (s:S8) (l:List α),(∀ x ∈ l,P x)→∀ x ∈ (loopS L n item f s l).2,P x
 | 0,s,l,h=>h
 | f+1,s,l,h=>by
  unfold loopS;split
  ·split
   ·exact h
   ·refine loopS_all hi f _ _ (fun x hx=>?_);rcases List.mem_append.1 hx with hx|hx
    ·exact h x hx
    ·rcases List.mem_singleton.1 hx with rfl;exact hi _
  ·exact h
theorem listS_all {α:Type} {P:α→Prop} {item:S8→S8 × α} (hi:∀ s,P (item s).2) (s:S8):∀ x ∈ (listS L n item s).2,P x:=by
 unfold listS;split
 ·intro x hx;cases hx
 ·refine loopS_all hi _ _ _ (fun x hx=>?_);rcases List.mem_singleton.1 hx with rfl;exact hi _
theorem upS_all {α:Type} {P:α→Prop} {item:S8→S8 × α} (hi:∀ s,P (item s).2):∀ (f:Nat) (s:S8) (l:List α),(∀ x ∈ l,P x)→∀ x ∈ (upS L item f s l).2,P x
 | 0,s,l,h=>h
 | f+1,s,l,h=>by
  unfold upS;split
  ·split
   ·exact h
   ·refine upS_all hi f _ _ (fun x hx=>?_);rcases List.mem_append.1 hx with hx|hx
    ·exact h x hx
    ·rcases List.mem_singleton.1 hx with rfl;exact hi _
  ·exact h
theorem argsS_ok (s:S8):∀ o ∈ (argsS L n s).2,okE o:=listS_all exprS_ok s
theorem doneS_ok (s:S8):okA (doneS L n s).2:=by
 unfold doneS;split
 ·exact⟨exprS_ok _,argsS_ok _⟩
 split
 ·exact⟨okE_none,fun o h=>by cases h⟩
 split
 ·exact⟨okE_none,argsS_ok _⟩
 split
 ·exact⟨okE_none,fun o h=>by cases h⟩
 ·exact⟨okE_none,fun o h=>by cases h⟩
theorem actS_ok (s:S8):okA (actS L n s).2:=doneS_ok s
theorem chordS_ok (s:S8):okC (chordS L n s).2:=by
 refine⟨?_,upS_all (L:=L) (item:=actS L n) actS_ok (fuel8 L) _ [] (fun x hx=>by cases hx)⟩;show okE (if isB L _ _ then exprS L n (nextS _) else (_,none)).2;split
 ·exact exprS_ok _
 ·exact okE_none
theorem kindDS_ok (s:S8):okK (kindDS L n s).2:=upS_all (L:=L) (item:=chordS L n) chordS_ok (fuel8 L) _ [] (fun x hx=>by cases hx)
theorem progS_ok:∀ (f:Nat) (s:S8) (p:ProgE),okP p→okP (progS L n f s p).2
 | 0,s,p,h=>h
 | f+1,s,p,h=>by
  unfold progS;split
  ·split
   ·exact progS_ok f _ _ h
   ·refine progS_ok f _ _ (fun k hk=>?_);rcases List.mem_append.1 hk with hk|hk
    ·exact h k hk
    ·rcases List.mem_singleton.1 hk with rfl;exact kindDS_ok _
  ·exact h
end
theorem progT_ok (l:List UInt8) (n:Nat):okP (progT l n).1:=by
 have h0:okP zProg:=fun k h=>by cases h
 unfold progT;split
 ·exact h0
 ·split
  ·exact progS_ok _ _ _ h0
  ·exact h0
theorem chordT_ok (l:List UInt8) (n:Nat):okC (chordT l n).1:=by
 have h0:okC zChord:=⟨okE_none,fun a h=>by cases h⟩
 unfold chordT;split
 ·exact h0
 ·split
  ·exact chordS_ok _
  ·exact h0
end Go.Proofs.YtenlhcgpajphhaaGreatDoor
namespace Go.Proofs.YtenlhcgpajphhaaGreatDoor
set_option linter.all false
section
variable {α:Type} {L:List TokE} {n:Nat} {item:S8→S8 × α} {P:α→Prop}
theorem loop_all (hP:∀ s,P (item s).2):∀ (f:Nat) (s:S8) (l:List α),(∀ x ∈ l,P x)→(loopS L n item f s l).2.length≤l.length+f∧∀ x ∈ (loopS L n item f s l).2,P x
 | 0,_,l,h=>⟨Nat.le_refl _,h⟩
 | f+1,s,l,h=>by
  rw[loopS];split
  ·split
   ·exact⟨Nat.le_add_right _ _,h⟩
   ·have k:=loop_all hP f (item (wantS L n s ⟨#[44]⟩)).1 (l++[(item (wantS L n s ⟨#[44]⟩)).2]) (fun x hx=>(List.mem_append.1 hx).elim (h x) (fun e=>by rw[List.mem_singleton.1 e];exact hP _));refine⟨?_,k.2⟩;have:=k.1;simp only[List.length_append,List.length_cons,List.length_nil] at this;omega
  ·exact⟨Nat.le_add_right _ _,h⟩
theorem list_all (hP:∀ s,P (item s).2) (s:S8):(listS L n item s).2.length≤L.length+3∧∀ x ∈ (listS L n item s).2,P x:=by
 unfold listS;split
 ·exact⟨Nat.zero_le _,fun _ h=>by cases h⟩
 ·have k:=loop_all (L:=L) (n:=n) hP (fuel8 L) (item (wantS L n s ⟨#[40]⟩)).1 [(item (wantS L n s ⟨#[40]⟩)).2] (fun x hx=>by rw[List.mem_singleton.1 hx];exact hP _);refine⟨?_,k.2⟩;have:=k.1;unfold fuel8 at this;simp only[List.length_cons,List.length_nil] at this;unfold fuel8;omega
theorem up_all (hP:∀ s,P (item s).2):∀ (f:Nat) (s:S8) (l:List α),(∀ x ∈ l,P x)→(upS L item f s l).2.length≤l.length+f∧∀ x ∈ (upS L item f s l).2,P x
 | 0,_,l,h=>⟨Nat.le_refl _,h⟩
 | f+1,s,l,h=>by
  rw[upS];split
  ·split
   ·exact⟨Nat.le_add_right _ _,h⟩
   ·have k:=up_all hP f (item s).1 (l++[(item s).2]) (fun x hx=>(List.mem_append.1 hx).elim (h x) (fun e=>by rw[List.mem_singleton.1 e];exact hP _));refine⟨?_,k.2⟩;have:=k.1;simp only[List.length_append,List.length_cons,List.length_nil] at this;omega
  ·exact⟨Nat.le_add_right _ _,h⟩
end
theorem part_len (L:List TokE) (n:Nat) (s:S8):(partS L n s).2.vs.length≤L.length+3:=(list_all (P:=fun _=>True) (fun _=>trivial) _).1
theorem tag_len (L:List TokE) (n:Nat) (s:S8):(tagS L n s).2.tys.length≤L.length+3:=(list_all (P:=fun _=>True) (fun _=>trivial) _).1
theorem amp_all (L:List TokE) (n:Nat):∀ (f:Nat) (s:S8) (l:List PartE),(∀ x ∈ l,x.vs.length≤L.length+3)→(ampS L n f s l).2.length≤l.length+f∧∀ x ∈ (ampS L n f s l).2,x.vs.length≤L.length+3
 | 0,_,l,h=>⟨Nat.le_refl _,h⟩
 | f+1,s,l,h=>by
  rw[ampS];split
  ·have k:=amp_all L n f (partS L n (nextS s)).1 (l++[(partS L n (nextS s)).2]) (fun x hx=>(List.mem_append.1 hx).elim (h x) (fun e=>by rw[List.mem_singleton.1 e];exact part_len L n _));refine⟨?_,k.2⟩;have:=k.1;simp only[List.length_append,List.length_cons,List.length_nil] at this;omega
  ·exact⟨Nat.le_add_right _ _,h⟩
theorem act_len (L:List TokE) (n:Nat) (s:S8):(actS L n s).2.args.length≤L.length+3:=by
 have ha:∀ t,(argsS L n t).2.length≤L.length+3:=fun t=>(list_all (P:=fun _=>True) (fun _=>trivial) t).1;show (doneS L n s).2.args.length≤_;unfold doneS;split
 ·exact ha _
 ·split
  ·exact Nat.zero_le _
  ·split
   ·exact ha _
   ·split
    ·exact Nat.zero_le _
    ·exact Nat.zero_le _
def lenC (M:Nat) (c:ChordE):Prop:=c.parts.length≤M∧(∀ p ∈ c.parts,p.vs.length≤M)∧c.body.length≤M∧∀ a ∈ c.body,a.args.length≤M
theorem chord_len (L:List TokE) (n:Nat) (s:S8):lenC (L.length+3) (chordS L n s).2:=by
 unfold chordS;simp only;generalize wordS L n (wantS L n s ⟨#[99,104,111,114,100]⟩)=a;have hp:=part_len L n (wantS L n a.1 ⟨#[58]⟩);generalize partS L n (wantS L n a.1 ⟨#[58]⟩)=b at hp ⊢;have hc:=amp_all L n (fuel8 L) b.1 [b.2] (fun x hx=>by rw[List.mem_singleton.1 hx];exact hp);generalize ampS L n (fuel8 L) b.1 [b.2]=c at hc ⊢;generalize (if isB L c.1 ⟨#[119,104,101,110]⟩ then exprS L n (nextS c.1) else (c.1,none))=g;have hd:=up_all (L:=L) (item:=actS L n) (P:=fun a=>a.args.length≤L.length+3) (fun s=>act_len L n s) (fuel8 L) (wantS L n g.1 ⟨#[123]⟩) [] (fun _ h=>by cases h);have hfu:fuel8 L=L.length+2:=rfl;have hc1:=hc.1;have hd1:=hd.1;simp only[List.length_cons,List.length_nil] at hc1 hd1;exact⟨show c.2.length≤_ by omega,hc.2,Nat.le_trans hd1 (by omega),hd.2⟩
def lenK (M:Nat) (k:KindE):Prop:=k.chords.length≤M∧∀ c ∈ k.chords,lenC M c
theorem kindD_len (L:List TokE) (n:Nat) (s:S8):lenK (L.length+3) (kindDS L n s).2:=by
 unfold kindDS;simp only;have hd:=up_all (L:=L) (item:=chordS L n) (P:=lenC (L.length+3)) (fun s=>chord_len L n s) (fuel8 L) (wantS L n (wordS L n (wantS L n s ⟨#[107,105,110,100]⟩)).1 ⟨#[123]⟩) [] (fun _ h=>by cases h);have hfu:fuel8 L=L.length+2:=rfl;have hd1:=hd.1;simp only[List.length_nil] at hd1;exact⟨Nat.le_trans hd1 (by omega),hd.2⟩
def lenP (M:Nat) (N:Nat) (p:ProgE):Prop:=p.tags.length≤N∧p.kinds.length≤N∧(∀ t ∈ p.tags,t.tys.length≤M)∧∀ k ∈ p.kinds,lenK M k
theorem prog_len (L:List TokE) (n:Nat):∀ (f:Nat) (s:S8) (p:ProgE) (N:Nat),lenP (L.length+3) N p→lenP (L.length+3) (N+f) (progS L n f s p).2
 | 0,_,_,_,h=>h
 | f+1,s,p,N,h=>by
  rw[progS];have hw:lenP (L.length+3) (N+(f+1)) p:=⟨Nat.le_trans h.1 (by omega),Nat.le_trans h.2.1 (by omega),h.2.2⟩
  split
  ·split
   ·have k:=prog_len L n f (tagS L n (nextS s)).1 ⟨p.tags++[(tagS L n (nextS s)).2],p.kinds⟩ (N+1) ⟨by have:=h.1;simp only[List.length_append,List.length_cons,List.length_nil];omega,Nat.le_trans h.2.1 (by omega),(fun x hx=>(List.mem_append.1 hx).elim (h.2.2.1 x) (fun e=>by rw[List.mem_singleton.1 e];exact tag_len L n _)),h.2.2.2⟩;rw[show N+(f+1)=N+1+f by omega];exact k
   ·have k:=prog_len L n f (kindDS L n s).1 ⟨p.tags,p.kinds++[(kindDS L n s).2]⟩ (N+1) ⟨Nat.le_trans h.1 (by omega),by have:=h.2.1;simp only[List.length_append,List.length_cons,List.length_nil];omega,h.2.2.1,(fun x hx=>(List.mem_append.1 hx).elim (h.2.2.2 x) (fun e=>by rw[List.mem_singleton.1 e];exact kindD_len L n _))⟩;rw[show N+(f+1)=N+1+f by omega];exact k
  ·exact hw
theorem few_ok {o:Option Ex} (h:okE o):fewX o:=by
 unfold fewX;cases o with
 | none=>exact Nat.zero_le _
 | some t =>
  show (lay 0 t).length≤_;rw[lay_len];have:=(h t rfl).2;omega
theorem fewC_of {c:ChordE} {M:Nat} (hM:M≤900000) (h:lenC M c) (ok:okC c):fewC c :=
 ⟨few_ok ok.1,Nat.le_trans h.1 hM,fun p hp=>Nat.le_trans (h.2.1 p hp) hM,Nat.le_trans h.2.2.1 hM,fun a ha=>⟨few_ok (ok.2 a ha).1,Nat.le_trans (h.2.2.2 a ha) hM,fun o ho=>few_ok ((ok.2 a ha).2 o ho)⟩⟩
theorem progT_fewP (l:List UInt8) (n:Nat):fewP (progT l n).1:=by
 have hf:=toksL_few l;have ok:=progT_ok l n;have h0:lenP ((toksL l).length+3) 0 ⟨[],[]⟩:=⟨Nat.le_refl _,Nat.le_refl _,(fun _ h=>by cases h),(fun _ h=>by cases h)⟩
 have k:=prog_len (toksL l) n (fuel8 (toksL l)) ⟨0,0,0⟩ ⟨[],[]⟩ 0 h0;have hfu:fuel8 (toksL l)=(toksL l).length+2:=rfl;have hl:lenP ((toksL l).length+3) (0+fuel8 (toksL l)) (progT l n).1:=by
  unfold progT;split
  ·exact⟨Nat.zero_le _,Nat.zero_le _,(fun _ h=>by cases h),(fun _ h=>by cases h)⟩
  ·split
   ·exact k
   ·exact⟨Nat.zero_le _,Nat.zero_le _,(fun _ h=>by cases h),(fun _ h=>by cases h)⟩
 exact⟨Nat.le_trans hl.1 (by omega),fun t ht=>Nat.le_trans (hl.2.2.1 t ht) (by omega),Nat.le_trans hl.2.1 (by omega),fun k hk=>⟨Nat.le_trans (hl.2.2.2 k hk).1 (by omega),fun c hc=>fewC_of (by omega) ((hl.2.2.2 k hk).2 c hc) (ok k hk c hc)⟩⟩
theorem chordT_fewC (l:List UInt8) (n:Nat):fewC (chordT l n).1:=by
 have hf:=toksL_few l;refine fewC_of (M:=(toksL l).length+3) (by omega) ?_ (chordT_ok l n);have hz:lenC ((toksL l).length+3) zChord:=⟨Nat.zero_le _,(fun _ h=>by cases h),Nat.zero_le _,(fun _ h=>by cases h)⟩
 unfold chordT;split
 ·exact hz
 ·split
  ·exact chord_len _ _ _
  ·exact hz
section
variable {α:Type} {L:List TokE} {n:Nat} {item:S8→S8 × α}
theorem loop_cnt (hi:∀ s,Le8 L s (item s).1):∀ (f:Nat) (s:S8) (l:List α),s.k≤L.length→(loopS L n item f s l).2.length+rem8 L (loopS L n item f s l).1≤l.length+rem8 L s
 | 0,_,_,_=>Nat.le_refl _
 | f+1,s,l,hk=>by
  rw[loopS];split
  ·rename_i hb;split
   ·rename_i hc;have:=(is_lt hc) hk;show l.length+rem8 L (nextS s)≤_;omega
   ·have h1:=((want_lt (n:=n) (t:=⟨#[44]⟩) hb).trans (hi _)) hk;have:=loop_cnt hi f (item (wantS L n s ⟨#[44]⟩)).1 (l++[(item (wantS L n s ⟨#[44]⟩)).2]) h1.1;simp only[List.length_append,List.length_cons,List.length_nil] at this;omega
  ·exact Nat.le_refl _
theorem list_cnt (hi:∀ s,Le8 L s (item s).1) (s:S8) (hk:s.k≤L.length):(listS L n item s).2.length+rem8 L (listS L n item s).1≤rem8 L s+1:=by
 have hw:=(want_le (L:=L) (n:=n) (s:=s) ⟨#[40]⟩) hk;unfold listS;split
 ·rename_i hc;have:=(is_lt hc) hw.1;show 0+rem8 L (nextS (wantS L n s ⟨#[40]⟩))≤_;omega
 ·have h1:=(hi (wantS L n s ⟨#[40]⟩)) hw.1;have:=loop_cnt (n:=n) hi (fuel8 L) (item (wantS L n s ⟨#[40]⟩)).1 [(item (wantS L n s ⟨#[40]⟩)).2] h1.1;simp only[List.length_cons,List.length_nil] at this;omega
theorem up_cnt (v:α→Nat) (c:Nat) (hi:∀ s,Le8 L s (item s).1) (hv:∀ s,s.k≤L.length→s.bad=0→v (item s).2+c * rem8 L (item s).1≤c * rem8 L s) :
  ∀ (f:Nat) (s:S8) (l:List α),s.k≤L.length→((upS L item f s l).2.map v).sum+c * rem8 L (upS L item f s l).1≤(l.map v).sum+c * rem8 L s
 | 0,_,_,_=>Nat.le_refl _
 | f+1,s,l,hk=>by
  rw[upS];split
  ·rename_i hb;split
   ·rename_i hc;have:=Nat.mul_le_mul_left c (Nat.le_of_lt ((is_lt hc) hk).2);show (l.map v).sum+c * rem8 L (nextS s)≤_;omega
   ·have h1:=hv s hk hb;have:=up_cnt v c hi hv f (item s).1 (l++[(item s).2]) ((hi s) hk).1;simp only[List.map_append,List.sum_append,List.map_cons,List.map_nil,List.sum_cons,List.sum_nil] at this;omega
  ·exact Nat.le_refl _
end
def wA (a:ActE):Nat:=1+a.args.length
def wC (c:ChordE):Nat:=c.parts.length+1+(c.body.map wA).sum
def wK (k:KindE):Nat:=(k.chords.map wC).sum
theorem done_cnt {L:List TokE} {n:Nat} {s:S8} (hk:s.k≤L.length):(doneS L n s).2.args.length+rem8 L (doneS L n s).1≤rem8 L s:=by
 unfold doneS;split
 ·rename_i hc;have h1:=(is_lt hc) hk;have h2:=(expr_le (L:=L) (n:=n) (s:=nextS s)) h1.1;have h3:=(word_le (L:=L) (n:=n) (s:=(exprS L n (nextS s)).1)) h2.1;have h4:=list_cnt (n:=n) (item:=exprS L n) (fun _=>expr_le) (wordS L n (exprS L n (nextS s)).1).1 h3.1;show (argsS L n (wordS L n (exprS L n (nextS s)).1).1).2.length+rem8 L (argsS L n (wordS L n (exprS L n (nextS s)).1).1).1≤_;unfold argsS;omega
 ·split
  ·rename_i hc;have h1:=(is_lt hc) hk;have h2:=(word_le (L:=L) (n:=n) (s:=nextS s)) h1.1;have h3:=(want_le (L:=L) (n:=n) (s:=(wordS L n (nextS s)).1) ⟨#[97,115]⟩) h2.1;have h4:=(word_le (L:=L) (n:=n) (s:=wantS L n (wordS L n (nextS s)).1 ⟨#[97,115]⟩)) h3.1;show 0+rem8 L (wordS L n (wantS L n (wordS L n (nextS s)).1 ⟨#[97,115]⟩)).1≤_;omega
  ·split
   ·rename_i hc;have h1:=(is_lt hc) hk;have h4:=list_cnt (n:=n) (item:=exprS L n) (fun _=>expr_le) (nextS s) h1.1;show (argsS L n (nextS s)).2.length+rem8 L (argsS L n (nextS s)).1≤_;unfold argsS;omega
   ·split
    ·rename_i hc;have h1:=(is_lt hc) hk;have h2:=(word_le (L:=L) (n:=n) (s:=nextS s)) h1.1;show 0+rem8 L (wordS L n (nextS s)).1≤_;omega
    ·have:=(fail_le (L:=L) (n:=n) (s:=s) s.k 80) hk;show 0+rem8 L (failS L n s s.k 80)≤_;omega
theorem act_cnt {L:List TokE} {n:Nat} (s:S8) (hk:s.k≤L.length) (hb:s.bad=0):wA (actS L n s).2+2 * rem8 L (actS L n s).1≤2 * rem8 L s:=by
 have h1:=done_cnt (n:=n) hk;have h2:=(act_lt (L:=L) (n:=n) hb) hk;have h3:=(done_le (L:=L) (n:=n) (s:=s)) hk;have h4:=(want_le (L:=L) (n:=n) (s:=(doneS L n s).1) ⟨#[59]⟩) h3.1;show 1+(doneS L n s).2.args.length+2 * rem8 L (wantS L n (doneS L n s).1 ⟨#[59]⟩)≤_;have h5:rem8 L (actS L n s).1=rem8 L (wantS L n (doneS L n s).1 ⟨#[59]⟩):=rfl;omega
theorem amp_cnt {L:List TokE} {n:Nat}:∀ (f:Nat) (s:S8) (l:List PartE),s.k≤L.length→(ampS L n f s l).2.length+rem8 L (ampS L n f s l).1≤l.length+rem8 L s
 | 0,_,_,_=>Nat.le_refl _
 | f+1,s,l,hk=>by
  rw[ampS];split
  ·rename_i hc;have h1:=((is_lt hc).trans (part_le (n:=n))) hk;have:=amp_cnt (n:=n) f (partS L n (nextS s)).1 (l++[(partS L n (nextS s)).2]) h1.1;simp only[List.length_append,List.length_cons,List.length_nil] at this;omega
  ·exact Nat.le_refl _
theorem chord_cnt {L:List TokE} {n:Nat} (s:S8) (hk:s.k≤L.length) (hb:s.bad=0):wC (chordS L n s).2+3 * rem8 L (chordS L n s).1≤3 * rem8 L s:=by
 unfold chordS wC;simp only;have ha:=((want_lt (n:=n) (t:=⟨#[99,104,111,114,100]⟩) hb).trans (word_le (n:=n))) hk;generalize wordS L n (wantS L n s ⟨#[99,104,111,114,100]⟩)=a at ha ⊢;have hp:=((want_le (L:=L) (n:=n) (s:=a.1) ⟨#[58]⟩).trans (part_le (n:=n))) ha.1;generalize partS L n (wantS L n a.1 ⟨#[58]⟩)=b at hp ⊢;have hc:=amp_cnt (n:=n) (fuel8 L) b.1 [b.2] hp.1;have hc2:=(amp_le (L:=L) (n:=n) (fuel8 L) b.1 [b.2]) hp.1;generalize ampS L n (fuel8 L) b.1 [b.2]=c at hc hc2 ⊢;have hg:=(guard_le (L:=L) (n:=n) (s:=c.1) (t:=⟨#[119,104,101,110]⟩)) hc2.1;generalize (if isB L c.1 ⟨#[119,104,101,110]⟩ then exprS L n (nextS c.1) else (c.1,none))=g at hg ⊢;have hw:=(want_le (L:=L) (n:=n) (s:=g.1) ⟨#[123]⟩) hg.1;have hd:=up_cnt (item:=actS L n) wA 2 (fun _=>act_le) (fun s hk hb=>act_cnt s hk hb) (fuel8 L) (wantS L n g.1 ⟨#[123]⟩) [] hw.1;have hd2:=(up_le (L:=L) (item:=actS L n) (fun _=>act_le) (fuel8 L) (wantS L n g.1 ⟨#[123]⟩) []) hw.1;generalize upS L (actS L n) (fuel8 L) (wantS L n g.1 ⟨#[123]⟩) []=d at hd hd2 ⊢;simp only[List.length_cons,List.length_nil,List.map_nil,List.sum_nil] at hc hd;omega
theorem kindD_cnt {L:List TokE} {n:Nat} (s:S8) (hk:s.k≤L.length):wK (kindDS L n s).2+3 * rem8 L (kindDS L n s).1≤3 * rem8 L s:=by
 unfold kindDS wK;simp only;have ha:=((want_le (L:=L) (n:=n) (s:=s) ⟨#[107,105,110,100]⟩).trans ((word_le (n:=n)).trans (want_le (n:=n) ⟨#[123]⟩))) hk;have hd:=up_cnt (item:=chordS L n) wC 3 (fun _=>chord_le) (fun s hk hb=>chord_cnt s hk hb) (fuel8 L) _ [] ha.1;simp only[List.map_nil,List.sum_nil] at hd;omega
theorem prog_cnt {L:List TokE} {n:Nat}:∀ (f:Nat) (s:S8) (p:ProgE),s.k≤L.length→((progS L n f s p).2.kinds.map wK).sum+3 * rem8 L (progS L n f s p).1≤(p.kinds.map wK).sum+3 * rem8 L s
 | 0,_,_,_=>Nat.le_refl _
 | f+1,s,p,hk=>by
  rw[progS];split
  ·split
   ·rename_i hc;have h1:=((is_lt hc).trans (tag_le (n:=n))) hk;have:=prog_cnt (n:=n) f (tagS L n (nextS s)).1 ⟨p.tags++[(tagS L n (nextS s)).2],p.kinds⟩ h1.1;simp only at this;omega
   ·have h1:=kindD_cnt (n:=n) s hk;have:=prog_cnt (n:=n) f (kindDS L n s).1 ⟨p.tags,p.kinds++[(kindDS L n s).2]⟩ ((kindD_le (L:=L) (n:=n) (s:=s)) hk).1;simp only[List.map_append,List.sum_append,List.map_cons,List.map_nil,List.sum_cons,List.sum_nil] at this;omega
  ·exact Nat.le_refl _
theorem progT_cnt (l:List UInt8) (n:Nat):((progT l n).1.kinds.map wK).sum≤98310:=by
 have hf:=toksL_few l;have h:=prog_cnt (L:=toksL l) (n:=n) (fuel8 (toksL l)) ⟨0,0,0⟩ ⟨[],[]⟩ (Nat.zero_le _);have hr:=rem8_le (toksL l) ⟨0,0,0⟩;have hfu:fuel8 (toksL l)=(toksL l).length+2:=rfl;simp only[List.map_nil,List.sum_nil] at h;unfold progT;split
 ·exact Nat.zero_le _
 ·split
  ·show ((progS (toksL l) n (fuel8 (toksL l)) ⟨0,0,0⟩ ⟨[],[]⟩).2.kinds.map wK).sum≤_;omega
  ·exact Nat.zero_le _
open Go.RowKit
abbrev Trip:=Option Addr × Nat × Nat
def slv (t:Trip):Value:=.slice t.1 t.2.1 t.2.2
def blk (t:Trip):List Nat:=(slv t).ownBlock.toList
theorem trips {α:Type} {E:Shp α} {sz p:Nat} (ke:KE E sz) (hp:p<sz) {w:World} (P:Trip→α→Prop)
  (get:∀ {F:List Nat} {c:List Value} {x:α},E w F c x→∃ t,c[p]?=some (slv t)∧P t x∧F=blk t) :
  ∀ {xs:List α} {F:List Nat} {c:List Value},Elems E w F c xs→∃ tr:List Trip,tr.length=xs.length∧(∀ (k:Nat) (t:Trip),tr[k]?=some t→c[k * sz+p]?=some (slv t))∧(∀ (k:Nat) (t:Trip) (x:α),tr[k]?=some t→xs[k]?=some x→P t x)∧F=tr.flatMap blk
 | [],_,_,⟨hF,hc⟩=>⟨[],rfl,(fun k t h=>by simp at h),(fun k t x h=>by simp at h),hF⟩
 | x :: xs,_,_,⟨F1,F2,c1,c2,hF,hc,hx,hr⟩=>by
  obtain⟨t,h1,h2,h3⟩:=get hx;obtain⟨tr,h4,h5,h6,h7⟩:=trips ke hp P get hr;have hl:=ke.len hx;subst hF hc;refine⟨t :: tr,by simp[h4],fun k u hk=>?_,fun k u y hk hy=>?_,by rw[List.flatMap_cons,h3,h7]⟩
  ·cases k with
   | zero =>
    simp at hk;subst hk;rw[Nat.zero_mul,Nat.zero_add,List.getElem?_append_left (by omega)];exact h1
   | succ k =>
    have:=h5 k u (by simpa using hk);rw[List.getElem?_append_right (by rw[hl,Nat.succ_mul];omega),hl,show (k+1) * sz+p-sz=k * sz+p by rw[Nat.succ_mul];omega];exact this
  ·cases k with
   | zero=>simp at hk hy;subst hk hy;exact h2
   | succ k=>exact h6 k u y (by simpa using hk) (by simpa using hy)
theorem own_rowC {w:World} {T:TypeId} {sz n:Nat} {v:Value} {d:List Value} (h:w.ownsRow 0 T sz v n d):∃ t:Trip,v=slv t∧t.2.1=n∧RowC T sz w t.1 t.2.1 t.2.2:=by
 obtain⟨a,c,rfl⟩:=own_slice h;exact⟨(a,n,c),rfl,rfl,RowC.of_own h⟩
theorem int_none {w:World}:∀ {xs:List Int} {F:List Nat} {c:List Value},Elems intE w F c xs→F=[]
 | [],_,_,h=>h.1
 | _ :: _,_,_,⟨F1,F2,_,_,hF,_,hx,hr⟩=>by rw[hF,hx.1,int_none hr];rfl
theorem str_none {w:World}:∀ {xs:List ByteArray} {F:List Nat} {c:List Value},Elems strE w F c xs→F=[]
 | [],_,_,h=>h.1
 | _ :: _,_,_,⟨F1,F2,_,_,hF,_,hx,hr⟩=>by rw[hF,hx.1,str_none hr];rfl
theorem tag_trip {w:World} {F:List Nat} {c:List Value} {x:TagE} (h:tagE w F c x):∃ t,c[1]?=some (slv t)∧(t.2.1=x.tys.length∧RowC 3 1 w t.1 t.2.1 t.2.2)∧F=blk t:=by
 obtain⟨v,d,rfl,hl⟩:=h;obtain⟨t,rfl,hn,hr⟩:=own_rowC hl.row;obtain⟨F2,hF,he⟩:=hl.els;exact⟨t,rfl,⟨hn,hr⟩,by rw[hF,int_none he,List.append_nil];rfl⟩
theorem part_trip {w:World} {F:List Nat} {c:List Value} {x:PartE} (h:partE w F c x):∃ t,c[1]?=some (slv t)∧(t.2.1=x.vs.length∧RowC 9 1 w t.1 t.2.1 t.2.2)∧F=blk t:=by
 obtain⟨v,d,rfl,hl⟩:=h;obtain⟨t,rfl,hn,hr⟩:=own_rowC hl.row;obtain⟨F2,hF,he⟩:=hl.els;exact⟨t,rfl,⟨hn,hr⟩,by rw[hF,str_none he,List.append_nil];rfl⟩
theorem ex_trip {w:World} {F:List Nat} {c:List Value} {x:Option Ex} (h:exE w F c x):∃ t,c[0]?=some (slv t)∧(t.2.1=(exN x).length∧RowC 109 9 w t.1 t.2.1 t.2.2)∧F=blk t:=by
 obtain⟨v,rfl,hF,hl⟩:=h;obtain⟨t,rfl,hn,hr⟩:=own_rowC hl;exact⟨t,rfl,⟨hn,hr⟩,hF⟩
theorem outs {α β:Type} {E:Shp α} {sz:Nat} (ke:KE E sz) {w:World} (P:β→List Value→α→Prop) (fp:β→List Nat)
  (get:∀ {F:List Nat} {c:List Value} {x:α},E w F c x→∃ t,P t c x∧F=fp t) :
  ∀ {xs:List α} {F:List Nat} {c:List Value},Elems E w F c xs→∃ tr:List β,tr.length=xs.length∧(∀ (k:Nat) (t:β) (x:α),tr[k]?=some t→xs[k]?=some x→∃ c1:List Value,c1.length=sz∧(∀ j,j<sz→c[k * sz+j]?=c1[j]?)∧P t c1 x)∧F=tr.flatMap fp
 | [],_,_,⟨hF,hc⟩=>⟨[],rfl,(fun k t x h=>by simp at h),hF⟩
 | x :: xs,_,_,⟨F1,F2,c1,c2,hF,hc,hx,hr⟩=>by
  obtain⟨t,h1,h3⟩:=get hx;obtain⟨tr,h4,h6,h7⟩:=outs ke P fp get hr;have hl:=ke.len hx;subst hF hc;refine⟨t :: tr,by simp[h4],fun k u y hk hy=>?_,by rw[List.flatMap_cons,h3,h7]⟩;cases k with
  | zero =>
   simp at hk hy;subst hk hy;exact⟨c1,hl,fun j hj=>by rw[Nat.zero_mul,Nat.zero_add,List.getElem?_append_left (by omega)],h1⟩
  | succ k =>
   obtain⟨d,hd,hd2,hd3⟩:=h6 k u y (by simpa using hk) (by simpa using hy);refine⟨d,hd,fun j hj=>?_,hd3⟩;rw[List.getElem?_append_right (by rw[hl,Nat.succ_mul];omega),hl,show (k+1) * sz+j-sz=k * sz+j by rw[Nat.succ_mul];omega];exact hd2 j hj
theorem list_cell {w:World} {T:TypeId} {sz n g:Nat} {t:Trip} {d:List Value} (h:w.ownsRow 0 T sz (slv t) n d) (hg:t.1=some ⟨g,0,none⟩) (j:Nat) (u:Value) (hj:d[j]?=some u):w.cell? ⟨g,j,none⟩=some u:=by
 have:=h.cells (g:=g) (by unfold slv Value.ownBlock;rw[hg]) j u hj;have e1:(⟨g,0,none⟩:Addr).add j=⟨g,j,none⟩:=by unfold Addr.add;simp;intro h;exact h.symm
 rwa [e1] at this
structure ActG where
 tgt:Trip
 row:Trip
 ats:List Trip
def ActG.fp (g:ActG):List Nat:=blk g.tgt++(blk g.row++g.ats.flatMap blk)
structure ActG.At (w:World) (g:ActG) (c:List Value) (x:ActE):Prop where
 c1:c[1]?=some (slv g.tgt)
 c4:c[4]?=some (slv g.row)
 rto:RowC 109 9 w g.tgt.1 g.tgt.2.1 g.tgt.2.2
 nto:g.tgt.2.1=(exN x.to).length
 rrow:RowC 41 1 w g.row.1 g.row.2.1 g.row.2.2
 nrow:g.row.2.1=x.args.length
 nats:g.ats.length=x.args.length
 cell:∀ b,g.row.1=some ⟨b,0,none⟩→∀ (j:Nat) (t:Trip),g.ats[j]?=some t→w.cell? ⟨b,j,none⟩=some (slv t)
 rats:∀ (j:Nat) (t:Trip) (o:Option Ex),g.ats[j]?=some t→x.args[j]?=some o→t.2.1=(exN o).length∧RowC 109 9 w t.1 t.2.1 t.2.2
theorem act_out {w:World} {F:List Nat} {c:List Value} {x:ActE} (h:actE w F c x):∃ g:ActG,g.At w c x∧F=g.fp:=by
 obtain⟨tv,av,d,F1,F2,rfl,rfl,hto,hl⟩:=h;obtain⟨tgt,h1,⟨h2,h3⟩,h4⟩:=ex_trip hto;simp at h1;subst h1;obtain⟨row,rfl,hn,hr⟩:=own_rowC hl.row;obtain⟨F3,hF,he⟩:=hl.els;obtain⟨ats,k1,k2,k3,k4⟩:=trips exK (p:=0) (by decide) (fun t (o:Option Ex)=>t.2.1=(exN o).length∧RowC 109 9 w t.1 t.2.1 t.2.2) ex_trip he;refine⟨⟨tgt,row,ats⟩,⟨rfl,rfl,h3,h2,hr,hn,k1,fun b hb j t ht=>?_,k3⟩,?_⟩
 ·have:=k2 j t ht;rw[Nat.mul_one,Nat.add_zero] at this;exact list_cell hl.row hb j _ this
 ·unfold ActG.fp;rw[h4,hF,k4];rfl
structure ChG where
 prow:Trip
 pvs:List Trip
 guard:Trip
 brow:Trip
 acts:List ActG
def ChG.fp (g:ChG):List Nat:=(blk g.prow++g.pvs.flatMap blk)++(blk g.guard++(blk g.brow++g.acts.flatMap ActG.fp))
structure ChG.At (w:World) (g:ChG) (c:List Value) (x:ChordE):Prop where
 cells:c=[.string x.nm,slv g.prow,slv g.guard,slv g.brow]
 rprow:RowC 95 2 w g.prow.1 g.prow.2.1 g.prow.2.2
 nprow:g.prow.2.1=x.parts.length
 npvs:g.pvs.length=x.parts.length
 pcell:∀ b,g.prow.1=some ⟨b,0,none⟩→∀ (j:Nat) (t:Trip),g.pvs[j]?=some t→w.cell? ⟨b,j * 2+1,none⟩=some (slv t)
 rpvs:∀ (j:Nat) (t:Trip) (p:PartE),g.pvs[j]?=some t→x.parts[j]?=some p→t.2.1=p.vs.length∧RowC 9 1 w t.1 t.2.1 t.2.2
 rguard:RowC 109 9 w g.guard.1 g.guard.2.1 g.guard.2.2
 nguard:g.guard.2.1=(exN x.guard).length
 rbrow:RowC 100 5 w g.brow.1 g.brow.2.1 g.brow.2.2
 nbrow:g.brow.2.1=x.body.length
 nacts:g.acts.length=x.body.length
 acell:∀ b,g.brow.1=some ⟨b,0,none⟩→∀ (j:Nat) (t:ActG) (a:ActE),g.acts[j]?=some t→x.body[j]?=some a→∃ c1:List Value,c1.length=5∧(∀ i u,c1[i]?=some u→w.cell? ⟨b,j * 5+i,none⟩=some u)∧t.At w c1 a
theorem chord_out {w:World} {F:List Nat} {c:List Value} {x:ChordE} (h:chordE w F c x):∃ g:ChG,g.At w c x∧F=g.fp:=by
 obtain⟨pv,gv,bv,dp,db,F1,F2,F3,rfl,rfl,hp,hg,hb⟩:=h;obtain⟨guard,h1,⟨h2,h3⟩,h4⟩:=ex_trip hg;simp at h1;subst h1;obtain⟨prow,rfl,hpn,hpr⟩:=own_rowC hp.row;obtain⟨brow,rfl,hbn,hbr⟩:=own_rowC hb.row;obtain⟨G1,hG1,he1⟩:=hp.els;obtain⟨G3,hG3,he3⟩:=hb.els;obtain⟨pvs,k1,k2,k3,k4⟩:=trips partK (p:=1) (by decide) (fun t (o:PartE)=>t.2.1=o.vs.length∧RowC 9 1 w t.1 t.2.1 t.2.2) part_trip he1;obtain⟨acts,m1,m2,m3⟩:=outs actK (w:=w) (fun (t:ActG) c x=>t.At w c x) ActG.fp act_out he3;refine⟨⟨prow,pvs,guard,brow,acts⟩,⟨rfl,hpr,hpn,k1,fun b hb1 j t ht=>list_cell hp.row hb1 _ _ (k2 j t ht),k3,h3,h2,hbr,hbn,m1,fun b hb1 j t a ht ha=>?_⟩,?_⟩
 ·obtain⟨c1,n1,n2,n3⟩:=m2 j t a ht ha;refine⟨c1,n1,fun i u hu=>list_cell hb.row hb1 _ _ ?_,n3⟩;rw[n2 i (by have:=(List.getElem?_eq_some_iff.1 hu).1;omega)];exact hu
 ·unfold ChG.fp;rw[h4,hG1,hG3,k4,m3];rfl
structure KdG where
 row:Trip
 chs:List ChG
def KdG.fp (g:KdG):List Nat:=blk g.row++g.chs.flatMap ChG.fp
structure KdG.At (w:World) (g:KdG) (c:List Value) (x:KindE):Prop where
 cells:c=[.string x.nm,slv g.row]
 rrow:RowC 44 4 w g.row.1 g.row.2.1 g.row.2.2
 nrow:g.row.2.1=x.chords.length
 nchs:g.chs.length=x.chords.length
 ccell:∀ b,g.row.1=some ⟨b,0,none⟩→∀ (j:Nat) (t:ChG) (a:ChordE),g.chs[j]?=some t→x.chords[j]?=some a→∃ c1:List Value,c1.length=4∧(∀ i u,c1[i]?=some u→w.cell? ⟨b,j * 4+i,none⟩=some u)∧t.At w c1 a
theorem kind_out {w:World} {F:List Nat} {c:List Value} {x:KindE} (h:kindE w F c x):∃ g:KdG,g.At w c x∧F=g.fp:=by
 obtain⟨v,d,rfl,hl⟩:=h;obtain⟨row,rfl,hn,hr⟩:=own_rowC hl.row;obtain⟨G,hG,he⟩:=hl.els;obtain⟨chs,m1,m2,m3⟩:=outs chordK (w:=w) (fun (t:ChG) c x=>t.At w c x) ChG.fp chord_out he;refine⟨⟨row,chs⟩,⟨rfl,hr,hn,m1,fun b hb1 j t a ht ha=>?_⟩,?_⟩
 ·obtain⟨c1,n1,n2,n3⟩:=m2 j t a ht ha;refine⟨c1,n1,fun i u hu=>list_cell hl.row hb1 _ _ ?_,n3⟩;rw[n2 i (by have:=(List.getElem?_eq_some_iff.1 hu).1;omega)];exact hu
 ·unfold KdG.fp;rw[hG,m3];rfl
theorem flat_len {α β γ:Type} (f:α→List γ) (v:β→Nat):∀ (xs:List α) (ys:List β),xs.length=ys.length→(∀ (j:Nat) (t:α) (a:β),xs[j]?=some t→ys[j]?=some a→(f t).length=v a)→(xs.flatMap f).length=(ys.map v).sum
 | [],[],_,_=>rfl
 | x :: xs,[],h,_=>by simp at h
 | [],y :: ys,h,_=>by simp at h
 | x :: xs,y :: ys,h,hp=>by
  have h1:=hp 0 x y rfl rfl;have h2:=flat_len f v xs ys (by simpa using h) (fun j t a ht ha=>hp (j+1) t a (by simpa using ht) (by simpa using ha));rw[List.flatMap_cons,List.length_append,List.map_cons,List.sum_cons,h1,h2]
def aE (a:ActG):List Trip:=a.tgt :: a.ats
def gE (g:ChG):List Trip:=g.guard :: g.acts.flatMap aE
def kE (k:KdG):List Trip:=k.chs.flatMap gE
def kV (k:KdG):List Trip:=k.chs.flatMap ChG.pvs
theorem row_some {T:TypeId} {sz n cap:Nat} {w:World} {a:Option Addr} (h:RowC T sz w a n cap) (hn:0<n):∃ g,a=some ⟨g,0,none⟩:=h.some hn
theorem ch_cnt {w:World} {g:ChG} {c:List Value} {x:ChordE} (h:g.At w c x):g.pvs.length+(gE g).length=wC x:=by
 have hf:(g.acts.flatMap aE).length=(x.body.map wA).sum:=by
  refine flat_len aE wA g.acts x.body h.nacts (fun j t a ht ha=>?_);have hlt:=(List.getElem?_eq_some_iff.1 ha).1;obtain⟨b,hb⟩:=row_some h.rbrow (by rw[h.nbrow];omega);obtain⟨c1,_,_,h3⟩:=h.acell b hb j t a ht ha;unfold aE wA;rw[List.length_cons,h3.nats,Nat.add_comm]
 unfold gE wC;rw[List.length_cons,hf,h.npvs];omega
theorem kd_cnt {w:World} {g:KdG} {c:List Value} {x:KindE} (h:g.At w c x):(kV g).length+(kE g).length=wK x:=by
 have hf:((g.chs.flatMap (fun t=>t.pvs++gE t))).length=(x.chords.map wC).sum:=by
  refine flat_len _ wC g.chs x.chords h.nchs (fun j t a ht ha=>?_);have hlt:=(List.getElem?_eq_some_iff.1 ha).1;obtain⟨b,hb⟩:=row_some h.rrow (by rw[h.nrow];omega);obtain⟨c1,_,_,h3⟩:=h.ccell b hb j t a ht ha;rw[List.length_append];exact ch_cnt h3
 unfold wK;rw[← hf];unfold kV kE;generalize g.chs=l
 induction l with
 | nil=>rfl
 | cons y l ih =>
  simp only[List.flatMap_cons,List.length_append] at ih ⊢;omega
end Go.Proofs.YtenlhcgpajphhaaGreatDoor
