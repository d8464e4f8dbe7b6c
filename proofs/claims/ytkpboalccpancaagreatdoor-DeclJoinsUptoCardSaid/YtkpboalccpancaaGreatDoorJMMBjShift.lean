import Derived.Test.YtkpboalccpancaaGreatDoorJMBjRd
import Derived.Test.YtkpboalccpancaaGreatDoorJMDrBegun
import Derived.Test.YtkpboalccpancaaGreatDoorJMBjScan
import Derived.Test.YtkpboalccpancaaGreatDoorJMDpWholeP
import Derived.Test.YtkpboalccpancaaGreatDoorJMDwAll
import Derived.Laws.AppendOwnNone
import Derived.Test.YtkpboalccpancaaGreatDoorJMEpShut
namespace Go.Proofs.YtkpboalccpancaaGreatDoor
open Go.RowKit
set_option linter.all false
def shR (m:Nat):Rs→Rs
 | .ok t q=>.ok t (m+q)
 | .bad q=>.bad (m+q)
theorem thenR_sh {m:Nat} {o:Option Rs} {k k':Ex→Nat→Option Rs} (h:∀ a q,k' a (m+q)=(k a q).map (shR m)):thenR (o.map (shR m)) k'=(thenR o k).map (shR m):=by
 cases o with
 | none=>rfl
 | some r =>
  cases r with
  | bad q=>rfl
  | ok a q=>exact h a q
theorem rd_shift {m:Nat} {g g':Nat→Cl} (hg:∀ p,g' (m+p)=g p):∀ (f:Nat) (X:Nt) (p:Nat),rd g' f X (m+p)=(rd g f X p).map (shR m):=by
 intro f
 induction f with
 | zero=>intro X p;unfold rd;rfl
 | succ f ih =>
  intro X p;cases X with
  | lvl n =>
   rw[rd,rd,hg];split
   ·cases hc:g p with
    | leaf l=>rfl
    | no=>rfl
    | mark s =>
     simp only;split
     ·rw[show m+p+1=m+(p+1) from rfl,ih];refine thenR_sh (fun a q=>?_);rw[hg];split <;> rfl
     ·rfl
    | word k =>
     simp only;rw[show m+p+1=m+(p+1) from rfl,hg];split
     ·rw[show m+p+2=m+(p+2) from rfl,ih];refine thenR_sh (fun a q=>?_);rw[hg];split
      ·split <;> rfl
      ·split
       ·rw[show m+q+1=m+(q+1) from rfl,ih];refine thenR_sh (fun b q2=>?_);rw[hg];split <;> rfl
       ·rfl
     ·rfl
   ·split
    ·split
     ·exact ih _ _
     ·rw[show m+p+1=m+(p+1) from rfl,ih];exact thenR_sh (fun a q=>rfl)
    ·rw[ih];exact thenR_sh (fun a q=>ih _ _)
  | loop n a =>
   rw[rd,rd,hg];split
   ·rw[show m+p+1=m+(p+1) from rfl,ih];refine thenR_sh (fun b q=>?_);split
    ·rfl
    ·exact ih _ _
   ·rfl
structure Shf (L L':List TokE) (m:Nat) (off:Int):Prop where
 len:L'.length=m+L.length
 at_:∀ k,k<L.length→tkE L' (m+k)={ tkE L k with pl:=(tkE L k).pl+off }
def shS (m:Nat) (off P:Int) (s:S8):S8:=⟨m+s.k,s.bad,if s.bad=0 then P else s.pl+off⟩
structure QS (L L':List TokE) (m:Nat) (off P:Int) {α:Type} (f f':S8→S8 × α):Prop where
 eq:∀ s,s.k≤L.length→f' (shS m off P s)=(shS m off P (f s).1,(f s).2)
 le:∀ s,Le8 L s (f s).1
section
variable {L L':List TokE} {m:Nat} {off P:Int} {α β:Type}
theorem QS.bind {f f':S8→S8 × α} {g g':α→S8→S8 × β} (h:QS L L' m off P f f') (hg:∀ v,QS L L' m off P (g v) (g' v)):QS L L' m off P (fun s=>g (f s).2 (f s).1) (fun s=>g' (f' s).2 (f' s).1) where
 eq s hk:=by
  show g' (f' (shS m off P s)).2 (f' (shS m off P s)).1=_;rw[h.eq s hk];exact(hg _).eq _ (h.le s hk).1
 le s:=(h.le s).trans ((hg _).le _)
theorem QS.ret (v:α):QS L L' m off P (fun s=>(s,v)) (fun s=>(s,v)) where
 eq _ _:=rfl
 le s:=Le8.refl L s
theorem QS.cond {c c':S8→Bool} (hc:∀ s,s.k≤L.length→c' (shS m off P s)=c s) {A A' B B':S8→S8 × α} (hA:∀ s,s.k≤L.length→c s=true→A' (shS m off P s)=(shS m off P (A s).1,(A s).2)) (hAl:∀ s,c s=true→Le8 L s (A s).1) (hB:QS L L' m off P B B') :
  QS L L' m off P (fun s=>if c s then A s else B s) (fun s=>if c' s then A' s else B' s) where
 eq s hk:=by
  show (if c' (shS m off P s) then A' (shS m off P s) else B' (shS m off P s))=_;rw[hc s hk];cases h:c s with
  | true=>exact hA s hk h
  | false=>exact hB.eq s hk
 le s:=by
  show Le8 L s (if c s then A s else B s).1;cases h:c s with
  | true=>exact hAl s h
  | false=>exact hB.le s
variable (H:Shf L L' m off) {n n':Nat} (hn:(n':Int)=n+off)
include H
theorem isB_sh (t:ByteArray) (s:S8):isB L' (shS m off P s) t=isB L s t:=by
 have hl:=H.len;unfold isB;show (decide (s.bad=0) && (decide (m+s.k<L'.length) && ((decide ((tkE L' (m+s.k)).kd=1) || decide ((tkE L' (m+s.k)).kd=5)) && decide ((tkE L' (m+s.k)).tx=t))))=_;by_cases hk:s.k<L.length
 ·rw[H.at_ _ hk,decide_eq_true hk,decide_eq_true (show m+s.k<L'.length by omega)]
 ·rw[decide_eq_false hk,decide_eq_false (show ¬ m+s.k<L'.length by omega)];simp
theorem wordB_sh (s:S8):wordB8 L' (shS m off P s)=wordB8 L s:=by
 have hl:=H.len;unfold wordB8;show (decide (s.bad=0) && (decide (m+s.k<L'.length) && (decide ((tkE L' (m+s.k)).kd=1) && !kwB (tkE L' (m+s.k)).tx)))=_;by_cases hk:s.k<L.length
 ·rw[H.at_ _ hk,decide_eq_true hk,decide_eq_true (show m+s.k<L'.length by omega)]
 ·rw[decide_eq_false hk,decide_eq_false (show ¬ m+s.k<L'.length by omega)];simp
theorem kindB_sh (s:S8):kindB8 L' (shS m off P s)=kindB8 L s:=by
 have hl:=H.len;unfold kindB8;show (decide (s.bad=0) && (decide (m+s.k<L'.length) && decide ((tkE L' (m+s.k)).kd=1)))=_;by_cases hk:s.k<L.length
 ·rw[H.at_ _ hk,decide_eq_true hk,decide_eq_true (show m+s.k<L'.length by omega)]
 ·rw[decide_eq_false hk,decide_eq_false (show ¬ m+s.k<L'.length by omega)];simp
theorem gL_sh (p:Nat):gL L' (m+p)=gL L p:=by
 have hl:=H.len;unfold gL;by_cases hk:p<L.length
 ·have h:=H.at_ p hk;unfold tkE at h;rw[if_pos hk,if_pos (by omega),h];rfl
 ·rw[if_neg hk,if_neg (by omega)]
include hn
theorem plc_sh (q:Nat):plc L' n' ((m+q:Nat):Int)=plc L n (q:Nat)+off:=by
 have hl:=H.len;unfold plc;by_cases hk:q<L.length
 ·rw[if_pos (by omega),if_pos (by omega)];have h1:(((m+q:Nat):Int)).toNat=m+q:=by omega
  have h2:((q:Nat):Int).toNat=q:=by omega
  rw[h1,h2,H.at_ q hk]
 ·rw[if_neg (by omega),if_neg (by omega),hn]
theorem fail_sh (s:S8) (q:Nat) (x:Int) (hx:x≠0):failS L' n' (shS m off P s) ((m+q:Nat):Int) x=shS m off P (failS L n s (q:Nat) x):=by
 unfold failS;by_cases hb:s.bad=0
 ·rw[if_pos hb,if_pos (show (shS m off P s).bad=0 from hb),plc_sh H hn];show _=S8.mk (m+s.k) x (if x=0 then _ else _);rw[if_neg hx];rfl
 ·rw[if_neg hb,if_neg (show ¬ (shS m off P s).bad=0 from hb)]
omit hn in
theorem isB_Q (t:ByteArray) {A A' B B':S8→S8 × α} (hA:∀ s,s.k<L.length→A' (shS m off P s)=(shS m off P (A s).1,(A s).2)) (hAl:∀ s,isB L s t=true→Le8 L s (A s).1) (hB:QS L L' m off P B B') :
  QS L L' m off P (fun s=>if isB L s t then A s else B s) (fun s=>if isB L' s t then A' s else B' s) :=
 QS.cond (c:=fun s=>isB L s t) (c':=fun s=>isB L' s t) (fun s _=>isB_sh H t s) (fun s _ h=>hA s (isB_yes h).2.1) hAl hB
theorem want_Q (t:ByteArray):QS L L' m off P (fun s=>(wantS L n s t,())) (fun s=>(wantS L' n' s t,())) where
 eq s _:=by
  show (wantS L' n' (shS m off P s) t,())=(shS m off P (wantS L n s t),())
  unfold wantS;rw[isB_sh H];split
  ·rfl
  ·rw[show ((shS m off P s).k:Int)=((m+s.k:Nat):Int) from rfl,fail_sh H hn s s.k 80 (by decide)]
 le s:=want_le t
theorem failv_Q (v:α):QS L L' m off P (fun s=>(failS L n s s.k 80,v)) (fun s=>(failS L' n' s s.k 80,v)) where
 eq s _:=by
  show (failS L' n' (shS m off P s) ((m+s.k:Nat):Int) 80,v)=_;rw[fail_sh H hn s s.k 80 (by decide)]
 le s:=fail_le _ _
theorem word_Q:QS L L' m off P (wordS L n) (wordS L' n') :=
 QS.cond (fun s _=>wordB_sh H s) (A:=fun s=>(nextS s,(tkE L s.k).tx)) (A':=fun s=>(nextS s,(tkE L' s.k).tx)) (fun s _ h=>by
   show (nextS (shS m off P s),(tkE L' (m+s.k)).tx)=_;rw[H.at_ _ (word_yes h).2.1];rfl) (fun s h=>(next_lt (word_yes h).1 (word_yes h).2.1).le) (failv_Q H hn eB)
omit H hn in
theorem kind_yes {s:S8} (h:kindB8 L s=true):s.bad=0∧s.k<L.length:=by
 simp only[kindB8,Bool.and_eq_true,decide_eq_true_eq] at h;exact⟨h.1,h.2.1⟩
theorem kind_Q:QS L L' m off P (kindS L n) (kindS L' n') where
 eq s _:=by
  unfold kindS;rw[kindB_sh H];cases hk:kindB8 L s with
  | true =>
   have hy:=kind_yes hk;show (if (true && ((tyF8 (tkE L' (m+s.k)).tx.toList).2 && decide ((tyF8 (tkE L' (m+s.k)).tx.toList).1≠5)))=true then (nextS (shS m off P s),(((tyF8 (tkE L' (m+s.k)).tx.toList).1:Nat):Int)) else (failS L' n' (shS m off P s) ((m+s.k:Nat):Int) 80,0))=_;rw[H.at_ _ hy.2,fail_sh H hn s s.k 80 (by decide)];split <;> rfl
  | false =>
   show (failS L' n' (shS m off P s) ((m+s.k:Nat):Int) 80,(0:Int))=_;rw[fail_sh H hn s s.k 80 (by decide)];rfl
 le s:=kind_le
theorem var_Q:QS L L' m off P (varS L n) (varS L' n') :=
 isB_Q H ⟨#[95]⟩ (A:=fun s=>(nextS s,(⟨#[95]⟩:ByteArray))) (A':=fun s=>(nextS s,(⟨#[95]⟩:ByteArray))) (fun s _=>rfl) (fun s h=>(is_lt h).le) (word_Q H hn)
theorem expr_Q:QS L L' m off P (exprS L n) (exprS L' n') where
 eq s hk:=by
  by_cases hb:s.bad=0
  ·have hsh:∀ {r:Rs},Rd (gL L) (.lvl 1) s.k r→Rd (gL L') (.lvl 1) (m+s.k) (shR m r):=by
    rintro r ⟨f,hf⟩;exact⟨f,by rw[rd_shift (gL_sh H) f,hf];rfl⟩
   have hx:exprS L' n' (shS m off P s)=(match rdX L' (m+s.k) with
    | (some t,a,_)=>(S8.mk a.toNat s.bad P,some t)
    | (none,a,f)=>(failS L' n' (shS m off P s) a f,none)):=by
    unfold exprS;rw[if_pos (show (shS m off P s).bad=0 from hb)];show (match rdX L' (m+s.k) with
     | (some t,a,_)=>(S8.mk a.toNat s.bad (if s.bad=0 then P else s.pl+off),some t)
     | (none,a,f)=>(failS L' n' (shS m off P s) a f,none))=_
    rw[if_pos hb]
   rw[hx];rcases expr_ways L n s hb hk with ⟨q,_,_,h5,h6⟩|⟨t,q,_,_,h5,h7,h6⟩|⟨t,q,_,_,h5,h7,h6⟩
   ·rw[rdB_at (hsh h5),h6];show (failS L' n' (shS m off P s) ((m+q:Nat):Int) 50,none)=_;rw[fail_sh H hn s q 50 (by decide)]
   ·rw[rdG_at (hsh h5) h7,h6];show (failS L' n' (shS m off P s) ((m+s.k:Nat):Int) (faultT t),none)=_;rw[fail_sh H hn s s.k _ h7]
   ·rw[rdO_at (hsh h5) h7,h6];show (S8.mk (((m+q:Nat):Int)).toNat s.bad P,some t)=(S8.mk (m+q) s.bad (if s.bad=0 then P else s.pl+off),some t)
    rw[if_pos hb];rfl
  ·rw[expr_bad hb,expr_bad (show (shS m off P s).bad≠0 from hb)]
 le s:=expr_le
omit hn in
theorem rem_sh (s:S8) (hk:s.k≤L.length):rem8 L' (shS m off P s)=rem8 L s:=by
 have hl:=H.len;unfold rem8;show (if s.bad=0 then L'.length+1-(m+s.k) else 0)=_;split
 ·omega
 ·rfl
theorem loop_Q {it it':S8→S8 × α} (hi:QS L L' m off P it it'):∀ f f' s l,s.k≤L.length→rem8 L s<f→rem8 L s<f' →
  loopS L' n' it' f' (shS m off P s) l=(shS m off P (loopS L n it f s l).1,(loopS L n it f s l).2):=by
 intro f
 induction f with
 | zero=>intro f' s l _ h;omega
 | succ f ih =>
  intro f' s l hk h h';obtain⟨g,rfl⟩:∃ g,f'=g+1:=⟨f'-1,by omega⟩
  by_cases hb:s.bad=0
  ·rw[loopS,loopS,if_pos hb,if_pos (show (shS m off P s).bad=0 from hb),isB_sh H];split
   ·rfl
   ·have hx:=((want_Q H hn ⟨#[44]⟩).bind (fun _=>hi)).eq s hk;have h1:Lt8 L s (it (wantS L n s ⟨#[44]⟩)).1:=(want_lt hb).trans (hi.le _);simp only at hx;rw[hx];have r1:=h1 hk;exact ih g _ _ r1.1 (by omega) (by omega)
  ·rw[loop_bad hb,loop_bad (show (shS m off P s).bad≠0 from hb)]
theorem loops_Q {it it':S8→S8 × α} (hi:QS L L' m off P it it') (l:List α):QS L L' m off P (fun s=>loopS L n it (fuel8 L) s l) (fun s=>loopS L' n' it' (fuel8 L') s l) where
 eq s hk:=loop_Q H hn hi _ _ s l hk (rem8_le _ _) (by rw[← rem_sh (P:=P) H s hk];exact rem8_le _ _)
 le s:=loop_le hi.le _ _ _
theorem list_Q {it it':S8→S8 × α} (hi:QS L L' m off P it it'):QS L L' m off P (listS L n it) (listS L' n' it') :=
 (want_Q H hn ⟨#[40]⟩).bind (fun _=>isB_Q H ⟨#[41]⟩ (A:=fun s=>(nextS s,([]:List α))) (A':=fun s=>(nextS s,([]:List α))) (fun s _=>rfl) (fun s h=>(is_lt h).le) (hi.bind (fun v=>loops_Q H hn hi [v])))
theorem args_Q:QS L L' m off P (argsS L n) (argsS L' n'):=list_Q H hn (expr_Q H hn)
theorem tag_Q:QS L L' m off P (tagS L n) (tagS L' n') :=
 (word_Q H hn).bind (fun a=>(list_Q H hn (kind_Q H hn)).bind (fun b=>(want_Q H hn ⟨#[59]⟩).bind (fun _=>QS.ret (⟨a,b⟩:TagE))))
theorem part_Q:QS L L' m off P (partS L n) (partS L' n') :=
 (word_Q H hn).bind (fun a=>(list_Q H hn (var_Q H hn)).bind (fun b=>QS.ret (⟨a,b⟩:PartE)))
omit H hn in
theorem QS.next {f f':S8→S8 × α} (h:QS L L' m off P f f') (s:S8) (hk:s.k<L.length):f' (nextS (shS m off P s))=(shS m off P (f (nextS s)).1,(f (nextS s)).2):=h.eq (nextS s) hk
theorem done_Q:QS L L' m off P (doneS L n) (doneS L' n'):=by
 have s1:QS L L' m off P (fun s=>(fun s=>let b:=wordS L n (exprS L n s).1;let c:=argsS L n b.1;(c.1,(⟨1,(exprS L n s).2,b.2,eB,c.2⟩:ActE))) s) (fun s=>(fun s=>let b:=wordS L' n' (exprS L' n' s).1;let c:=argsS L' n' b.1;(c.1,(⟨1,(exprS L' n' s).2,b.2,eB,c.2⟩:ActE))) s) :=
  (expr_Q H hn).bind (fun a=>(word_Q H hn).bind (fun b=>(args_Q H hn).bind (fun c=>QS.ret (⟨1,a,b,eB,c⟩:ActE))))
 have s2:QS L L' m off P (fun s=>(fun s=>let a:=wordS L n s;let b:=wordS L n (wantS L n a.1 ⟨#[97,115]⟩);(b.1,(⟨2,none,a.2,b.2,[]⟩:ActE))) s) (fun s=>(fun s=>let a:=wordS L' n' s;let b:=wordS L' n' (wantS L' n' a.1 ⟨#[97,115]⟩);(b.1,(⟨2,none,a.2,b.2,[]⟩:ActE))) s) :=
  (word_Q H hn).bind (fun a=>(want_Q H hn ⟨#[97,115]⟩).bind (fun _=>(word_Q H hn).bind (fun b=>QS.ret (⟨2,none,a,b,[]⟩:ActE))))
 have s3:QS L L' m off P (fun s=>(fun s=>let c:=argsS L n s;(c.1,(⟨3,none,eB,eB,c.2⟩:ActE))) s) (fun s=>(fun s=>let c:=argsS L' n' s;(c.1,(⟨3,none,eB,eB,c.2⟩:ActE))) s) :=
  (args_Q H hn).bind (fun c=>QS.ret (⟨3,none,eB,eB,c⟩:ActE))
 have s4:QS L L' m off P (fun s=>(fun s=>let a:=wordS L n s;(a.1,(⟨4,none,a.2,eB,[]⟩:ActE))) s) (fun s=>(fun s=>let a:=wordS L' n' s;(a.1,(⟨4,none,a.2,eB,[]⟩:ActE))) s) :=
  (word_Q H hn).bind (fun a=>QS.ret (⟨4,none,a,eB,[]⟩:ActE))
 exact isB_Q H _ (fun s h=>s1.next s h) (fun s h=>(is_lt h).le.trans (s1.le _))
  (isB_Q H _ (fun s h=>s2.next s h) (fun s h=>(is_lt h).le.trans (s2.le _))
   (isB_Q H _ (fun s h=>s3.next s h) (fun s h=>(is_lt h).le.trans (s3.le _))
    (isB_Q H _ (fun s h=>s4.next s h) (fun s h=>(is_lt h).le.trans (s4.le _)) (failv_Q H hn (⟨0,none,eB,eB,[]⟩:ActE)))))
theorem act_Q:QS L L' m off P (actS L n) (actS L' n'):=(done_Q H hn).bind (fun a=>(want_Q H hn ⟨#[59]⟩).bind (fun _=>QS.ret a))
theorem amp_Q:∀ f f' s l,s.k≤L.length→rem8 L s<f→rem8 L s<f'→ampS L' n' f' (shS m off P s) l=(shS m off P (ampS L n f s l).1,(ampS L n f s l).2):=by
 intro f
 induction f with
 | zero=>intro f' s l _ h;omega
 | succ f ih =>
  intro f' s l hk h h';obtain⟨g,rfl⟩:∃ g,f'=g+1:=⟨f'-1,by omega⟩
  cases hc:isB L s ⟨#[38]⟩ with
  | true =>
   have hc':isB L' (shS m off P s) ⟨#[38]⟩=true:=by rw[isB_sh H];exact hc
   rw[ampS,ampS,if_pos hc,if_pos hc',(part_Q H hn).next s (isB_yes hc).2.1];have r1:=((is_lt hc).trans (part_le (n:=n))) hk;exact ih g _ _ r1.1 (by omega) (by omega)
  | false =>
   have hc':isB L' (shS m off P s) ⟨#[38]⟩=false:=by rw[isB_sh H];exact hc
   rw[amp_off hc,amp_off hc']
theorem amps_Q (l:List PartE):QS L L' m off P (fun s=>ampS L n (fuel8 L) s l) (fun s=>ampS L' n' (fuel8 L') s l) where
 eq s hk:=amp_Q H hn _ _ s l hk (rem8_le _ _) (by rw[← rem_sh (P:=P) H s hk];exact rem8_le _ _)
 le s:=amp_le _ _ _
omit hn in
theorem up_Q {it it':S8→S8 × α} (hi:QS L L' m off P it it') (hl:∀ s,s.bad=0→Lt8 L s (it s).1):∀ f f' s l,s.k≤L.length→rem8 L s<f→rem8 L s<f' →
  upS L' it' f' (shS m off P s) l=(shS m off P (upS L it f s l).1,(upS L it f s l).2):=by
 intro f
 induction f with
 | zero=>intro f' s l _ h;omega
 | succ f ih =>
  intro f' s l hk h h';obtain⟨g,rfl⟩:∃ g,f'=g+1:=⟨f'-1,by omega⟩
  by_cases hb:s.bad=0
  ·rw[upS,upS,if_pos hb,if_pos (show (shS m off P s).bad=0 from hb),isB_sh H];split
   ·rfl
   ·rw[hi.eq s hk];have r1:=hl s hb hk;exact ih g _ _ r1.1 (by omega) (by omega)
  ·rw[up_bad hb,up_bad (show (shS m off P s).bad≠0 from hb)]
omit hn in
theorem ups_Q {it it':S8→S8 × α} (hi:QS L L' m off P it it') (hl:∀ s,s.bad=0→Lt8 L s (it s).1) (l:List α):QS L L' m off P (fun s=>upS L it (fuel8 L) s l) (fun s=>upS L' it' (fuel8 L') s l) where
 eq s hk:=up_Q H hi hl _ _ s l hk (rem8_le _ _) (by rw[← rem_sh (P:=P) H s hk];exact rem8_le _ _)
 le s:=up_le hi.le _ _ _
theorem guard_Q (t:ByteArray):QS L L' m off P (fun s=>if isB L s t then exprS L n (nextS s) else (s,none)) (fun s=>if isB L' s t then exprS L' n' (nextS s) else (s,none)) :=
 isB_Q H t (fun s h=>(expr_Q H hn).next s h) (fun s h=>(is_lt h).le.trans expr_le) (QS.ret none)
theorem chord_Q:QS L L' m off P (chordS L n) (chordS L' n') :=
 (want_Q H hn ⟨#[99,104,111,114,100]⟩).bind (fun _=>(word_Q H hn).bind (fun a=>(want_Q H hn ⟨#[58]⟩).bind (fun _=>(part_Q H hn).bind (fun b =>
  (amps_Q H hn [b]).bind (fun c=>(guard_Q H hn ⟨#[119,104,101,110]⟩).bind (fun g=>(want_Q H hn ⟨#[123]⟩).bind (fun _ =>
   (ups_Q H (act_Q H hn) (fun _ h=>act_lt h) []).bind (fun d=>QS.ret (⟨a,c,g,d⟩:ChordE)))))))))
theorem kindD_Q:QS L L' m off P (kindDS L n) (kindDS L' n') :=
 (want_Q H hn ⟨#[107,105,110,100]⟩).bind (fun _=>(word_Q H hn).bind (fun a=>(want_Q H hn ⟨#[123]⟩).bind (fun _ =>
  (ups_Q H (chord_Q H hn) (fun _ h=>chord_lt h) []).bind (fun d=>QS.ret (⟨a,d⟩:KindE)))))
def catP (x p:ProgE):ProgE:=⟨x.tags++p.tags,x.kinds++p.kinds⟩
theorem prog_Q (x:ProgE):∀ f f' s p,s.k≤L.length→rem8 L s<f→rem8 L s<f'→progS L' n' f' (shS m off P s) (catP x p)=(shS m off P (progS L n f s p).1,catP x (progS L n f s p).2):=by
 have hl:=H.len;intro f
 induction f with
 | zero=>intro f' s p _ h;omega
 | succ f ih =>
  intro f' s p hk h h';obtain⟨g,rfl⟩:∃ g,f'=g+1:=⟨f'-1,by omega⟩
  by_cases hb:s.bad=0∧s.k<L.length
  ·have hb':(shS m off P s).bad=0∧(shS m off P s).k<L'.length:=⟨hb.1,by show m+s.k<L'.length;omega⟩
   rw[progS,progS,if_pos hb,if_pos hb',isB_sh H];split
   ·rename_i hc;rw[(tag_Q H hn).next s hb.2];have r1:=((is_lt hc).trans (tag_le (n:=n))) hk;have e:∀ v:TagE,(⟨(catP x p).tags++[v],(catP x p).kinds⟩:ProgE)=catP x ⟨p.tags++[v],p.kinds⟩:=fun v=>by unfold catP;simp
    rw[e];exact ih g _ _ r1.1 (by omega) (by omega)
   ·rw[(kindD_Q H hn).eq s hk];have r1:=(kindD_lt (n:=n) hb.1) hk;have e:∀ v:KindE,(⟨(catP x p).tags,(catP x p).kinds++[v]⟩:ProgE)=catP x ⟨p.tags,p.kinds++[v]⟩:=fun v=>by unfold catP;simp
    rw[e];exact ih g _ _ r1.1 (by omega) (by omega)
  ·have hb':¬ ((shS m off P s).bad=0∧(shS m off P s).k<L'.length):=fun k=>hb ⟨k.1,by have:=k.2;simp only[shS] at this;omega⟩;rw[progS,progS,if_neg hb,if_neg hb']
theorem end_Q (s:S8):endS L' n' (shS m off P s)=shS m off P (endS L n s):=by
 have hl:=H.len;unfold endS;by_cases hb:s.bad=0∧s.k<L.length
 ·have hb':(shS m off P s).bad=0∧(shS m off P s).k<L'.length:=⟨hb.1,by show m+s.k<L'.length;omega⟩
  rw[if_pos hb,if_pos hb'];exact fail_sh H hn s s.k 80 (by decide)
 ·have hb':¬ ((shS m off P s).bad=0∧(shS m off P s).k<L'.length):=fun k=>hb ⟨k.1,by have:=k.2;simp only[shS] at this;omega⟩;rw[if_neg hb,if_neg hb']
end
def Inn (n:Nat) (p:Int):Prop:=0≤p∧p≤(n:Int)
def Inv8 (n:Nat) (s:S8):Prop:=s.bad≠0→Inn n s.pl
def KI (n:Nat) {α:Type} (f:S8→S8 × α):Prop:=∀ s,Inv8 n s→Inv8 n (f s).1
section
variable {L:List TokE} {n:Nat} (H:∀ i,Inn n (plc L n i)) {α β:Type}
theorem KI.bind {f:S8→S8 × α} {g:α→S8→S8 × β} (h:KI n f) (hg:∀ v,KI n (g v)):KI n (fun s=>g (f s).2 (f s).1):=fun s hs=>hg _ _ (h s hs)
theorem KI.ret (v:α):KI n (fun s=>(s,v)):=fun _ h=>h
theorem KI.cond {c:S8→Bool} {A B:S8→S8 × α} (hA:KI n A) (hB:KI n B):KI n (fun s=>if c s then A s else B s):=fun s hs=>by
 show Inv8 n (if c s then A s else B s).1;cases c s with
 | true=>exact hA s hs
 | false=>exact hB s hs
theorem KI.next {f:S8→S8 × α} (h:KI n f):KI n (fun s=>f (nextS s)):=fun s hs=>h (nextS s) hs
include H
theorem fail_in (s:S8) (i x:Int) (hs:Inv8 n s):Inv8 n (failS L n s i x):=by
 unfold failS;split
 ·exact fun _=>H i
 ·exact hs
theorem want_I (t:ByteArray):KI n (fun s=>(wantS L n s t,())):=fun s hs=>by
 show Inv8 n (wantS L n s t);unfold wantS;split
 ·exact hs
 ·exact fail_in H _ _ _ hs
theorem word_I:KI n (wordS L n):=fun s hs=>by
 unfold wordS;split
 ·exact hs
 ·exact fail_in H _ _ _ hs
theorem kind_I:KI n (kindS L n):=fun s hs=>by
 unfold kindS;split
 ·exact hs
 ·exact fail_in H _ _ _ hs
theorem var_I:KI n (varS L n):=fun s hs=>by
 unfold varS;split
 ·exact hs
 ·exact word_I H s hs
theorem expr_I:KI n (exprS L n):=fun s hs=>by
 unfold exprS;split
 ·rename_i hb;split
  ·exact fun h=>absurd hb h
  ·exact fail_in H _ _ _ hs
 ·exact hs
theorem loop_I {it:S8→S8 × α} (hi:KI n it):∀ f l,KI n (fun s=>loopS L n it f s l)
 | 0,l=>fun _ hs=>hs
 | f+1,l=>fun s hs=>by
  show Inv8 n (loopS L n it (f+1) s l).1;rw[loopS];split
  ·split
   ·exact hs
   ·exact loop_I hi f _ _ (hi _ (want_I H _ s hs))
  ·exact hs
theorem list_I {it:S8→S8 × α} (hi:KI n it):KI n (listS L n it) :=
 (want_I H ⟨#[40]⟩).bind (fun _=>KI.cond (c:=fun s=>isB L s ⟨#[41]⟩) (A:=fun s=>(nextS s,([]:List α))) (fun _ h=>h) (hi.bind (fun v=>loop_I H hi (fuel8 L) [v])))
theorem args_I:KI n (argsS L n):=list_I H (expr_I H)
theorem tag_I:KI n (tagS L n):=(word_I H).bind (fun a=>(list_I H (kind_I H)).bind (fun b=>(want_I H ⟨#[59]⟩).bind (fun _=>KI.ret (⟨a,b⟩:TagE))))
theorem part_I:KI n (partS L n):=(word_I H).bind (fun a=>(list_I H (var_I H)).bind (fun b=>KI.ret (⟨a,b⟩:PartE)))
theorem done_I:KI n (doneS L n):=by
 have s1:KI n (fun s=>(fun s=>let b:=wordS L n (exprS L n s).1;let c:=argsS L n b.1;(c.1,(⟨1,(exprS L n s).2,b.2,eB,c.2⟩:ActE))) s) :=
  (expr_I H).bind (fun a=>(word_I H).bind (fun b=>(args_I H).bind (fun c=>KI.ret (⟨1,a,b,eB,c⟩:ActE))))
 have s2:KI n (fun s=>(fun s=>let a:=wordS L n s;let b:=wordS L n (wantS L n a.1 ⟨#[97,115]⟩);(b.1,(⟨2,none,a.2,b.2,[]⟩:ActE))) s) :=
  (word_I H).bind (fun a=>(want_I H ⟨#[97,115]⟩).bind (fun _=>(word_I H).bind (fun b=>KI.ret (⟨2,none,a,b,[]⟩:ActE))))
 have s3:KI n (fun s=>(fun s=>let c:=argsS L n s;(c.1,(⟨3,none,eB,eB,c.2⟩:ActE))) s):=(args_I H).bind (fun c=>KI.ret (⟨3,none,eB,eB,c⟩:ActE));have s4:KI n (fun s=>(fun s=>let a:=wordS L n s;(a.1,(⟨4,none,a.2,eB,[]⟩:ActE))) s):=(word_I H).bind (fun a=>KI.ret (⟨4,none,a,eB,[]⟩:ActE));exact KI.cond (c:=fun s=>isB L s _) s1.next (KI.cond (c:=fun s=>isB L s _) s2.next (KI.cond (c:=fun s=>isB L s _) s3.next (KI.cond (c:=fun s=>isB L s _) s4.next
  (fun s hs=>fail_in H s s.k 80 hs:KI n (fun s=>(failS L n s s.k 80,(⟨0,none,eB,eB,[]⟩:ActE)))))))
theorem act_I:KI n (actS L n):=(done_I H).bind (fun a=>(want_I H ⟨#[59]⟩).bind (fun _=>KI.ret a))
theorem amp_I:∀ f l,KI n (fun s=>ampS L n f s l)
 | 0,l=>fun _ hs=>hs
 | f+1,l=>fun s hs=>by
  show Inv8 n (ampS L n (f+1) s l).1;rw[ampS];split
  ·exact amp_I f _ _ ((part_I H).next s hs)
  ·exact hs
omit H in
theorem up_I {it:S8→S8 × α} (hi:KI n it):∀ f l,KI n (fun s=>upS L it f s l)
 | 0,l=>fun _ hs=>hs
 | f+1,l=>fun s hs=>by
  show Inv8 n (upS L it (f+1) s l).1;rw[upS];split
  ·split
   ·exact hs
   ·exact up_I hi f _ _ (hi s hs)
  ·exact hs
theorem chord_I:KI n (chordS L n) :=
 (want_I H ⟨#[99,104,111,114,100]⟩).bind (fun _=>(word_I H).bind (fun a=>(want_I H ⟨#[58]⟩).bind (fun _=>(part_I H).bind (fun b =>
  (amp_I H (fuel8 L) [b]).bind (fun c=>(KI.cond (c:=fun s=>isB L s ⟨#[119,104,101,110]⟩) (expr_I H).next (KI.ret none)).bind (fun g=>(want_I H ⟨#[123]⟩).bind (fun _ =>
   (up_I (act_I H) (fuel8 L) []).bind (fun d=>KI.ret (⟨a,c,g,d⟩:ChordE)))))))))
theorem kindD_I:KI n (kindDS L n) :=
 (want_I H ⟨#[107,105,110,100]⟩).bind (fun _=>(word_I H).bind (fun a=>(want_I H ⟨#[123]⟩).bind (fun _=>(up_I (chord_I H) (fuel8 L) []).bind (fun d=>KI.ret (⟨a,d⟩:KindE)))))
theorem prog_I:∀ f s p,Inv8 n s→Inv8 n (progS L n f s p).1
 | 0,_,_,hs=>hs
 | f+1,s,p,hs=>by
  rw[progS];split
  ·split
   ·exact prog_I f _ _ ((tag_I H).next s hs)
   ·exact prog_I f _ _ (kindD_I H s hs)
  ·exact hs
theorem end_I (s:S8) (hs:Inv8 n s):Inv8 n (endS L n s):=by
 unfold endS;split
 ·exact fail_in H _ _ _ hs
 ·exact hs
end
theorem plc_in (l:List UInt8) (i:Int):Inn l.length (plc (toksL l) l.length i):=by
 unfold plc;split
 ·rename_i h;by_cases h0:i<0
  ·have hi:i.toNat=0:=by omega
   rw[hi];by_cases hl:0<(toksL l).length
   ·exact tok_in hl
   ·unfold tkE;rw[List.getD_eq_getElem?_getD,List.getElem?_eq_none (by omega)];exact⟨Int.le_refl 0,by show (0:Int)≤_;omega⟩
  ·exact tok_in (by omega)
 ·exact⟨by omega,by omega⟩
where
 tok_in {k:Nat} (hk:k<(toksL l).length):Inn l.length (tkE (toksL l) k).pl:=by
  obtain⟨x,hx,_,h2⟩:=toksL_at hk;unfold tkE;rw[h2];by_cases h0:(allR l).2.2=0
  ·have hm:(x,0) ∈ allF l:=by rw[all_zero2 h0];exact List.mem_map.2 ⟨x,hx,rfl⟩
   obtain⟨A,hA,_,hat,_⟩:=mem_place l (x,0) hm rfl;show Inn l.length ((x.at_:Nat):Int);simp only at hat;exact⟨by omega,by omega⟩
  ·have e:=same_all l;unfold toldR at e;rw[if_neg h0] at e;have hm:(x,0) ∈ allF l:=by rw[e];exact List.mem_append_left _ (List.mem_map.2 ⟨x,hx,rfl⟩)
   obtain⟨A,hA,_,hat,_⟩:=mem_place l (x,0) hm rfl;show Inn l.length ((x.at_:Nat):Int);simp only at hat;exact⟨by omega,by omega⟩
theorem lex_in (l:List UInt8):(allR l).2.1≤l.length:=by
 by_cases h0:(allR l).2.2=0
 ·rw[allR_place h0];exact Nat.zero_le _
 ·have e:=same_all l;unfold toldR at e;rw[if_neg h0] at e;by_cases hl:32768<l.length
  ·unfold allR;rw[if_pos hl];exact Nat.zero_le _
  ·have hm:((⟨0,[],0,0,(allR l).2.1,0⟩:Tok),(allR l).2.2) ∈ allF l:=by rw[e];simp
   unfold allF at hm;rw[if_neg hl] at hm;obtain⟨j,hj,hx⟩:=mem_seq _ l 0 (Nat.zero_le _) _ hm;have hp:=next_place l j hj;unfold nextF at hx;rcases tokAt_cases l _ hp with ⟨_,h⟩|⟨_,h,_⟩
   ·have:=congrArg (fun x:Tok × Nat=>x.1.at_) hx;simp only at this;rw[h] at this;simp only at this;omega
   ·have:=congrArg (fun x:Tok × Nat=>x.1.at_) hx;simp only at this;rw[h] at this;omega
theorem place_in (l:List UInt8):Inn l.length (progT l l.length).2.1:=by
 have hz:Inn l.length 0:=⟨Int.le_refl 0,by omega⟩
 unfold progT;split
 ·have:=lex_in l;exact⟨by show (0:Int)≤((allR l).2.1:Nat);omega,by show (((allR l).2.1:Nat):Int)≤_;omega⟩
 ·split
  ·exact hz
  ·rename_i hb;exact end_I (plc_in l) _ (prog_I (plc_in l) _ _ _ (fun h=>absurd rfl h)) hb
theorem both_beg {a b:List UInt8} (ha:(allR a).2.2=0) (hb:(allR b).2.2=0) (hT:(both a b).length≤32768):BegL (toksL a) (toksL (both a b))∧Shf (toksL b) (toksL (both a b)) (toksL a).length ((a.length+1:Nat):Int):=by
 have h:=(toks_both ha hb hT).2;refine⟨⟨by rw[h];simp,fun k hk=>?_⟩,⟨by rw[h];simp,fun k hk=>?_⟩⟩
 ·unfold tkE;rw[h,List.getD_eq_getElem?_getD,List.getD_eq_getElem?_getD,List.getElem?_append_left hk]
 ·unfold tkE;rw[h,List.getD_eq_getElem?_getD,List.getD_eq_getElem?_getD,List.getElem?_append_right (by omega),Nat.add_sub_cancel_left,List.getElem?_map,List.getElem?_eq_getElem hk];rfl
theorem join_said {a b:List UInt8} (hT:(both a b).length≤32768) :
  ((progT a a.length).2.2≠0→(progT (both a b) (both a b).length).2.2≠0∨(progT a a.length).2.1=(a.length:Nat)) ∧
  ((progT a a.length).2.2=0→(progT b b.length).2.2≠0→(progT (both a b) (both a b).length).2.2=(progT b b.length).2.2∧(progT (both a b) (both a b).length).2.1=((a.length+1:Nat):Int)+(progT b b.length).2.1) ∧
  ((progT a a.length).2.2=0→(progT b b.length).2.2=0→progT (both a b) (both a b).length=(catP (progT a a.length).1 (progT b b.length).1,0,0)):=by
 have hbl:=both_len (a:=a) (b:=b);by_cases hla:(allR a).2.2=0
 ·by_cases hlb:(allR b).2.2=0
  ·have hlT:=(toks_both hla hlb hT).1;obtain⟨HB,HS⟩:=both_beg hla hlb hT;have hn:(((both a b).length:Nat):Int)=(b.length:Nat)+((a.length+1:Nat):Int):=by omega
   have hJ:=prog_J HB (n:=a.length) (n':=(both a b).length) (fuel8 (toksL a)) (fuel8 (toksL (both a b))) ⟨0,0,0⟩ ⟨[],[]⟩ (rem8_le _ _) (rem8_le _ _) rfl (Nat.zero_le _);have eT:progT (both a b) (both a b).length=if (endS (toksL (both a b)) (both a b).length (progS (toksL (both a b)) (both a b).length (fuel8 (toksL (both a b))) ⟨0,0,0⟩ ⟨[],[]⟩).1).bad=0 then ((progS (toksL (both a b)) (both a b).length (fuel8 (toksL (both a b))) ⟨0,0,0⟩ ⟨[],[]⟩).2,0,0)
     else (zProg,(endS (toksL (both a b)) (both a b).length (progS (toksL (both a b)) (both a b).length (fuel8 (toksL (both a b))) ⟨0,0,0⟩ ⟨[],[]⟩).1).pl,(endS (toksL (both a b)) (both a b).length (progS (toksL (both a b)) (both a b).length (fuel8 (toksL (both a b))) ⟨0,0,0⟩ ⟨[],[]⟩).1).bad):=by
    unfold progT;rw[if_neg (show ¬ (allR (both a b)).2.2≠0 from fun h=>h hlT)]
   have eA:progT a a.length=if (endS (toksL a) a.length (progS (toksL a) a.length (fuel8 (toksL a)) ⟨0,0,0⟩ ⟨[],[]⟩).1).bad=0 then ((progS (toksL a) a.length (fuel8 (toksL a)) ⟨0,0,0⟩ ⟨[],[]⟩).2,0,0)
     else (zProg,(endS (toksL a) a.length (progS (toksL a) a.length (fuel8 (toksL a)) ⟨0,0,0⟩ ⟨[],[]⟩).1).pl,(endS (toksL a) a.length (progS (toksL a) a.length (fuel8 (toksL a)) ⟨0,0,0⟩ ⟨[],[]⟩).1).bad):=by
    unfold progT;rw[if_neg (show ¬ (allR a).2.2≠0 from fun h=>h hla)]
   have eB:progT b b.length=if (endS (toksL b) b.length (progS (toksL b) b.length (fuel8 (toksL b)) ⟨0,0,0⟩ ⟨[],[]⟩).1).bad=0 then ((progS (toksL b) b.length (fuel8 (toksL b)) ⟨0,0,0⟩ ⟨[],[]⟩).2,0,0)
     else (zProg,(endS (toksL b) b.length (progS (toksL b) b.length (fuel8 (toksL b)) ⟨0,0,0⟩ ⟨[],[]⟩).1).pl,(endS (toksL b) b.length (progS (toksL b) b.length (fuel8 (toksL b)) ⟨0,0,0⟩ ⟨[],[]⟩).1).bad):=by
    unfold progT;rw[if_neg (show ¬ (allR b).2.2≠0 from fun h=>h hlb)]
   generalize progS (toksL a) a.length (fuel8 (toksL a)) ⟨0,0,0⟩ ⟨[],[]⟩=ra at hJ eA;rcases hJ with ⟨h1,h2⟩|⟨h1,h2,g,hg,hJ⟩
   ·have hend:endS (toksL a) a.length ra.1=ra.1:=by unfold endS;rw[if_neg (fun h=>h1 h.1)]
    rw[hend,if_neg h1] at eA;have hea:(progT a a.length).2.2≠0:=by rw[eA];exact h1
    refine⟨fun _=>?_,fun h=>absurd h hea,fun h=>absurd h hea⟩;rcases h2 with h2|h2
    ·refine .inl ?_;have hend2:endS (toksL (both a b)) (both a b).length (progS (toksL (both a b)) (both a b).length (fuel8 (toksL (both a b))) ⟨0,0,0⟩ ⟨[],[]⟩).1=(progS (toksL (both a b)) (both a b).length (fuel8 (toksL (both a b))) ⟨0,0,0⟩ ⟨[],[]⟩).1:=by unfold endS;rw[if_neg (fun h=>h2 h.1)]
     rw[eT,hend2,if_neg h2];exact h2
    ·refine .inr ?_;rw[eA];exact h2
   ·have hend:endS (toksL a) a.length ra.1=ra.1:=by unfold endS;rw[if_neg (fun h=>by omega)]
    rw[hend,if_pos h1] at eA;have hea:(progT a a.length).2.2=0:=by rw[eA]
    have hr1:ra.1=shS (toksL a).length ((a.length+1:Nat):Int) ra.1.pl ⟨0,0,0⟩:=by
     unfold shS;rw[if_pos rfl];obtain⟨⟨k,bd,p⟩,x⟩:=ra;simp only at h1 h2 ⊢;rw[h1,h2];rfl
    have hx1:ra.2=catP ra.2 ⟨[],[]⟩:=by unfold catP;simp
    have hQ:=prog_Q HS hn (P:=ra.1.pl) ra.2 (fuel8 (toksL b)) g ⟨0,0,0⟩ ⟨[],[]⟩ (Nat.zero_le _) (rem8_le _ _) (by
     rw[← rem_sh (P:=ra.1.pl) HS ⟨0,0,0⟩ (Nat.zero_le _),← hr1];exact hg)
    rw[← hr1,← hx1] at hQ;rw[hQ] at hJ;rw[hJ] at eT;simp only at eT;rw[end_Q HS hn] at eT;generalize progS (toksL b) b.length (fuel8 (toksL b)) ⟨0,0,0⟩ ⟨[],[]⟩=rb at eB eT;generalize endS (toksL b) b.length rb.1=sb at eB eT;refine⟨fun h=>absurd hea h,fun _ h=>?_,fun _ h=>?_⟩
    ·have hb:sb.bad≠0:=fun h0=>by rw[eB,if_pos h0] at h;exact h rfl
     have hs:shS (toksL a).length ((a.length+1:Nat):Int) ra.1.pl sb=⟨(toksL a).length+sb.k,sb.bad,sb.pl+((a.length+1:Nat):Int)⟩:=by unfold shS;rw[if_neg hb]
     rw[hs] at eT;rw[if_neg hb] at eB;rw[if_neg (show ¬ (S8.mk ((toksL a).length+sb.k) sb.bad (sb.pl+((a.length+1:Nat):Int))).bad=0 from hb)] at eT;rw[eT,eB];exact⟨rfl,Int.add_comm _ _⟩
    ·have hb:sb.bad=0:=by
      by_cases h0:sb.bad=0
      ·exact h0
      ·rw[eB,if_neg h0] at h;exact h
     rw[if_pos (show (shS (toksL a).length ((a.length+1:Nat):Int) ra.1.pl sb).bad=0 from hb)] at eT;rw[if_pos hb] at eB;rw[eT,eA,eB]
  ·have hw:=wrong_two hla hlb hT;have eB:progT b b.length=(zProg,(((allR b).2.1:Nat):Int),(((allR b).2.2:Nat):Int)):=by unfold progT;rw[if_pos hlb]
   have eT:progT (both a b) (both a b).length=(zProg,(((allR (both a b)).2.1:Nat):Int),(((allR (both a b)).2.2:Nat):Int)):=by unfold progT;rw[if_pos (by rw[hw.1];exact hlb)]
   rw[hw.1,hw.2] at eT;have hne:((((allR b).2.2:Nat)):Int)≠0:=by omega
   refine⟨fun _=>.inl (by rw[eT];exact hne),fun _ _=>?_,fun _ h=>?_⟩
   ·rw[eT,eB];exact⟨rfl,by show (((a.length+1+(allR b).2.1:Nat)):Int)=((a.length+1:Nat):Int)+(((allR b).2.1:Nat):Int);omega⟩
   ·rw[eB] at h;exact absurd h hne
 ·have hw:=all_wrong hla hT;have eA:progT a a.length=(zProg,(((allR a).2.1:Nat):Int),(((allR a).2.2:Nat):Int)):=by unfold progT;rw[if_pos hla]
  have eT:progT (both a b) (both a b).length=(zProg,(((allR (both a b)).2.1:Nat):Int),(((allR (both a b)).2.2:Nat):Int)):=by unfold progT;rw[if_pos hw]
  have hne:((((allR a).2.2:Nat)):Int)≠0:=by omega
  have hea:(progT a a.length).2.2≠0:=by rw[eA];exact hne
  refine⟨fun _=>.inl ?_,fun h=>absurd h hea,fun h=>absurd h hea⟩;rw[eT];show ((((allR (both a b)).2.2:Nat)):Int)≠0;omega
section
variable {α:Type} {E:Shp α} {T:TypeId} {sz:Nat}
theorem Elems.app {w:World}:∀ {xs:List α} {F:List Nat} {c:List Value},Elems E w F c xs→∀ {ys:List α} {G:List Nat} {d:List Value},Elems E w G d ys→Elems E w (F++G) (c++d) (xs++ys)
 | [],_,_,⟨hF,hc⟩,ys,G,d,h2=>by subst hF hc;exact h2
 | x :: xs,_,_,⟨F1,F2,c1,c2,hF,hc,hx,hr⟩,ys,G,d,h2=>by
  subst hF hc;exact⟨F1,F2++G,c1,c2++d,List.append_assoc ..,List.append_assoc ..,hx,hr.app h2⟩
def WList (E:Shp α) (T:TypeId) (sz lo base:Nat) (w:World) (v:Value) (xs:List α):Prop:=∃ F d,w.ownsRow base T sz v xs.length d∧Elems E w F d xs∧∀ b ∈ F,b<lo
theorem WList.nil (lo base:Nat) (w:World):WList E T sz lo base w (.slice none 0 0) []:=⟨[],[],World.ownsRow_nil _ _ _ _,⟨rfl,rfl⟩,fun _ h=>by cases h⟩
theorem own_wide {w:World} {base base' n:Nat} {v:Value} {d:List Value} (h:w.ownsRow base T sz v n d) (hb:base'≤base):w.ownsRow base' T sz v n d:=by
 refine⟨h.1,?_⟩;rcases h.2 with h2|⟨g,cap,cur,h1,h2,h3⟩
 ·exact .inl h2
 ·exact .inr ⟨g,cap,cur,h1,by omega,h3⟩
theorem WList.form {lo base:Nat} {w:World} {v:Value} {xs:List α} (h:WList E T sz lo base w v xs):∃ a c,v=.slice a xs.length c:=by
 obtain⟨F,d,h1,_⟩:=h;rcases h1.2 with ⟨h,h0⟩|⟨g,cap,cur,h,_⟩
 ·exact⟨none,0,by rw[h,h0]⟩
 ·exact⟨_,_,h⟩
theorem WList.held {lo base:Nat} {w:World} {v:Value} {xs:List α} (h:WList E T sz lo base w v xs) (hb:lo≤w.heap.size):HeldL E T sz w v xs:=by
 obtain⟨F,d,h1,h2,h3⟩:=h;refine⟨v.ownBlock.toList++F,d,⟨own_wide h1 (Nat.zero_le _),F,rfl,h2⟩,fun b hb1=>?_⟩;rcases List.mem_append.1 hb1 with hm|hm
 ·exact(h1.lt b (by simpa using hm)).2
 ·have:=h3 b hm;omega
theorem WList.same (ke:KE E sz) {lo base:Nat} {w w':World} {v:Value} {xs:List α} (h:WList E T sz lo base w v xs) (hs:∀ b,b<lo→w'.heap[b]?=w.heap[b]?) (ho:∀ g,v.ownBlock=some g→w'.heap[g]?=w.heap[g]?):WList E T sz lo base w' v xs:=by
 obtain⟨F,d,h1,h2,h3⟩:=h;refine⟨F,d,?_,h2.keep ke (fun b hb=>hs b (h3 b hb)),h3⟩;refine⟨h1.1,?_⟩;rcases h1.2 with hn|⟨g,cap,cur,hv,hbs,hgg,rest⟩
 ·exact .inl hn
 ·exact .inr ⟨g,cap,cur,hv,hbs,by rw[ho g (by rw[hv];rfl)];exact hgg,rest⟩
theorem WList.set (ke:KE E sz) {lo base p k:Nat} {w:World} {v u:Value} {xs:List α} (h:WList E T sz lo base w v xs) (h1:lo≤p) (h2:p<base):WList E T sz lo base (w.setCell ⟨p,k,none⟩ u) v xs:=by
 have ho:∀ g,v.ownBlock=some g→base≤g:=by
  obtain⟨F,d,hr,_⟩:=h;exact fun g hg=>(hr.lt g hg).1
 exact h.same ke (fun b hb=>heap_setCell_other w _ b _ (by show b≠p;omega)) (fun g hg=>heap_setCell_other w _ g _ (by have:=ho g hg;show g≠p;omega))
theorem WList.below (ke:KE E sz) {lo base B:Nat} {w w':World} {v:Value} {xs:List α} (h:WList E T sz lo base w v xs) (hu:∀ g,v.ownBlock=some g→g<B) (hb:Below B w w') (hB:lo≤B):WList E T sz lo base w' v xs:=h.same ke (fun b hb1=>hb.block b (by omega)) (fun g hg=>hb.block g (hu g hg))
theorem WList.own_lt {lo base:Nat} {w:World} {v:Value} {xs:List α} (h:WList E T sz lo base w v xs):∀ g,v.ownBlock=some g→g<w.heap.size:=by
 obtain⟨F,d,hr,_⟩:=h;exact fun g hg=>(hr.lt g hg).2
theorem wpList_append_held (ke:KE E sz) {w w0:World} {ops:Array Oper} {rest:List Oper} {o:Oper} {a:Act} {Q:Exit→Act→World→Prop} (hgd:o.guard=none) (s x:Operand) (t:TypeId)
  (ho:o.op=.call { callee:=.builtin .append,args:=#[s,x],argTypes:=#[t,t] }) (lo base:Nat) (hlo:lo≤base) (i:TypeInfo) (z:Value) (bytes:Nat) (ht:Tryz.prog.underlying t=some (.slice T)) (hi:Tryz.prog.info? T=some i) (hz:i.zero=some z)
  (hsize:i.size=sz) (hby:i.bytes=bytes) (hzs:z.cells.size=sz) (hsz:0<sz) (v:Value) (xs:List α) (hs:a.eval s=v) (hW:WList E T sz lo base w v xs) (ad:Option Addr) (n c:Nat) (ys:List α) (hx:a.eval x=.slice ad n c) (hH:HeldL E T sz w0 (.slice ad n c) ys)
  (hw0:w0.heap.size≤lo) (hb0:Below lo w0 w) (hlen:xs.length+ys.length≤1000000) (hbb:bytes≤1000000) (hbase:base≤w.heap.size)
  (h:∀ v' w',WList E T sz lo base w' v' (xs++ys)→Below base w w'→wpList Tryz.prog ops Q rest (a.put o.dst v') w'):wpList Tryz.prog ops Q (o :: rest) a w:=by
 obtain⟨F,d,hrow,hel,hF⟩:=hW;obtain⟨G,e,hL,hG⟩:=hH;have hL':=hL.keep ke (fun b hb=>hb0.block b (by have:=hG b hb;omega));obtain⟨G2,hG2,hel2⟩:=hL'.els;have hGb:∀ b ∈ G2,b<lo:=fun b hb=>by have:=hG b (by rw[hG2];exact List.mem_append_right _ hb);omega
 rcases hL'.row.2 with ⟨hn,h0⟩|⟨g,cap,cur,hv,_⟩
 ·cases hn;obtain rfl:ys=[]:=List.eq_nil_of_length_eq_zero h0;refine wpList_append_own_none hgd s x t ho base T i sz ht hi v xs.length d hs hrow hx ?_;exact h v w (by rw[List.append_nil];exact⟨F,d,hrow,hel,hF⟩) (Below.refl _ w)
 ·cases hv;have hmul:(xs.length+ys.length) * bytes≤1000000 * 1000000:=Nat.mul_le_mul hlen hbb;refine wpList_append_own w hgd s x t ho base T i z sz bytes ht hi hz hsize hby hzs hsz v xs.length d hs hrow ⟨g,0,none⟩ ys.length c e hx (hel2.len ke) (fun j u hj=>?_) (hel2.one ke) (by unfold maxLen;omega) (by omega) hbase ?_
  ·have hadd:(⟨g,0,none⟩:Addr).add j=⟨g,j,none⟩:=by unfold Addr.add;split <;> simp_all
   have hlt:=(List.getElem?_eq_some_iff.1 hj).1;rw[hadd,hL'.row.cellAt j (by rw[← hel2.len ke];exact hlt)];exact hj
  ·intro v' w' hown hgrow _;have hb:Below base w w':=(Below.refl _ w).grown hgrow hbase (fun b hb=>(hrow.lt b hb).1);refine h v' w' ⟨F++G2,d++e,by rw[List.length_append];exact hown,(hel.app hel2).keep ke (fun b hb1=>hb.block b ?_),fun b hb1=>?_⟩ hb
   ·rcases List.mem_append.1 hb1 with hm|hm
    ·have:=hF b hm;omega
    ·have:=hGb b hm;omega
   ·rcases List.mem_append.1 hb1 with hm|hm
    ·exact hF b hm
    ·exact hGb b hm
end
theorem prog_few (L:List TokE) (n:Nat):∀ (f:Nat) (s:S8) (p:ProgE),s.k≤L.length→(progS L n f s p).2.tags.length+(progS L n f s p).2.kinds.length≤p.tags.length+p.kinds.length+rem8 L s
 | 0,s,p,_=>by show p.tags.length+p.kinds.length≤_;omega
 | f+1,s,p,hk=>by
  rw[progS];split
  ·rename_i hb;split
   ·rename_i hc;have h1:=((is_lt hc).trans (tag_le (n:=n))) hk;have:=prog_few L n f (tagS L n (nextS s)).1 ⟨p.tags++[(tagS L n (nextS s)).2],p.kinds⟩ h1.1;simp only[List.length_append,List.length_cons,List.length_nil] at this;omega
   ·have h1:=(kindD_lt (n:=n) hb.1) hk;have:=prog_few L n f (kindDS L n s).1 ⟨p.tags,p.kinds++[(kindDS L n s).2]⟩ h1.1;simp only[List.length_append,List.length_cons,List.length_nil] at this;omega
  ·show p.tags.length+p.kinds.length≤_;omega
theorem progT_few (l:List UInt8) (n:Nat):(progT l n).1.tags.length≤32770∧(progT l n).1.kinds.length≤32770:=by
 have hf:=toksL_few l;have h:=prog_few (toksL l) n (fuel8 (toksL l)) ⟨0,0,0⟩ ⟨[],[]⟩ (Nat.zero_le _);have hr:=rem8_le (toksL l) ⟨0,0,0⟩;have hfu:fuel8 (toksL l)=(toksL l).length+2:=rfl;simp only[List.length_nil] at h;unfold progT;split
 ·exact⟨Nat.zero_le _,Nat.zero_le _⟩
 ·split
  ·exact⟨by show (progS (toksL l) n (fuel8 (toksL l)) ⟨0,0,0⟩ ⟨[],[]⟩).2.tags.length≤_;omega,by show (progS (toksL l) n (fuel8 (toksL l)) ⟨0,0,0⟩ ⟨[],[]⟩).2.kinds.length≤_;omega⟩
  ·exact⟨Nat.zero_le _,Nat.zero_le _⟩
open Go.Shelf
open Lib(hid)
set_option maxRecDepth 100000
set_option maxHeartbeats 8000000
theorem txt_own2 {w:World} {base n c:Nat} {a:Option Addr} {l:List UInt8} (h:w.ownsRow base 5 1 (.slice a (0+n) c) (0+n) (u8s ([]++l))):Txt w a n c l:=by
 rw[Nat.zero_add] at h;exact txt_of_owned h
theorem own_zero2 {w:World} {base n c:Nat} {a:Option Addr} {l:List UInt8} (h:w.ownsRow base 5 1 (.slice a (0+n) c) (0+n) (u8s ([]++l))):w.ownsRow base 5 1 (.slice a n c) n (u8s l):=by
 rw[Nat.zero_add] at h;exact h
abbrev PP (w:World) (l:List UInt8) (n:Nat) (X:ProgE) (pl fl:Int):Prop:=∀ (g:Option Addr) (c:Nat) (W:World),Txt W g n c l→Below w.heap.size w W→Calls Tryz.prog 10 #[.slice g n c] W fun e w'=>∃ ta na ca tb nb cb,e=.returned (.tuple #[.agg #[.slice ta na ca,.slice tb nb cb],.int .i64 pl,.int .i64 fl])∧Itm progE W.heap.size w' [.slice ta na ca,.slice tb nb cb] X∧Below W.heap.size W w'
theorem pp_of {w:World} (hG:Glob w) (hTab:Tab w) (hgs:0<w.heap.size) {l:List UInt8} {n:Nat} {X:ProgE} {pl fl:Int} (h:progT l n=(X,pl,fl)):PP w l n X pl fl:=by
 intro g c W hT hb;have k:=parseP_any g n c l W hT (hG.below hb (Nat.le_refl _)) (hTab.of_block (hb.block _ hgs)) (Nat.lt_of_lt_of_le hgs hb.size);unfold ParsePP at k;rw[h] at k;refine k.mono ?_;rintro e w' ⟨tv,kv,rfl,hit,hb⟩;obtain⟨⟨ta,na,ca,rfl⟩,⟨tb,nb,cb,rfl⟩⟩:=prog_form hit;exact⟨_,_,_,_,_,_,rfl,hit,hb⟩
structure PBox (w:World) (b:Nat) (ta:Option Addr) (na ca:Nat) (tb:Option Addr) (nb cb:Nat) (X:ProgE):Prop where
 bx:Bx w b 26 [.slice ta na ca,.slice tb nb cb]
 held:Held progE w [.slice ta na ca,.slice tb nb cb] X
theorem PBox.keep {w w':World} {b:Nat} {ta:Option Addr} {na ca:Nat} {tb:Option Addr} {nb cb:Nat} {X:ProgE} {B:Nat} (h:PBox w b ta na ca tb nb cb X) (hb:Below B w w') (hB:w.heap.size≤B):PBox w' b ta na ca tb nb cb X :=
 ⟨h.bx.keep hb (Nat.lt_of_lt_of_le h.bx.lt hB),Held.keep progK h.held hb hB⟩
theorem PBox.new {w w':World} {lo:Nat} {ta:Option Addr} {na ca:Nat} {tb:Option Addr} {nb cb:Nat} {X:ProgE} (h:Itm progE lo w [.slice ta na ca,.slice tb nb cb] X) (hw:w'=w.alloc (.cells #[.slice ta na ca,.slice tb nb cb] 26)):PBox w' w.heap.size ta na ca tb nb cb X∧Below w.heap.size w w':=by
 have hb:Below w.heap.size w w':=by rw[hw];exact(Below.refl _ w).alloc (Nat.le_refl _) _
 exact⟨⟨by rw[hw];exact Bx.new w _ _,Held.keep progK (held_of h) hb (Nat.le_refl _)⟩,hb⟩
theorem decljoins_walk (a1:Option Addr) (n1 c1:Nat) (l1:List UInt8) (a2:Option Addr) (n2 c2:Nat) (l2:List UInt8) (w:World) (hG:Glob w) (hTab:Tab w) (hgs:0<w.heap.size) (ht1:Txt w a1 n1 c1 l1) (hr1:n1≤1099511627776) (ht2:Txt w a2 n2 c2 l2) (hr2:n2≤1099511627776) :
  Calls Tryz.prog 5 #[.slice a1 n1 c1,.slice a2 n2 c2] w (WTrue w):=by
 have HA:=hid (awake8_any w hG hTab hgs);have HT1:=hid ht1;have HT2:=hid ht2;have HGT:=hid (And.intro hG hTab);obtain⟨⟨XA,pa,fa⟩,hA⟩:∃ q,q=progT l1 n1:=⟨_,rfl⟩
 obtain⟨⟨XB,pb,fb⟩,hB⟩:∃ q,q=progT l2 n2:=⟨_,rfl⟩
 have HPA:=hid (pp_of hG hTab hgs hA.symm);have HPB:=hid (pp_of hG hTab hgs hB.symm);have hla:l1.length=n1:=ht1.1;have hlb:l2.length=n2:=ht2.1;have hia:=place_in l1;rw[hla,← hA] at hia;have hib:=place_in l2;rw[hlb,← hB] at hib;simp only at hia hib;have HQA:=hid hA;have HQB:=hid hB;have hza:fa≠0→XA.tags.length=0∧XA.kinds.length=0:=fun h=>by
  unfold progT at hA;split at hA
  ·cases hA;exact⟨rfl,rfl⟩
  ·split at hA
   ·cases hA;exact absurd rfl h
   ·cases hA;exact⟨rfl,rfl⟩
 have HZA:=hid hza;have HL:=hid (And.intro hla hlb);clear ht1 ht2 hG hTab hA hB hla hlb hza;unfold WTrue at HA ⊢;go_enter Tryz.func5,Tryz.ntmps5;go_upto_region 3 with (go_at_call 20;(with_reducible refine HA.out.mono ?_);rintro e w1 ⟨rfl,hb⟩;have HB1:=hid hb;clear hb);go_upto_region 4 with (first
  | (at_builtin;refine wpList_append_txt rfl (.tmp 22) (.tmp 23) rfl w1.heap.size _ 0 [] rfl (own_empty w1) a1 n1 c1 l1 rfl ((HT1.out.below HB1.out (Nat.le_refl _)).below ((Below.refl _ w1).alloc (Nat.le_refl _) _) (Nat.le_refl _)) (by omega) (by simp) ?_;intro g2 c3 w2 hown hb;have HT3:=hid (txt_own2 hown);have HB2:=hid (HB1.out.trans ((((Below.refl _ w1).alloc (Nat.le_refl _) _).trans hb).mono HB1.out.size));clear hown hb)
  | (go_at_call 10;(with_reducible refine(HPA.out g2 c3 w2 HT3.out HB2.out).mono ?_);rintro e w3 ⟨u1,m1,k1,v1,q1,j1,rfl,hit,hb⟩;have HI3:=hid hit;have HB3:=hid (HB2.out.trans (hb.mono HB2.out.size));clear hb hit))
 obtain⟨W3,hW3⟩:∃ W3,W3=w3.alloc (.cells #[.slice u1 m1 k1,.slice v1 q1 j1] 26):=⟨_,rfl⟩
 obtain⟨hx3,hb3⟩:=PBox.new HI3.out hW3;have HX3:=hid hx3;have HB4:=hid (HB3.out.trans (hb3.mono HB3.out.size));rw[← hW3];generalize w3.heap.size=E1 at HX3 ⊢;clear hW3 hx3 hb3 HI3 HB3 HT3 HB2 HA;go_upto_region 5 with (first
  | (at_builtin;refine wpList_append_txt rfl (.tmp 30) (.tmp 31) rfl W3.heap.size _ 0 [] rfl (own_empty W3) a2 n2 c2 l2 rfl ((HT2.out.below HB4.out (Nat.le_refl _)).below ((Below.refl _ W3).alloc (Nat.le_refl _) _) (Nat.le_refl _)) (by omega) (by simp) ?_;intro g4 c4 w4 hown hb;have HT4:=hid (txt_own2 hown);have HBX:=hid (((Below.refl _ W3).alloc (Nat.le_refl _) _).trans hb);have HB5:=hid (HB4.out.trans (HBX.out.mono HB4.out.size));clear hown hb)
  | (go_at_call 10;(with_reducible refine(HPB.out g4 c4 w4 HT4.out HB5.out).mono ?_);rintro e w5 ⟨u2,m2,k2,v2,q2,j2,rfl,hit,hb⟩;have HI5:=hid hit;have HBY:=hid (HBX.out.trans (hb.mono HBX.out.size));clear hb hit))
 obtain⟨W5,hW5⟩:∃ W5,W5=w5.alloc (.cells #[.slice u2 m2 k2,.slice v2 q2 j2] 26):=⟨_,rfl⟩
 obtain⟨hx5,hb5⟩:=PBox.new HI5.out hW5;have HY5:=hid hx5;have HBZ:=hid (HBY.out.trans (hb5.mono HBY.out.size));have HX5:=hid (HX3.out.keep HBZ.out (Nat.le_refl _));have HB6:=hid (HB4.out.trans (HBZ.out.mono HB4.out.size));have hE12:E1<w5.heap.size:=by have:=HX3.out.bx.lt;have:=HBY.out.size;omega
 have HE12:=hid hE12;rw[← hW5];generalize w5.heap.size=E2 at HY5 HE12 ⊢;clear hW5 hx5 hb5 HI5 HBY HT4 HB5 HBX HX3 HBZ HB4 hE12;have d1:decide (pa<0)=false:=decide_eq_false (by have:=hia.1;omega);have d2:decide ((n1:Int)<pa)=false:=decide_eq_false (by have:=hia.2;omega);have d3:decide (pb<0)=false:=decide_eq_false (by have:=hib.1;omega);have d4:decide ((n2:Int)<pb)=false:=decide_eq_false (by have:=hib.2;omega);obtain⟨x1,y1,x2,y2,hc,hta,hka⟩:=held_prog HX5.out.held;cases hc;clear hta hka;have x0:=HX5.out.bx.c 0 rfl;have x1c:=HX5.out.bx.c 1 rfl;obtain⟨N,hN⟩:∃ N,N=n1+1+n2:=⟨_,rfl⟩
 have hNl:(both l1 l2).length=N:=by rw[both_len,HL.out.1,HL.out.2,hN]
 obtain⟨⟨XT,pt,ft⟩,hT⟩:∃ q,q=progT (both l1 l2) N:=⟨_,rfl⟩
 have HPT:=hid (pp_of HGT.out.1 HGT.out.2 hgs hT.symm);have hJ:N≤32768→(fa≠0→ft≠0∨pa=(n1:Nat))∧(fa=0→fb≠0→ft=fb∧pt=((n1+1:Nat):Int)+pb)∧(fa=0→fb=0→XT=catP XA XB∧pt=0∧ft=0):=fun h=>by
  have k:=join_said (a:=l1) (b:=l2) (by omega);rw[HL.out.1,HL.out.2,hNl,← HQA.out,← HQB.out,← hT] at k;refine⟨k.1,k.2.1,fun h1 h2=>?_⟩;have:=k.2.2 h1 h2;cases this;exact⟨rfl,rfl,rfl⟩
 have hbigT:32768<N→pt=0∧ft=3:=fun h=>by
  unfold progT at hT;have e:allR (both l1 l2)=([],0,3):=by unfold allR;rw[if_pos (by omega)]
  rw[e] at hT;simp at hT;exact⟨hT.2.1,hT.2.2⟩
 have HJ:=hid hJ;have HBT:=hid hbigT;have hXA:=progT_few l1 n1;have hXB:=progT_few l2 n2;rw[← HQA.out] at hXA;rw[← HQB.out] at hXB;simp only at hXA hXB;have HFEW:=hid (And.intro hXA hXB);have hok:=progT_ok (both l1 l2) N;rw[← hT] at hok;have HOK:Hid (okP XT):=hid hok;have HN:=hid hN;clear hJ hbigT hXA hXB hok hT hNl hN;by_cases hfa:fa=0
 ·subst hfa;go_upto_region 8 with (at_builtin;refine wpList_append_txt rfl (.tmp 71) (.tmp 72) rfl W5.heap.size _ 0 [] rfl (own_empty W5) a1 n1 c1 l1 rfl ((HT1.out.below HB6.out (Nat.le_refl _)).below ((Below.refl _ W5).alloc (Nat.le_refl _) _) (Nat.le_refl _)) (by omega) (by simp) ?_;intro g6 c6 w6 hown hb;have HO6:=hid (own_zero2 hown);have HB7:=hid (((Below.refl _ W5).alloc (Nat.le_refl _) _).trans hb);clear hown hb);have hs6:=HB7.out.size;go_upto_region 9 with (at_builtin;refine wpList_append_txt rfl (.tmp 74) (.tmp 75) rfl W5.heap.size _ n1 l1 rfl (HO6.out.alloc _) (some ⟨w6.heap.size,0,none⟩) 1 1 [10] rfl (txt_marked8 w6 [10] 5 (0,0) (by decide)) (by omega) (by simp;omega) ?_;intro g7 c7 w7 hown hb;have HO7:=hid hown;have HB8:=hid ((HB7.out.alloc hs6 _).trans hb);clear hown hb);have hs7:=HB8.out.size;go_upto_region 10 with (at_builtin;refine wpList_append_txt rfl (.tmp 77) (.tmp 78) rfl W5.heap.size _ (n1+1) (l1++[10]) rfl HO7.out a2 n2 c2 l2 rfl ((HT2.out.below HB6.out (Nat.le_refl _)).below HB8.out (Nat.le_refl _)) (by omega) hs7 ?_;intro g8 c8 w8 hown hb;have HO8:Hid (w8.ownsRow W5.heap.size 5 1 (.slice g8 (n1+1+n2) c8) (n1+1+n2) (u8s (both l1 l2))):=hid (by unfold both;rw[List.append_assoc] at hown;exact hown);have HB9:=hid (HB8.out.trans hb);clear hown hb);rw[← HN.out] at HO8 ⊢;have HT8:=hid (txt_of_owned HO8.out);have HB10:=hid (HB6.out.trans (HB9.out.mono HB6.out.size));clear HO6 HB7 hs6 HO7 HB8 hs7 HO8;by_cases hbig:32768<N
  ·have hb0:=HBT.out hbig;obtain⟨rfl,rfl⟩:=hb0;have db:decide ((32768:Int)<(N:Int))=true:=decide_eq_true (by omega);have dbn:decide (32768<N)=true:=decide_eq_true hbig;go_wp2_with (go_at_call 10;(with_reducible refine(HPT.out g8 c8 w8 HT8.out HB10.out).mono ?_);rintro e w9 ⟨u3,m3,k3,v3,q3,j3,rfl,hit,hb⟩;have HB11:=hid (HB10.out.trans (hb.mono HB10.out.size));clear hb hit);go_ret;exact⟨rfl,HB11.out.alloc HB11.out.size _⟩
  ·have db:decide ((32768:Int)<(N:Int))=false:=decide_eq_false (by omega);have dbn:decide (32768<N)=false:=decide_eq_false hbig;have hj:=HJ.out (by omega);by_cases hfb:fb=0
   ·subst hfb;obtain⟨rfl,rfl,rfl⟩:=hj.2.2 rfl rfl;go_upto_region 14 with (go_at_call 10;(with_reducible refine(HPT.out g8 c8 w8 HT8.out HB10.out).mono ?_);rintro e w9 ⟨u3,m3,k3,v3,q3,j3,rfl,hit,hb⟩;have HI9:=hid hit;have HBP:=hid hb;clear hb hit);obtain⟨W9,hW9⟩:∃ W9,W9=w9.alloc (.cells #[.slice u3 m3 k3,.slice v3 q3 j3] 26):=⟨_,rfl⟩
    obtain⟨hx9,hb9⟩:=PBox.new HI9.out hW9;have HZ9:=hid hx9;have HBQ:=hid (HBP.out.trans (hb9.mono HBP.out.size));have HB11:=hid (HB10.out.trans (HBQ.out.mono HB10.out.size));rw[← hW9];have HW9:=hid hW9;clear hW9 hx9 hb9;have HB69:=hid (HB9.out.trans (HBQ.out.mono HB9.out.size));have HX9:=hid (HX5.out.keep HB69.out (Nat.le_refl _));have HY9:=hid (HY5.out.keep HB69.out (Nat.le_refl _));clear x0 x1c HX5 HY5 HBP HBQ HI9 HB10 HT8 HB9;obtain⟨b1,p1,b2,p2,hc,hta,hka⟩:=held_prog HX9.out.held;cases hc;obtain⟨b3,p3,b4,p4,hc,htb,hkb⟩:=held_prog HY9.out.held;cases hc;have HTA:=hid hta;have HKA:=hid hka;have HTB:=hid htb;have HKB:=hid hkb;clear hta hka htb hkb;obtain⟨i0,i0i,i00,i01,i02⟩:=info_parts3 infoTg8;obtain⟨j0,j0i,j00,j01,j02⟩:=info_parts3 infoKd8;have HI0:=hid i0i;have HJ0:=hid j0i;have HI1:=hid (And.intro i00 (And.intro i01 i02));have HJ1:=hid (And.intro j00 (And.intro j01 j02));clear i0i i00 i01 i02 j0i j00 j01 j02;obtain⟨W10,hW10⟩:∃ W10,W10=W9.alloc (.cells #[.slice none 0 0,.slice none 0 0] 26):=⟨_,rfl⟩
    have HP10:=hid (show Bx W10 W9.heap.size 26 [.slice none 0 0,.slice none 0 0] by rw[hW10];exact Bx.new W9 _ _);have HB910:=hid (show Below W9.heap.size W9 W10 by rw[hW10];exact(Below.refl _ W9).alloc (Nat.le_refl _) _);have HZ10:=hid (show W10.heap.size=W9.heap.size+1 by rw[hW10];simp);have hEl1:=HX9.out.bx.lt;have hEl2:=HY9.out.bx.lt;have hEl3:=HZ9.out.bx.lt;have HXB:=hid (fun V (hV:Below W9.heap.size W9 V)=>HX9.out.bx.keep hV hEl1);have HYB:=hid (fun V (hV:Below W9.heap.size W9 V)=>HY9.out.bx.keep hV hEl2);have HZB:=hid (fun V (hV:Below W9.heap.size W9 V)=>HZ9.out.keep hV (Nat.le_refl _));have HW10:=hid hW10;clear hW10;go_upto_region 19 with (fail);rw[← HW10.out];clear HW10;have HLO:=hid (show W9.heap.size≤W10.heap.size by rw[HZ10.out];omega);obtain⟨P,hP⟩:∃ P,P=W9.heap.size:=⟨_,rfl⟩
    rw[← hP] at HP10 HB910 HZ10 hEl1 hEl2 hEl3 HXB HYB HZB HLO ⊢;have HPP:=hid hP;have hlt1:E1≠P:=by omega
    have hlt2:E2≠P:=by omega
    have HBP:=hid (Nat.le_of_eq hP.symm);clear hP;have c0:=HP10.out.c 0 rfl;have a0:=(HXB.out W10 HB910.out).c 0 rfl;go_upto_region 20 with (at_builtin;refine wpList_append_held tagK rfl (.tmp 127) (.tmp 129) _ rfl P W10.heap.size HLO.out i0 _ 40 Tryz.underlying23 HI0.out HI1.out.1 HI1.out.2.1 HI1.out.2.2 rfl (by decide) _ [] rfl (WList.nil _ _ _) _ _ _ XA.tags rfl HTA.out HBP.out HB910.out (by have:=HFEW.out;simp;omega) (by decide) (Nat.le_refl _) ?_;intro vt w11 hwl hbl;rw[List.nil_append] at hwl;obtain⟨ta,tc,rfl⟩:=hwl.form;have HT11:=hid hwl;have HB11b:=hid hbl;have HP11:=hid (HP10.out.keep hbl (by have:=HZ10.out;omega));have f0:=HP11.out.fz 0;have c0b:=HP11.out.c 0 rfl;clear hwl hbl c0 a0);obtain⟨W11,hW11⟩:∃ W11,W11=w11.setCell ⟨P,0,none⟩ (.slice ta XA.tags.length tc):=⟨_,rfl⟩
    rw[← hW11];have HP12:=hid (show Bx W11 P 26 [.slice ta XA.tags.length tc,.slice none 0 0] by rw[hW11];exact HP11.out.set 0 _);have HT12:=hid (show WList tagE 70 2 P W10.heap.size W11 (.slice ta XA.tags.length tc) XA.tags by rw[hW11];exact HT11.out.set tagK (Nat.le_refl _) (by have:=HZ10.out;omega));have HB12:=hid (show Below P W9 W11 by rw[hW11];exact((HB910.out.trans (HB11b.out.mono HLO.out))).setCell (Nat.le_refl _) _);have HS12:=hid (show W10.heap.size≤W11.heap.size by rw[hW11,World.size_setCell];exact HB11b.out.size);clear hW11 HT11 HB11b HP11 f0 c0b HP10 HB910;have c0:=HP12.out.c 0 rfl;have a0:=(HYB.out W11 HB12.out).c 0 rfl;go_upto_region 21 with (at_builtin;refine wpList_append_held tagK rfl (.tmp 133) (.tmp 135) _ rfl P W10.heap.size HLO.out i0 _ 40 Tryz.underlying23 HI0.out HI1.out.1 HI1.out.2.1 HI1.out.2.2 rfl (by decide) _ XA.tags rfl HT12.out _ _ _ XB.tags rfl HTB.out HBP.out HB12.out (by have:=HFEW.out;omega) (by decide) HS12.out ?_;intro vt w13 hwl hbl;have hf:=hwl.form;rw[List.length_append] at hf;obtain⟨ta2,tc2,rfl⟩:=hf;have HT13:=hid hwl;have HB13:=hid hbl;have HP13:=hid (HP12.out.keep hbl (by have:=HZ10.out;omega));have f0:=HP13.out.fz 0;have c0b:=HP13.out.c 0 rfl;clear hwl hbl c0 a0);obtain⟨W13,hW13⟩:∃ W13,W13=w13.setCell ⟨P,0,none⟩ (.slice ta2 (XA.tags.length+XB.tags.length) tc2):=⟨_,rfl⟩
    rw[← hW13];have HP14:=hid (show Bx W13 P 26 [.slice ta2 (XA.tags.length+XB.tags.length) tc2,.slice none 0 0] by rw[hW13];exact HP13.out.set 0 _);have HT14:=hid (show WList tagE 70 2 P W10.heap.size W13 (.slice ta2 (XA.tags.length+XB.tags.length) tc2) (XA.tags++XB.tags) by rw[hW13];exact HT13.out.set tagK (Nat.le_refl _) (by have:=HZ10.out;omega));have HB14:=hid (show Below P W9 W13 by rw[hW13];exact((HB12.out.trans (HB13.out.mono HLO.out))).setCell (Nat.le_refl _) _);have HU14:=hid HT14.out.own_lt;have HP13s:=hid (show P<W13.heap.size by have:=HP14.out.lt;exact this);clear hW13 HT13 HB13 HP13 f0 c0b HP12 HT12 HB12 HS12;have c0:=HP14.out.c 1 rfl;have a0:=(HXB.out W13 HB14.out).c 1 rfl;go_upto_region 22 with (at_builtin;refine wpList_append_held kindK rfl (.tmp 139) (.tmp 141) _ rfl P W13.heap.size (Nat.le_of_lt HP13s.out) j0 _ 40 Tryz.underlying24 HJ0.out HJ1.out.1 HJ1.out.2.1 HJ1.out.2.2 rfl (by decide) _ [] rfl (WList.nil _ _ _) _ _ _ XA.kinds rfl HKA.out HBP.out HB14.out (by have:=HFEW.out;simp;omega) (by decide) (Nat.le_refl _) ?_;intro vt w15 hwl hbl;rw[List.nil_append] at hwl;obtain⟨ka,kc,rfl⟩:=hwl.form;have HK15:=hid hwl;have HB15:=hid hbl;have HP15:=hid (HP14.out.keep hbl HP13s.out);have HT15:=hid (HT14.out.below tagK HU14.out hbl (Nat.le_of_lt HP13s.out));have f0:=HP15.out.fz 1;have c0b:=HP15.out.c 1 rfl;clear hwl hbl c0 a0);obtain⟨W15,hW15⟩:∃ W15,W15=w15.setCell ⟨P,1,none⟩ (.slice ka XA.kinds.length kc):=⟨_,rfl⟩
    rw[← hW15];have HP16:=hid (show Bx W15 P 26 [.slice ta2 (XA.tags.length+XB.tags.length) tc2,.slice ka XA.kinds.length kc] by rw[hW15];exact HP15.out.set 1 _);have HT16:=hid (show WList tagE 70 2 P W10.heap.size W15 (.slice ta2 (XA.tags.length+XB.tags.length) tc2) (XA.tags++XB.tags) by rw[hW15];exact HT15.out.set tagK (Nat.le_refl _) (by have:=HZ10.out;omega));have HK16:=hid (show WList kindE 76 2 P W13.heap.size W15 (.slice ka XA.kinds.length kc) XA.kinds by rw[hW15];exact HK15.out.set kindK (Nat.le_refl _) HP13s.out);have HB16:=hid (show Below P W9 W15 by rw[hW15];exact((HB14.out.trans (HB15.out.mono (Nat.le_of_lt HP13s.out)))).setCell (Nat.le_refl _) _);have HS16:=hid (show W13.heap.size≤W15.heap.size by rw[hW15,World.size_setCell];exact HB15.out.size);clear hW15 HT15 HB15 HP15 HK15 f0 c0b HP14 HT14 HB14;have c0:=HP16.out.c 1 rfl;have a0:=(HYB.out W15 HB16.out).c 1 rfl;go_upto_region 23 with (at_builtin;refine wpList_append_held kindK rfl (.tmp 145) (.tmp 147) _ rfl P W13.heap.size (Nat.le_of_lt HP13s.out) j0 _ 40 Tryz.underlying24 HJ0.out HJ1.out.1 HJ1.out.2.1 HJ1.out.2.2 rfl (by decide) _ XA.kinds rfl HK16.out _ _ _ XB.kinds rfl HKB.out HBP.out HB16.out (by have:=HFEW.out;omega) (by decide) HS16.out ?_;intro vt w17 hwl hbl;have hf:=hwl.form;rw[List.length_append] at hf;obtain⟨ka2,kc2,rfl⟩:=hf;have HK17:=hid hwl;have HB17:=hid hbl;have HP17:=hid (HP16.out.keep hbl HP13s.out);have HT17:=hid (HT16.out.below tagK HU14.out hbl (Nat.le_of_lt HP13s.out));have f0:=HP17.out.fz 1;have c0b:=HP17.out.c 1 rfl;clear hwl hbl c0 a0);obtain⟨W17,hW17⟩:∃ W17,W17=w17.setCell ⟨P,1,none⟩ (.slice ka2 (XA.kinds.length+XB.kinds.length) kc2):=⟨_,rfl⟩
    rw[← hW17];have HP18:=hid (show Bx W17 P 26 [.slice ta2 (XA.tags.length+XB.tags.length) tc2,.slice ka2 (XA.kinds.length+XB.kinds.length) kc2] by rw[hW17];exact HP17.out.set 1 _);have HT18:=hid (show WList tagE 70 2 P W10.heap.size W17 (.slice ta2 (XA.tags.length+XB.tags.length) tc2) (XA.tags++XB.tags) by rw[hW17];exact HT17.out.set tagK (Nat.le_refl _) (by have:=HZ10.out;omega));have HK18:=hid (show WList kindE 76 2 P W13.heap.size W17 (.slice ka2 (XA.kinds.length+XB.kinds.length) kc2) (XA.kinds++XB.kinds) by rw[hW17];exact HK17.out.set kindK (Nat.le_refl _) HP13s.out);have HB18:=hid (show Below P W9 W17 by rw[hW17];exact((HB16.out.trans (HB17.out.mono (Nat.le_of_lt HP13s.out)))).setCell (Nat.le_refl _) _);clear hW17 HT17 HB17 HP17 HK17 f0 c0b HP16 HT16 HB16 HK16 HS16;have HWANT:Hid (Held progE W17 [.slice ta2 (XA.tags.length+XB.tags.length) tc2,.slice ka2 (XA.kinds.length+XB.kinds.length) kc2] (catP XA XB)):=hid (by
     have hs:=HB18.out.size;obtain⟨F1,d1,h1,g1⟩:=HT18.out.held (by have:=HBP.out;have:=HP18.out.lt;omega);obtain⟨F2,d2,h2,g2⟩:=HK18.out.held (by have:=HBP.out;have:=HP18.out.lt;omega);exact⟨F1++F2,⟨_,_,d1,d2,F1,F2,rfl,rfl,h1,h2⟩,fun b hb=>(List.mem_append.1 hb).elim (g1 b) (g2 b)⟩)
    have HZ18:=hid (HZB.out W17 HB18.out);have HPG:=hid (wprograms_of (x:=catP XA XB) HOK.out HZ18.out.held HWANT.out);unfold WTrue at HPG;have p0:=HP18.out.c 0 rfl;have p1:=HP18.out.c 1 rfl;have z0:=HZ18.out.bx.c 0 rfl;have z1:=HZ18.out.bx.c 1 rfl;have HBF:=hid (HB11.out.trans (HB18.out.mono (by rw[HPP.out];exact HB11.out.size)));clear HX9 HY9 HXB HYB HZB HTA HKA HTB HKB;go_wp2_with (go_at_call 14;(with_reducible refine HPG.out.mono ?_);rintro e w19 ⟨rfl,hb⟩;have HBE:=hid (HBF.out.trans (hb.mono HBF.out.size));clear hb);go_ret;exact⟨rfl,HBE.out⟩
   ·obtain⟨rfl,rfl⟩:=hj.2.1 rfl hfb;have e1:(ft==0)=false:=beq_eq_false_iff_ne.2 hfb;have e2:(ft != 0)=true:=bne_iff_ne.2 hfb;have e3:(ft==ft)=true:=beq_self_eq_true _;go_upto_region 14 with (go_at_call 10;(with_reducible refine(HPT.out g8 c8 w8 HT8.out HB10.out).mono ?_);rintro e w9 ⟨u3,m3,k3,v3,q3,j3,rfl,hit,hb⟩;have HI9:=hid hit;have HBP:=hid hb;clear hb hit);obtain⟨W9,hW9⟩:∃ W9,W9=w9.alloc (.cells #[.slice u3 m3 k3,.slice v3 q3 j3] 26):=⟨_,rfl⟩
    obtain⟨hx9,hb9⟩:=PBox.new HI9.out hW9;have HZ9:=hid hx9;have HBQ:=hid (HBP.out.trans (hb9.mono HBP.out.size));have HB11:=hid (HB10.out.trans (HBQ.out.mono HB10.out.size));rw[← hW9];have HW9:=hid hW9;clear hW9 hx9 hb9;have hw1:IntKind.i64.wrap ((n1:Int)+1)=(n1:Int)+1:=by rw[IntKind.wrap_i64];omega
    have hw2:IntKind.i64.wrap ((n1:Int)+1+pb)=(n1:Int)+1+pb:=by rw[IntKind.wrap_i64];have:=hib;unfold Inn at this;omega
    have e4:((((n1+1:Nat)):Int)+pb==(n1:Int)+1+pb)=true:=by rw[beq_iff_eq];omega
    go_wp2;go_ret;exact⟨rfl,HB11.out⟩
 ·have e1:(fa==0)=false:=beq_eq_false_iff_ne.2 hfa;have e2:(fa != 0)=true:=bne_iff_ne.2 hfa;obtain⟨z1,z2⟩:=HZA.out hfa;rw[z1] at x0;rw[z2] at x1c;go_upto_region 8 with (at_builtin;refine wpList_append_txt rfl (.tmp 71) (.tmp 72) rfl W5.heap.size _ 0 [] rfl (own_empty W5) a1 n1 c1 l1 rfl ((HT1.out.below HB6.out (Nat.le_refl _)).below ((Below.refl _ W5).alloc (Nat.le_refl _) _) (Nat.le_refl _)) (by omega) (by simp) ?_;intro g6 c6 w6 hown hb;have HO6:=hid (own_zero2 hown);have HB7:=hid (((Below.refl _ W5).alloc (Nat.le_refl _) _).trans hb);clear hown hb);have hs6:=HB7.out.size;go_upto_region 9 with (at_builtin;refine wpList_append_txt rfl (.tmp 74) (.tmp 75) rfl W5.heap.size _ n1 l1 rfl (HO6.out.alloc _) (some ⟨w6.heap.size,0,none⟩) 1 1 [10] rfl (txt_marked8 w6 [10] 5 (0,0) (by decide)) (by omega) (by simp;omega) ?_;intro g7 c7 w7 hown hb;have HO7:=hid hown;have HB8:=hid ((HB7.out.alloc hs6 _).trans hb);clear hown hb);have hs7:=HB8.out.size;go_upto_region 10 with (at_builtin;refine wpList_append_txt rfl (.tmp 77) (.tmp 78) rfl W5.heap.size _ (n1+1) (l1++[10]) rfl HO7.out a2 n2 c2 l2 rfl ((HT2.out.below HB6.out (Nat.le_refl _)).below HB8.out (Nat.le_refl _)) (by omega) hs7 ?_;intro g8 c8 w8 hown hb;have HO8:Hid (w8.ownsRow W5.heap.size 5 1 (.slice g8 (n1+1+n2) c8) (n1+1+n2) (u8s (both l1 l2))):=hid (by unfold both;rw[List.append_assoc] at hown;exact hown);have HB9:=hid (HB8.out.trans hb);clear hown hb);rw[← HN.out] at HO8 ⊢;have HT8:=hid (txt_of_owned HO8.out);have HB10:=hid (HB6.out.trans (HB9.out.mono HB6.out.size));clear HO6 HB7 hs6 HO7 HB8 hs7 HO8;by_cases hbig:32768<N
  ·have hb0:=HBT.out hbig;obtain⟨rfl,rfl⟩:=hb0;have db:decide ((32768:Int)<(N:Int))=true:=decide_eq_true (by omega);have dbn:decide (32768<N)=true:=decide_eq_true hbig;go_wp2_with (go_at_call 10;(with_reducible refine(HPT.out g8 c8 w8 HT8.out HB10.out).mono ?_);rintro e w9 ⟨u3,m3,k3,v3,q3,j3,rfl,hit,hb⟩;have HB11:=hid (HB10.out.trans (hb.mono HB10.out.size));clear hb hit);go_ret;exact⟨rfl,HB11.out.alloc HB11.out.size _⟩
  ·have db:decide ((32768:Int)<(N:Int))=false:=decide_eq_false (by omega);have dbn:decide (32768<N)=false:=decide_eq_false hbig;have hj:=HJ.out (by omega);go_upto_region 14 with (go_at_call 10;(with_reducible refine(HPT.out g8 c8 w8 HT8.out HB10.out).mono ?_);rintro e w9 ⟨u3,m3,k3,v3,q3,j3,rfl,hit,hb⟩;have HI9:=hid hit;have HBP:=hid hb;clear hb hit);obtain⟨W9,hW9⟩:∃ W9,W9=w9.alloc (.cells #[.slice u3 m3 k3,.slice v3 q3 j3] 26):=⟨_,rfl⟩
   obtain⟨hx9,hb9⟩:=PBox.new HI9.out hW9;have HZ9:=hid hx9;have HBQ:=hid (HBP.out.trans (hb9.mono HBP.out.size));have HB11:=hid (HB10.out.trans (HBQ.out.mono HB10.out.size));rw[← hW9];have HW9:=hid hW9;clear hW9 hx9 hb9;rcases hj.1 hfa with h|h
   ·have e3:(ft==0)=false:=beq_eq_false_iff_ne.2 h;have e4:(ft != 0)=true:=bne_iff_ne.2 h;clear h;go_wp2;go_ret;exact⟨rfl,HB11.out⟩
   ·subst h;by_cases h:ft=0
    ·subst h;have e5:((n1:Int)==(n1:Int))=true:=beq_self_eq_true _;go_wp2;go_ret;exact⟨rfl,HB11.out⟩
    ·have e3:(ft==0)=false:=beq_eq_false_iff_ne.2 h;have e4:(ft != 0)=true:=bne_iff_ne.2 h;clear h;go_wp2;go_ret;exact⟨rfl,HB11.out⟩
end Go.Proofs.YtkpboalccpancaaGreatDoor
