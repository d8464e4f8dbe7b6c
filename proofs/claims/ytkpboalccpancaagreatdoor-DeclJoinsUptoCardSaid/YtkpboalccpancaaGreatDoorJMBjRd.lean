import Derived.Test.YtkpboalccpancaaGreatDoorJMDcPlain
import Derived.Test.YtkpboalccpancaaGreatDoorJMVReal
import Derived.Test.YtkpboalccpancaaGreatDoorJMEbPlace
namespace Go.Proofs.YtkpboalccpancaaGreatDoor
open Go.RowKit
set_option linter.all false
def plR:Rs→Nat
 | .ok _ q=>q
 | .bad q=>q
theorem thenR_some {o:Option Rs} {k:Ex→Nat→Option Rs} {r:Rs} (h:thenR o k=some r):(∃ q,o=some (.bad q)∧r=.bad q)∨∃ a q,o=some (.ok a q)∧k a q=some r:=by
 unfold thenR at h;cases o with
 | none=>cases h
 | some x =>
  cases x with
  | bad q=>cases h;exact .inl ⟨q,rfl,rfl⟩
  | ok a q=>exact .inr ⟨a,q,rfl,h⟩
theorem rd_ge (g:Nat→Cl):∀ (f:Nat) (X:Nt) (p:Nat) (r:Rs),rd g f X p=some r→p≤plR r:=by
 intro f
 induction f with
 | zero=>intro X p r h;unfold rd at h;cases h
 | succ f ih =>
  intro X p r h;cases X with
  | lvl n =>
   rw[rd] at h;split at h
   ·split at h
    ·cases h;exact Nat.le_succ p
    ·split at h
     ·rcases thenR_some h with ⟨q,h1,rfl⟩|⟨a,q,h1,h2⟩
      ·have:=ih _ _ _ h1;simp only[plR] at this ⊢;omega
      ·have:=ih _ _ _ h1;simp only[plR] at this;split at h2 <;> (cases h2;simp only[plR];omega)
     ·cases h;exact Nat.le_refl p
    ·split at h
     ·rcases thenR_some h with ⟨q,h1,rfl⟩|⟨a,q,h1,h2⟩
      ·have:=ih _ _ _ h1;simp only[plR] at this ⊢;omega
      ·have:=ih _ _ _ h1;simp only[plR] at this;split at h2
       ·split at h2 <;> (cases h2;simp only[plR];omega)
       ·split at h2
        ·rcases thenR_some h2 with ⟨q2,h3,rfl⟩|⟨b,q2,h3,h4⟩
         ·have:=ih _ _ _ h3;simp only[plR] at this ⊢;omega
         ·have:=ih _ _ _ h3;simp only[plR] at this;split at h4 <;> (cases h4;simp only[plR];omega)
        ·cases h2;simp only[plR];omega
     ·cases h;exact Nat.le_succ p
    ·cases h;exact Nat.le_refl p
   ·split at h
    ·split at h
     ·exact ih _ _ _ h
     ·rcases thenR_some h with ⟨q,h1,rfl⟩|⟨a,q,h1,h2⟩
      ·have:=ih _ _ _ h1;simp only[plR] at this ⊢;omega
      ·have:=ih _ _ _ h1;cases h2;simp only[plR] at this ⊢;omega
    ·rcases thenR_some h with ⟨q,h1,rfl⟩|⟨a,q,h1,h2⟩
     ·have:=ih _ _ _ h1;exact this
     ·have:=ih _ _ _ h1;have h3:=ih _ _ _ h2;simp only[plR] at this;omega
  | loop n a =>
   rw[rd] at h;split at h
   ·rcases thenR_some h with ⟨q,h1,rfl⟩|⟨b,q,h1,h2⟩
    ·have:=ih _ _ _ h1;simp only[plR] at this ⊢;omega
    ·have h3:=ih _ _ _ h1;simp only[plR] at h3;split at h2
     ·cases h2;simp only[plR];omega
     ·have:=ih _ _ _ h2;omega
   ·cases h;exact Nat.le_refl p
structure Beg (m:Nat) (g g':Nat→Cl):Prop where
 same:∀ p,p<m→g' p=g p
 no:∀ p,m≤p→g p=.no
theorem thenR_go {k k':Ex→Nat→Option Rs} {o o':Option Rs} {r:Rs} (h:thenR o k=some r) (h1:∀ q,o=some (.bad q)→r=.bad q→o'=some (.bad q)) (h2:∀ a q,o=some (.ok a q)→k a q=some r→o'=some (.ok a q)∧k' a q=some r):thenR o' k'=some r:=by
 rcases thenR_some h with ⟨q,e,rfl⟩|⟨a,q,e,e2⟩
 ·rw[h1 q e rfl];rfl
 ·obtain⟨h3,h4⟩:=h2 a q e e2;rw[h3];exact h4
theorem rd_loc {m:Nat} {g g':Nat→Cl} (H:Beg m g g'):∀ (f:Nat) (X:Nt) (p:Nat) (r:Rs),rd g f X p=some r→plR r<m→rd g' f X p=some r:=by
 intro f
 induction f with
 | zero=>intro X p r h;unfold rd at h;cases h
 | succ f ih =>
  intro X p r h hr;have hge:=rd_ge g _ _ _ _ h;have hp:g' p=g p:=H.same p (by omega);cases X with
  | lvl n =>
   rw[rd] at h ⊢;rw[hp];split at h
   ·rename_i hn;rw[if_pos hn];split at h
    ·exact h
    ·rename_i s hs;split at h
     ·rename_i hb;rw[if_pos hb];refine thenR_go h (fun q e e2=>ih _ _ _ e (by rw[← e2];exact hr)) (fun a q e e2=>?_);have hq:q≤plR r:=by split at e2 <;> (cases e2;simp only[plR];omega)
      exact⟨ih _ _ _ e (by simp only[plR];omega),by rw[H.same q (by omega)];exact e2⟩
     ·rename_i hb;rw[if_neg hb];exact h
    ·rename_i k hk;split at h
     ·rename_i hb;have h1:p+1<m:=by
       rcases Nat.lt_or_ge (p+1) m with h|h
       ·exact h
       ·rw[H.no _ h] at hb;cases hb
      rw[H.same _ h1,if_pos hb];refine thenR_go h (fun q e e2=>ih _ _ _ e (by rw[← e2];exact hr)) (fun a q e e2=>?_);have hq:q≤plR r:=by
       split at e2
       ·split at e2 <;> (cases e2;simp only[plR];omega)
       ·split at e2
        ·rcases thenR_some e2 with ⟨q2,h3,rfl⟩|⟨b,q2,h3,h4⟩
         ·have:=rd_ge g _ _ _ _ h3;simp only[plR] at this ⊢;omega
         ·have:=rd_ge g _ _ _ _ h3;simp only[plR] at this;split at h4 <;> (cases h4;simp only[plR];omega)
        ·cases e2;simp only[plR];omega
      refine⟨ih _ _ _ e (by simp only[plR];omega),?_⟩;rw[H.same q (by omega)];split at e2
      ·rename_i hw;rw[if_pos hw];exact e2
      ·rename_i hw;rw[if_neg hw];split at e2
       ·rename_i hc;rw[if_pos hc];refine thenR_go e2 (fun q e e2=>ih _ _ _ e (by rw[← e2];exact hr)) (fun b q2 e3 e4=>?_);have hq2:q2≤plR r:=by split at e4 <;> (cases e4;simp only[plR];omega)
        exact⟨ih _ _ _ e3 (by simp only[plR];omega),by rw[H.same q2 (by omega)];exact e4⟩
       ·rename_i hc;rw[if_neg hc];exact e2
     ·rename_i hb;cases h;rw[H.same (p+1) hr,if_neg hb]
    ·exact h
   ·rename_i hn;rw[if_neg hn];split at h
    ·rename_i h6;rw[if_pos h6];split at h
     ·rename_i hs;rw[if_pos hs];exact ih _ _ _ h hr
     ·rename_i hs;rw[if_neg hs];refine thenR_go h (fun q e e2=>ih _ _ _ e (by rw[← e2];exact hr)) (fun a q e e2=>?_);exact⟨ih _ _ _ e (by cases e2;exact hr),e2⟩
    ·rename_i h6;rw[if_neg h6];refine thenR_go h (fun q e e2=>ih _ _ _ e (by rw[← e2];exact hr)) (fun a q e e2=>?_);have:=rd_ge g _ _ _ _ e2;exact⟨ih _ _ _ e (by simp only[plR];omega),ih _ _ _ e2 hr⟩
  | loop n a =>
   rw[rd] at h ⊢;rw[hp];split at h
   ·rename_i ho;rw[if_pos ho];refine thenR_go h (fun q e e2=>ih _ _ _ e (by rw[← e2];exact hr)) (fun b q e e2=>?_);have hq:q≤plR r:=by
     split at e2
     ·cases e2;exact Nat.le_refl _
     ·exact rd_ge g _ _ _ _ e2
    refine⟨ih _ _ _ e (by simp only[plR];omega),?_⟩;split at e2
    ·rename_i h3;rw[if_pos h3];exact e2
    ·rename_i h3;rw[if_neg h3];exact ih _ _ _ e2 hr
   ·rename_i ho;rw[if_neg ho];exact h
def LeE (t u:Ex):Prop:=cnt t≤cnt u∧dep t≤dep u
theorem LeE.refl (t:Ex):LeE t t:=⟨Nat.le_refl _,Nat.le_refl _⟩
theorem LeE.trans {t u v:Ex} (h:LeE t u) (h2:LeE u v):LeE t v:=⟨Nat.le_trans h.1 h2.1,Nat.le_trans h.2 h2.2⟩
theorem LeE.un {t u:Ex} (k:Nat) (h:LeE t u):LeE (.un k t) (.un k u):=by
 have:=h.1;have:=h.2;refine⟨?_,?_⟩
 ·simp only[cnt];omega
 ·simp only[dep];omega
theorem LeE.bi {t u t2 u2:Ex} (k:Nat) (h:LeE t u) (h2:LeE t2 u2):LeE (.bi k t t2) (.bi k u u2):=by
 have:=h.1;have:=h.2;have:=h2.1;have:=h2.2;refine⟨?_,?_⟩
 ·simp only[cnt];omega
 ·simp only[dep];omega
theorem LeE.left (k:Nat) (t u:Ex):LeE t (.bi k t u):=by
 refine⟨?_,?_⟩
 ·simp only[cnt];omega
 ·simp only[dep];omega
theorem loop_grow (g:Nat→Cl):∀ (f n:Nat) (a:Ex) (p:Nat) (t:Ex) (q:Nat),rd g f (.loop n a) p=some (.ok t q)→LeE a t:=by
 intro f
 induction f with
 | zero=>intro n a p t q h;unfold rd at h;cases h
 | succ f ih =>
  intro n a p t q h;rw[rd] at h;split at h
  ·rcases thenR_some h with ⟨q,h1,h2⟩|⟨b,q2,h1,h2⟩
   ·cases h2
   ·split at h2
    ·cases h2;exact LeE.left _ _ _
    ·exact(LeE.left _ _ _).trans (ih _ _ _ _ _ h2)
  ·cases h;exact LeE.refl _
def Grows (t:Ex) (r:Rs):Prop:=∀ t' q',r=.ok t' q'→LeE t t'
theorem rd_grow {m:Nat} {g g':Nat→Cl} (H:Beg m g g'):∀ (f:Nat),
  (∀ (n p:Nat) (t:Ex) (r':Rs),1≤n→rd g f (.lvl n) p=some (.ok t m)→rd g' f (.lvl n) p=some r'→Grows t r') ∧
  (∀ (n:Nat) (a a':Ex) (p:Nat) (t:Ex) (r':Rs),1≤n→LeE a a'→p≤m→rd g f (.loop n a) p=some (.ok t m)→rd g' f (.loop n a') p=some r'→Grows t r'):=by
 intro f
 induction f with
 | zero=>exact⟨fun n p t r' _ h=>(by unfold rd at h;cases h),fun n a a' p t r' _ _ _ h=>(by unfold rd at h;cases h)⟩
 | succ f ih =>
  obtain⟨ih1,ih2⟩:=ih;refine⟨fun n p t r' hn h h'=>?_,fun n a a' p t r' hn ha hp h h'=>?_⟩
  ·have hpm:p<m:=by
    have:=rd_ge g _ _ _ _ h;simp only[plR] at this;rcases Nat.lt_or_ge p m with h1|h1
    ·exact h1
    ·exact absurd h (by
      intro h;have:=rd_far g _ _ _ _ _ h;simp only at this;omega)
   have hpe:=H.same p hpm;by_cases h7:n=7
   ·
    have hs:rd g' (f+1) (.lvl n) p=some (.ok t m):=by
     subst h7;rw[rd,if_pos rfl] at h ⊢;rw[hpe];split at h
     ·exact h
     ·rename_i s hs;split at h
      ·rename_i hb;rw[if_pos hb];refine thenR_go h (fun q e e2=>by cases e2) (fun a q e e2=>?_);have hq:q<m:=by
        split at e2
        ·cases e2;omega
        ·cases e2
       exact⟨rd_loc H _ _ _ _ e hq,by rw[H.same q hq];exact e2⟩
      ·cases h
     ·rename_i k hk;split at h
      ·rename_i hb;have h1:p+1<m:=by
        rcases Nat.lt_or_ge (p+1) m with h|h
        ·exact h
        ·rw[H.no _ h] at hb;cases hb
       rw[H.same _ h1,if_pos hb];refine thenR_go h (fun q e e2=>by cases e2) (fun a q e e2=>?_);split at e2
       ·rename_i hw;have hq:q<m:=by
         split at e2
         ·cases e2;omega
         ·cases e2
        exact⟨rd_loc H _ _ _ _ e hq,by rw[H.same q hq,if_pos hw];exact e2⟩
       ·rename_i hw;split at e2
        ·rename_i hc;have hq:q<m:=by
          rcases Nat.lt_or_ge q m with h|h
          ·exact h
          ·rw[H.no _ h] at hc;cases hc
         refine⟨rd_loc H _ _ _ _ e hq,?_⟩;rw[if_neg hw,H.same q hq,if_pos hc];refine thenR_go e2 (fun q e e2=>by cases e2) (fun b q2 e3 e4=>?_);have hq2:q2<m:=by
          split at e4
          ·cases e4;omega
          ·cases e4
         exact⟨rd_loc H _ _ _ _ e3 hq2,by rw[H.same q2 hq2];exact e4⟩
        ·cases e2
      ·cases h
     ·cases h
    rw[hs] at h';cases h';intro t' q' e;cases e;exact LeE.refl _
   ·by_cases h6:n=6
    ·subst h6;rw[rd,if_neg h7,if_pos rfl] at h h';rw[hpe] at h';split at h
     ·rename_i hs;rw[if_pos hs] at h';exact ih1 7 p t r' (by omega) h h'
     ·rename_i hs;rw[if_neg hs] at h';rcases thenR_some h with ⟨q,_,e2⟩|⟨a,q,e,e2⟩
      ·cases e2
      ·cases e2;rcases thenR_some h' with ⟨q,_,rfl⟩|⟨b,q,k,k2⟩
       ·intro t' q' e;cases e
       ·cases k2;intro t' q' e3;cases e3;exact(ih1 6 (p+1) a _ (by omega) e k b q rfl).un _
    ·rw[rd,if_neg h7,if_neg h6] at h h';rcases thenR_some h with ⟨q,_,e2⟩|⟨a,q,e,e2⟩
     ·cases e2
     ·have hqm:=rd_ge g _ _ _ _ e2;simp only[plR] at hqm;rcases Nat.lt_or_ge q m with hq|hq
      ·have k:=rd_loc H _ _ _ _ e hq;rw[k] at h';exact ih2 n a a q t r' hn (LeE.refl _) (by omega) e2 h'
      ·obtain rfl:q=m:=by omega
       rcases thenR_some h' with ⟨q',_,rfl⟩|⟨b,q',k,k2⟩
       ·intro t' q' e;cases e
       ·have hab:=ih1 (n+1) p a _ (by omega) e k b q' rfl;have hta:t=a:=by
         cases f with
         | zero=>unfold rd at e2;cases e2
         | succ f =>
          rw[rd,H.no q (Nat.le_refl _),if_neg (by show opL 0≠n;rw[show opL 0=0 by decide];omega)] at e2;cases e2;rfl
        intro t' q2 e3;subst e3;rw[hta];exact hab.trans (loop_grow g' _ _ _ _ _ _ k2)
  ·rcases Nat.lt_or_ge p m with hpm|hpm
   ·have hpe:=H.same p hpm;rw[rd] at h h';rw[hpe] at h';split at h
    ·rename_i ho;rw[if_pos ho] at h';rcases thenR_some h with ⟨q,_,e2⟩|⟨b,q,e,e2⟩
     ·cases e2
     ·by_cases h3:n=3
      ·rw[if_pos h3] at e2;cases e2;rcases thenR_some h' with ⟨q,_,rfl⟩|⟨b',q,k,k2⟩
       ·intro t' q' e;cases e
       ·rw[if_pos h3] at k2;cases k2;intro t' q' e3;cases e3;exact ha.bi _ (ih1 (n+1) (p+1) b _ (by omega) e k b' q rfl)
      ·rw[if_neg h3] at e2;have hqm:=rd_ge g _ _ _ _ e2;simp only[plR] at hqm;rcases Nat.lt_or_ge q m with hq|hq
       ·have k:=rd_loc H _ _ _ _ e hq;rw[k] at h';have h2:rd g' f (.loop n (.bi (clK (g p)) a' b)) q=some r':=by
         unfold thenR at h';simp only[if_neg h3] at h';exact h'
        exact ih2 n _ _ q t r' hn (ha.bi _ (LeE.refl _)) (by omega) e2 h2
       ·obtain rfl:q=m:=by omega
        rcases thenR_some h' with ⟨q',_,rfl⟩|⟨b',q',k,k2⟩
        ·intro t' q' e;cases e
        ·rw[if_neg h3] at k2;have hb:=ih1 (n+1) (p+1) b _ (by omega) e k b' q' rfl;have hta:t=.bi (clK (g p)) a b:=by
          cases f with
          | zero=>unfold rd at e2;cases e2
          | succ f =>
           rw[rd,H.no q (Nat.le_refl _),if_neg (by show opL 0≠n;rw[show opL 0=0 by decide];omega)] at e2;cases e2;rfl
         intro t' q2 e3;subst e3;rw[hta];exact(ha.bi _ hb).trans (loop_grow g' _ _ _ _ _ _ k2)
    ·cases h;omega
   ·obtain rfl:p=m:=by omega
    rw[rd,H.no p (Nat.le_refl _),if_neg (by show opL 0≠n;rw[show opL 0=0 by decide];omega)] at h;cases h;intro t' q' e;subst e;exact ha.trans (loop_grow g' _ _ _ _ _ _ h')
theorem fault_grow {t t':Ex} (h:LeE t t') (hf:faultT t≠0):faultT t'≠0:=by
 have h1:=h.1;have h2:=h.2;unfold faultT at hf ⊢;split at hf
 ·rw[if_pos (by omega)];decide
 ·split at hf
  ·split
   ·decide
   ·rw[if_pos (by omega)];decide
  ·exact absurd rfl hf
theorem then_total {g:Nat→Cl} {X:Nt} {p:Nat} {K:Ex→Nat→Rs→Prop} (h:∃ r,Rd g X p r) (hk:∀ a q,Rd g X p (.ok a q)→∃ r,K a q r):∃ r,Then g X p K r:=by
 obtain⟨r,hr⟩:=h;cases r with
 | bad e=>exact⟨.bad e,.inl ⟨e,hr,rfl⟩⟩
 | ok a q =>
  obtain⟨r,h2⟩:=hk a q hr;exact⟨r,.inr ⟨a,q,hr,h2⟩⟩
theorem opL_zero:opL (clK .no)=0:=by decide
theorem rd_total {g:Nat→Cl} {M:Nat} (hno:∀ p,M≤p→g p=.no):∀ (d p:Nat),M-p≤d→(∀ n,1≤n→n≤7→∃ r,Rd g (.lvl n) p r)∧∀ n a,1≤n→n≤5→∃ r,Rd g (.loop n a) p r
 | d,p,hd=>by
  have more:∀ q,p<q→p<M→(∀ n,1≤n→n≤7→∃ r,Rd g (.lvl n) q r)∧∀ n a,1≤n→n≤5→∃ r,Rd g (.loop n a) q r:=fun q hq hm=>by
   match d,hd with
   | 0,hd=>omega
   | d+1,hd=>exact rd_total hno d q (by omega)
  have here:g p≠.no→p<M:=fun h=>by
   rcases Nat.lt_or_ge p M with h1|h1
   ·exact h1
   ·exact absurd (hno p h1) h
  have h7:∃ r,Rd g (.lvl 7) p r:=by
   cases hg:g p with
   | no=>exact⟨_,Rd.no hg⟩
   | leaf l=>exact⟨_,Rd.leaf hg⟩
   | mark s =>
    have hm:p<M:=here (by rw[hg];simp);by_cases hs:s=[40]
    ·subst hs;obtain⟨r,hr⟩:=then_total (g:=g) (X:=.lvl 1) (p:=p+1) (K:=fun a q r=>r=if isM (g q) [41] then .ok a (q+1) else .bad q) ((more (p+1) (by omega) hm).1 1 (by omega) (by omega)) (fun a q _=>⟨_,rfl⟩);exact⟨r,Rd.bracket hg hr⟩
    ·exact⟨_,Rd.mark hg hs⟩
   | word k =>
    have hm:p<M:=here (by rw[hg];simp);by_cases hb:isM (g (p+1)) [40]=true
    ·obtain⟨r,hr⟩:=then_total (g:=g) (X:=.lvl 1) (p:=p+2) (K:=fun a q r =>
       if wdN k=1 then r=(if isM (g q) [41] then .ok (.un k a) (q+1) else .bad q)
       else if isM (g q) [44] then Then g (.lvl 1) (q+1) (fun b q2 r=>r=if isM (g q2) [41] then .ok (.bi k a b) (q2+1) else .bad q2) r
       else r=.bad q) ((more (p+2) (by omega) hm).1 1 (by omega) (by omega)) (fun a q ha=>by
      have hf:=Rd.far ha;by_cases hw:wdN k=1
      ·simp only[if_pos hw];exact⟨_,rfl⟩
      ·simp only[if_neg hw];by_cases hc:isM (g q) [44]=true
       ·simp only[if_pos hc];exact then_total ((more (q+1) (by omega) hm).1 1 (by omega) (by omega)) (fun b q2 _=>⟨_,rfl⟩)
       ·simp only[if_neg hc];exact⟨_,rfl⟩)
     exact⟨r,Rd.word hg (by rw[if_pos hb];exact hr)⟩
    ·exact⟨_,Rd.word hg (by rw[if_neg hb])⟩
  have h6:∃ r,Rd g (.lvl 6) p r:=by
   by_cases hs:sgK (g p)=0
   ·obtain⟨r,hr⟩:=h7;exact⟨r,Rd.six hs hr⟩
   ·have hm:p<M:=here (fun h=>hs (by rw[h];rfl));obtain⟨r,hr⟩:=then_total (g:=g) (X:=.lvl 6) (p:=p+1) (K:=fun a q r=>r=.ok (.un (sgK (g p)) a) q) ((more (p+1) (by omega) hm).1 6 (by omega) (by omega)) (fun a q _=>⟨_,rfl⟩);exact⟨r,Rd.sign hs hr⟩
  have hl:∀ n a,1≤n→n≤5→∃ r,Rd g (.loop n a) p r:=fun n a h1 h5=>by
   by_cases ho:opL (clK (g p))=n
   ·have hm:p<M:=here (fun h=>by rw[h,opL_zero] at ho;omega);obtain⟨r,hr⟩:=then_total (g:=g) (X:=.lvl (n+1)) (p:=p+1) (K:=fun b q r=>if n=3 then r=.ok (.bi (clK (g p)) a b) q else Rd g (.loop n (.bi (clK (g p)) a b)) q r) ((more (p+1) (by omega) hm).1 (n+1) (by omega) (by omega)) (fun b q hb=>by
     have hf:=Rd.far hb;by_cases h3:n=3
     ·simp only[if_pos h3];exact⟨_,rfl⟩
     ·simp only[if_neg h3];exact(more q (by omega) hm).2 n _ h1 h5)
    exact⟨r,Rd.more ho hr⟩
   ·exact⟨_,Rd.stop ho⟩
  have hn:∀ k n,n+k=6→1≤n→∃ r,Rd g (.lvl n) p r:=by
   intro k
   induction k with
   | zero =>
    intro n h _;obtain rfl:n=6:=by omega
    exact h6
   | succ k ih =>
    intro n h h1;obtain⟨r,hr⟩:=then_total (g:=g) (X:=.lvl (n+1)) (p:=p) (K:=fun a q r=>Rd g (.loop n a) q r) (ih (n+1) (by omega) (by omega)) (fun a q ha=>by
     have hf:=Rd.far ha;rcases Nat.lt_or_ge p M with hm|hm
     ·exact(more q hf hm).2 n a h1 (by omega)
     ·exact⟨_,Rd.stop (by rw[hno q (by omega),opL_zero];omega)⟩)
    exact⟨r,Rd.lvl h1 (by omega) hr⟩
  exact⟨fun n h1 h2=>by
   rcases Nat.lt_or_ge n 7 with h|h
   ·exact hn (6-n) n (by omega) h1
   ·obtain rfl:n=7:=by omega
    exact h7,hl⟩
theorem rdR_total (L:List TokE) (k:Nat):∃ r,Rd (gL L) (.lvl 1) k r:=(rd_total (M:=L.length) (fun p hp=>gL_no (by omega)) (L.length-k) k (Nat.le_refl _)).1 1 (by omega) (by omega)
structure BegL (L L':List TokE):Prop where
 len:L.length≤L'.length
 same:∀ k,k<L.length→tkE L' k=tkE L k
def End8 (L:List TokE) (n:Nat) (s:S8):Prop:=(s.bad=0∧s.k=L.length)∨(s.bad≠0∧s.pl=n)
def J2 (L:List TokE) (n:Nat) {α:Type} (x y:S8 × α):Prop:=(x.1.bad=0∧x.1.k≤L.length∧y=x)∨(x.1.bad≠0∧y.1.bad≠0)∨End8 L n x.1
structure PJ (L:List TokE) (n:Nat) {α:Type} (f f':S8→S8 × α):Prop where
 e:∀ s,End8 L n s→End8 L n (f s).1
 b:∀ s,s.bad≠0→(f s).1.bad≠0
 b':∀ s,s.bad≠0→(f' s).1.bad≠0
 j:∀ s,s.bad=0→s.k≤L.length→J2 L n (f s) (f' s)
section
variable {L L':List TokE} {n n':Nat} {α β:Type}
theorem PJ.bind {f f':S8→S8 × α} {g g':α→S8→S8 × β} (h:PJ L n f f') (hg:∀ v,PJ L n (g v) (g' v)):PJ L n (fun s=>g (f s).2 (f s).1) (fun s=>g' (f' s).2 (f' s).1) where
 e s hs:=(hg _).e _ (h.e s hs)
 b s hs:=(hg _).b _ (h.b s hs)
 b' s hs:=(hg _).b' _ (h.b' s hs)
 j s hs hk:=by
  rcases h.j s hs hk with ⟨h1,h2,h3⟩|⟨h1,h2⟩|h1
  ·show J2 L n (g (f s).2 (f s).1) (g' (f' s).2 (f' s).1);rw[h3];exact(hg _).j _ h1 h2
  ·exact .inr (.inl ⟨(hg _).b _ h1,(hg _).b' _ h2⟩)
  ·exact .inr (.inr ((hg _).e _ h1))
theorem PJ.ret (v:α):PJ L n (fun s=>(s,v)) (fun s=>(s,v)) where
 e _ hs:=hs
 b _ hs:=hs
 b' _ hs:=hs
 j _ hs hk:=.inl ⟨hs,hk,rfl⟩
structure Tst (L L':List TokE) (c c':S8→Bool):Prop where
 bad:∀ s,s.bad≠0→c s=false
 bad':∀ s,s.bad≠0→c' s=false
 far:∀ s,L.length≤s.k→c s=false
 same:∀ s,s.bad=0→s.k<L.length→c' s=c s
theorem Tst.off {c c':S8→Bool} (t:Tst L L' c c') {s:S8} (h:End8 L n s):c s=false:=by
 rcases h with ⟨_,h⟩|⟨h,_⟩
 ·exact t.far s (by omega)
 ·exact t.bad s h
theorem PJ.cond {c c':S8→Bool} (t:Tst L L' c c') {A A' B B':S8→S8 × α} (hA:∀ s,s.bad=0→s.k<L.length→c s=true→J2 L n (A s) (A' s)) (hB:PJ L n B B') :
  PJ L n (fun s=>if c s then A s else B s) (fun s=>if c' s then A' s else B' s) where
 e s hs:=by
  show End8 L n (if c s then A s else B s).1;rw[t.off hs];exact hB.e s hs
 b s hs:=by
  show (if c s then A s else B s).1.bad≠0;rw[t.bad s hs];exact hB.b s hs
 b' s hs:=by
  show (if c' s then A' s else B' s).1.bad≠0;rw[t.bad' s hs];exact hB.b' s hs
 j s hs hk:=by
  show J2 L n (if c s then A s else B s) (if c' s then A' s else B' s);rcases Nat.lt_or_ge s.k L.length with h|h
  ·rw[t.same s hs h];cases hc:c s with
   | true=>exact hA s hs h hc
   | false=>exact hB.j s hs hk
  ·rw[t.far s h];refine .inr (.inr ?_);exact hB.e s (.inl ⟨hs,by omega⟩)
theorem plc_end {k:Int} (h:k=(L.length:Nat)):plc L n k=n:=by unfold plc;rw[if_neg (by omega)]
theorem PJ.fail (x:Int) (hx:x≠0) (v:α):PJ L n (fun s=>(failS L n s s.k x,v)) (fun s=>(failS L' n' s s.k x,v)) where
 e s hs:=by
  show End8 L n (failS L n s s.k x);unfold failS;rcases hs with ⟨h,h2⟩|⟨h,h2⟩
  ·rw[if_pos h];exact .inr ⟨hx,plc_end (by rw[h2])⟩
  ·rw[if_neg h];exact .inr ⟨h,h2⟩
 b s hs:=by
  show (failS L n s s.k x).bad≠0;unfold failS;rw[if_neg hs];exact hs
 b' s hs:=by
  show (failS L' n' s s.k x).bad≠0;unfold failS;rw[if_neg hs];exact hs
 j s hs hk:=by
  refine .inr (.inl ⟨?_,?_⟩)
  ·show (failS L n s s.k x).bad≠0;unfold failS;rw[if_pos hs];exact hx
  ·show (failS L' n' s s.k x).bad≠0;unfold failS;rw[if_pos hs];exact hx
theorem next_J (s:S8) (hs:s.bad=0) (hk:s.k<L.length) (v:α):J2 L n (nextS s,v) (nextS s,v):=.inl ⟨hs,hk,rfl⟩
theorem PJ.next {f f':S8→S8 × α} (h:PJ L n f f') (s:S8) (hs:s.bad=0) (hk:s.k<L.length):J2 L n (f (nextS s)) (f' (nextS s)):=h.j _ hs hk
end
section
variable {L L':List TokE} (H:BegL L L') {n n':Nat}
include H
theorem isB_tst (t:ByteArray):Tst L L' (fun s=>isB L s t) (fun s=>isB L' s t) where
 bad s h:=isB_bad h
 bad' s h:=isB_bad h
 far s h:=by
  cases hc:isB L s t with
  | false=>rfl
  | true=>have:=(isB_yes hc).2.1;omega
 same s hs hk:=by
  have h1:=H.len;have h2:=H.same _ hk;show isB L' s t=isB L s t;unfold isB;rw[h2,decide_eq_true hk,decide_eq_true (show s.k<L'.length by omega)]
theorem word_tst:Tst L L' (wordB8 L) (wordB8 L') where
 bad s h:=by simp[wordB8,h]
 bad' s h:=by simp[wordB8,h]
 far s h:=by simp[wordB8,show ¬ s.k<L.length by omega]
 same s hs hk:=by
  have h1:=H.len;have h2:=H.same _ hk;unfold wordB8;rw[h2,decide_eq_true hk,decide_eq_true (show s.k<L'.length by omega)]
theorem kind_tst:Tst L L' (fun s=>kindB8 L s && ((tyF8 (tkE L s.k).tx.toList).2 && decide ((tyF8 (tkE L s.k).tx.toList).1≠5))) (fun s=>kindB8 L' s && ((tyF8 (tkE L' s.k).tx.toList).2 && decide ((tyF8 (tkE L' s.k).tx.toList).1≠5))) where
 bad s h:=by simp[kindB8,h]
 bad' s h:=by simp[kindB8,h]
 far s h:=by simp[kindB8,show ¬ s.k<L.length by omega]
 same s hs hk:=by
  have h1:=H.len;have h2:=H.same _ hk;unfold kindB8;simp only[h2,decide_eq_true hk,decide_eq_true (show s.k<L'.length by omega)]
theorem want_J (t:ByteArray):PJ L n (fun s=>(wantS L n s t,())) (fun s=>(wantS L' n' s t,())):=by
 have e:∀ (M:List TokE) (m:Nat),(fun s=>(wantS M m s t,()))=fun s=>if isB M s t then (nextS s,()) else (failS M m s s.k 80,()):=fun M m=>by
  funext s;unfold wantS;split <;> rfl
 rw[e,e];exact PJ.cond (isB_tst H t) (fun s hs hk _=>next_J s hs hk ()) (PJ.fail 80 (by decide) ())
theorem word_J:PJ L n (wordS L n) (wordS L' n'):=by
 have e:wordS L n=fun s=>if wordB8 L s then (nextS s,(tkE L s.k).tx) else (failS L n s s.k 80,eB):=rfl
 have e':wordS L' n'=fun s=>if wordB8 L' s then (nextS s,(tkE L' s.k).tx) else (failS L' n' s s.k 80,eB):=rfl
 rw[e,e'];exact PJ.cond (word_tst H) (fun s hs hk _=>by rw[H.same _ hk];exact next_J s hs hk _) (PJ.fail 80 (by decide) eB)
theorem kind_J:PJ L n (kindS L n) (kindS L' n'):=by
 have e:kindS L n=fun s=>if kindB8 L s && ((tyF8 (tkE L s.k).tx.toList).2 && decide ((tyF8 (tkE L s.k).tx.toList).1≠5)) then (nextS s,(((tyF8 (tkE L s.k).tx.toList).1:Nat):Int)) else (failS L n s s.k 80,0):=rfl
 have e':kindS L' n'=fun s=>if kindB8 L' s && ((tyF8 (tkE L' s.k).tx.toList).2 && decide ((tyF8 (tkE L' s.k).tx.toList).1≠5)) then (nextS s,(((tyF8 (tkE L' s.k).tx.toList).1:Nat):Int)) else (failS L' n' s s.k 80,0):=rfl
 rw[e,e'];exact PJ.cond (kind_tst H) (fun s hs hk _=>by rw[H.same _ hk];exact next_J s hs hk _) (PJ.fail 80 (by decide) 0)
theorem var_J:PJ L n (varS L n) (varS L' n'):=by
 have e:∀ (M:List TokE) (m:Nat),varS M m=fun s=>if isB M s ⟨#[95]⟩ then (nextS s,⟨#[95]⟩) else wordS M m s:=fun _ _=>rfl
 rw[e,e];exact PJ.cond (isB_tst H _) (fun s hs hk _=>next_J s hs hk _) (word_J H)
theorem gL_beg:Beg L.length (gL L) (gL L') where
 same p hp:=by
  have h1:=H.len;have h2:=H.same _ hp;unfold tkE at h2;unfold gL;rw[if_pos hp,if_pos (by omega),h2]
 no p hp:=gL_no (by omega)
omit H in
theorem rdB_at {k q:Nat} (h:Rd (gL L) (.lvl 1) k (.bad q)):rdX L k=(none,((q:Nat):Int),50):=rdX_of (.inl ⟨q,h,rfl,rfl,rfl⟩)
omit H in
theorem rdG_at {k q:Nat} {t:Ex} (h:Rd (gL L) (.lvl 1) k (.ok t q)) (hf:faultT t≠0):rdX L k=(none,((k:Nat):Int),faultT t):=rdX_of (.inr (.inl ⟨t,q,h,hf,rfl,rfl,rfl⟩))
omit H in
theorem rdO_at {k q:Nat} {t:Ex} (h:Rd (gL L) (.lvl 1) k (.ok t q)) (hf:faultT t=0):rdX L k=(some t,((q:Nat):Int),0):=rdX_of (.inr (.inr ⟨t,q,h,hf,rfl,rfl,rfl⟩))
omit H in
theorem expr_bad {s:S8} (h:s.bad≠0):exprS L n s=(s,none):=by unfold exprS;rw[if_neg h]
omit H in
theorem expr_ways (L:List TokE) (n:Nat) (s:S8) (hs:s.bad=0) (hk:s.k≤L.length) :
  (∃ q,s.k≤q∧q≤L.length∧Rd (gL L) (.lvl 1) s.k (.bad q)∧exprS L n s=(failS L n s (q:Nat) 50,none)) ∨
  (∃ t q,s.k<q∧q≤L.length∧Rd (gL L) (.lvl 1) s.k (.ok t q)∧faultT t≠0∧exprS L n s=(failS L n s (s.k:Nat) (faultT t),none)) ∨
  (∃ t q,s.k<q∧q≤L.length∧Rd (gL L) (.lvl 1) s.k (.ok t q)∧faultT t=0∧exprS L n s=(⟨q,s.bad,s.pl⟩,some t)):=by
 obtain⟨r,hr⟩:=rdR_total L s.k;unfold exprS;rw[if_pos hs];cases r with
 | bad q =>
  have h2:=hr.bad_le (by omega) hk;obtain⟨f,hf⟩:=hr;have h1:=rd_ge _ _ _ _ _ hf;rw[rdB_at ⟨f,hf⟩];exact .inl ⟨q,h1,h2,⟨f,hf⟩,rfl⟩
 | ok t q =>
  have h1:=hr.far;have h2:=hr.ok_le (by omega) hk;by_cases hf:faultT t=0
  ·rw[rdO_at hr hf];exact .inr (.inr ⟨t,q,h1,h2,hr,hf,by simp⟩)
  ·rw[rdG_at hr hf];exact .inr (.inl ⟨t,q,h1,h2,hr,hf,rfl⟩)
theorem expr_J:PJ L n (exprS L n) (exprS L' n') where
 e s hs:=by
  rcases hs with ⟨h,h2⟩|⟨h,h2⟩
  ·rcases expr_ways L n s h (by omega) with ⟨q,h3,h4,_,h5⟩|⟨t,q,h3,h4,_⟩|⟨t,q,h3,h4,_⟩
   ·rw[h5];show End8 L n (failS L n s (q:Nat) 50);unfold failS;rw[if_pos h];exact .inr ⟨show (50:Int)≠0 by decide,plc_end (by omega)⟩
   ·omega
   ·omega
  ·rw[expr_bad h];exact .inr ⟨h,h2⟩
 b s hs:=by rw[expr_bad hs];exact hs
 b' s hs:=by rw[expr_bad hs];exact hs
 j s hs hk:=by
  have hB:=gL_beg H;have hfail:∀ (M:List TokE) (m:Nat) (i x:Int),x≠0→(failS M m s i x).bad≠0:=fun M m i x hx=>by unfold failS;rw[if_pos hs];exact hx
  rcases expr_ways L n s hs hk with ⟨q,h3,h4,h5,h6⟩|⟨t,q,h3,h4,h5,h7,h6⟩|⟨t,q,h3,h4,h5,h7,h6⟩
  ·rcases Nat.lt_or_ge q L.length with hq|hq
   ·obtain⟨f,hf⟩:=h5;have:=rd_loc hB _ _ _ _ hf hq;have e:exprS L' n' s=(failS L' n' s (q:Nat) 50,none):=by unfold exprS;rw[if_pos hs,rdB_at ⟨f,this⟩]
    rw[h6,e];exact .inr (.inl ⟨hfail _ _ _ _ (by decide),hfail _ _ _ _ (by decide)⟩)
   ·rw[h6];refine .inr (.inr (.inr ⟨hfail _ _ _ _ (by decide),?_⟩));show (failS L n s (q:Nat) 50).pl=n;unfold failS;rw[if_pos hs];exact plc_end (by omega)
  ·refine .inr (.inl ⟨by rw[h6];exact hfail _ _ _ _ h7,?_⟩);obtain⟨f,hf⟩:=h5;rcases Nat.lt_or_ge q L.length with hq|hq
   ·have:=rd_loc hB _ _ _ _ hf hq;have e:exprS L' n' s=(failS L' n' s (s.k:Nat) (faultT t),none):=by unfold exprS;rw[if_pos hs,rdG_at ⟨f,this⟩ h7]
    rw[e];exact hfail _ _ _ _ h7
   ·obtain rfl:q=L.length:=by omega
    have hk':s.k≤L'.length:=by have:=H.len;omega
    rcases expr_ways L' n' s hs hk' with ⟨q',_,_,_,k6⟩|⟨t',q',_,_,_,k7,k6⟩|⟨t',q',_,_,⟨f',hf'⟩,k7,k6⟩
    ·rw[k6];exact hfail _ _ _ _ (by decide)
    ·rw[k6];exact hfail _ _ _ _ k7
    ·have g1:=rd_le hf (Nat.le_max_left f f');have g2:=rd_le hf' (Nat.le_max_right f f');have:=(rd_grow hB (max f f')).1 1 s.k t _ (by omega) g1 g2 t' q' rfl;exact absurd k7 (fault_grow this h7)
  ·rcases Nat.lt_or_ge q L.length with hq|hq
   ·obtain⟨f,hf⟩:=h5;have:=rd_loc hB _ _ _ _ hf hq;have e:exprS L' n' s=(⟨q,s.bad,s.pl⟩,some t):=by unfold exprS;rw[if_pos hs,rdO_at ⟨f,this⟩ h7];simp
    rw[h6,e];exact .inl ⟨hs,by show q≤L.length;omega,rfl⟩
   ·rw[h6];exact .inr (.inr (.inl ⟨hs,by show q=L.length;omega⟩))
end
theorem loop_bad {α:Type} {L:List TokE} {n:Nat} {it:S8→S8 × α} {s:S8} (h:s.bad≠0) (f:Nat) (l:List α):loopS L n it f s l=(s,l):=by
 cases f with
 | zero=>rfl
 | succ f=>rw[loopS,if_neg h]
theorem up_bad {α:Type} {L:List TokE} {it:S8→S8 × α} {s:S8} (h:s.bad≠0) (f:Nat) (l:List α):upS L it f s l=(s,l):=by
 cases f with
 | zero=>rfl
 | succ f=>rw[upS,if_neg h]
theorem amp_off {L:List TokE} {n:Nat} {s:S8} (h:isB L s ⟨#[38]⟩=false) (f:Nat) (l:List PartE):ampS L n f s l=(s,l):=by
 cases f with
 | zero=>rfl
 | succ f=>rw[ampS,if_neg (by rw[h];decide)]
section
variable {L L':List TokE} (H:BegL L L') {n n':Nat} {α:Type}
include H
theorem loop_J {it it':S8→S8 × α} (hi:PJ L n it it') (hl:∀ s,Le8 L s (it s).1) (hl':∀ s,Le8 L' s (it' s).1) :
  (∀ f s l,End8 L n s→End8 L n (loopS L n it f s l).1) ∧
  (∀ f f' s l,rem8 L s<f→rem8 L' s<f'→s.bad=0→s.k≤L.length→J2 L n (loopS L n it f s l) (loopS L' n' it' f' s l)):=by
 have he:∀ f s l,End8 L n s→End8 L n (loopS L n it f s l).1:=by
  intro f
  induction f with
  | zero=>intro s l h;exact h
  | succ f ih =>
   intro s l h;by_cases hb:s.bad=0
   ·rw[loopS,if_pos hb,if_neg (by rw[(isB_tst H _).off h];decide)];exact ih _ _ (hi.e _ ((want_J H (n':=n') _).e s h))
   ·rw[loop_bad hb];exact h
 refine⟨he,?_⟩;intro f
 induction f with
 | zero=>intro f' s l h;omega
 | succ f ih =>
  intro f' s l h h' hb hk;obtain⟨g,rfl⟩:∃ g,f'=g+1:=⟨f'-1,by omega⟩
  rcases Nat.lt_or_ge s.k L.length with hlt|hge
  ·have hsame:=(isB_tst H ⟨#[41]⟩).same s hb hlt;have hkl:s.k≤L'.length:=by have:=H.len;omega
   cases hc:isB L s ⟨#[41]⟩ with
   | true =>
    rw[loopS,loopS,if_pos hb,if_pos hb,if_pos hc,if_pos (by rw[← hc];exact hsame)];exact .inl ⟨hb,hlt,rfl⟩
   | false =>
    rw[loopS,loopS,if_pos hb,if_pos hb,if_neg (by rw[hc];decide),if_neg (by rw[show isB L' s ⟨#[41]⟩=false by rw[← hc];exact hsame];decide)];have hx:=((want_J H (n:=n) (n':=n') ⟨#[44]⟩).bind (fun _=>hi)).j s hb hk;have h1:Lt8 L s (it (wantS L n s ⟨#[44]⟩)).1:=(want_lt hb).trans (hl _);have h2:Lt8 L' s (it' (wantS L' n' s ⟨#[44]⟩)).1:=(want_lt hb).trans (hl' _);simp only at hx;rcases hx with ⟨x1,x2,x3⟩|⟨x1,x2⟩|x1
    ·rw[x3] at h2 ⊢;have r1:=(h1 hk).2;have r2:=(h2 hkl).2;exact ih g _ _ (by omega) (by omega) x1 x2
    ·rw[loop_bad x1,loop_bad x2];exact .inr (.inl ⟨x1,x2⟩)
    ·exact .inr (.inr (he _ _ _ x1))
  ·exact .inr (.inr (he _ _ _ (.inl ⟨hb,by omega⟩)))
theorem loops_J {it it':S8→S8 × α} (hi:PJ L n it it') (hl:∀ s,Le8 L s (it s).1) (hl':∀ s,Le8 L' s (it' s).1) (l:List α):PJ L n (fun s=>loopS L n it (fuel8 L) s l) (fun s=>loopS L' n' it' (fuel8 L') s l) where
 e s hs:=(loop_J H (n':=n') hi hl hl').1 _ _ _ hs
 b s hs:=by rw[loop_bad hs];exact hs
 b' s hs:=by rw[loop_bad hs];exact hs
 j s hs hk:=(loop_J H (n':=n') hi hl hl').2 _ _ _ _ (rem8_le _ _) (rem8_le _ _) hs hk
theorem list_J {it it':S8→S8 × α} (hi:PJ L n it it') (hl:∀ s,Le8 L s (it s).1) (hl':∀ s,Le8 L' s (it' s).1):PJ L n (listS L n it) (listS L' n' it') :=
 (want_J H (n:=n) (n':=n') ⟨#[40]⟩).bind (fun _=>PJ.cond (isB_tst H ⟨#[41]⟩) (fun s hs hk _=>next_J s hs hk ([]:List α)) (hi.bind (fun v=>loops_J H (n':=n') hi hl hl' [v])))
theorem args_J:PJ L n (argsS L n) (argsS L' n'):=list_J H (expr_J H) (fun _=>expr_le) (fun _=>expr_le)
theorem part_J:PJ L n (partS L n) (partS L' n') :=
 (word_J H (n:=n) (n':=n')).bind (fun a=>(list_J H (n':=n') (var_J H) (fun _=>var_le) (fun _=>var_le)).bind (fun b=>PJ.ret (⟨a,b⟩:PartE)))
theorem done_J:PJ L n (doneS L n) (doneS L' n'):=by
 have s1:PJ L n (fun s=>(fun s=>let b:=wordS L n (exprS L n s).1;let c:=argsS L n b.1;(c.1,(⟨1,(exprS L n s).2,b.2,eB,c.2⟩:ActE))) s) (fun s=>(fun s=>let b:=wordS L' n' (exprS L' n' s).1;let c:=argsS L' n' b.1;(c.1,(⟨1,(exprS L' n' s).2,b.2,eB,c.2⟩:ActE))) s) :=
  (expr_J H (n:=n) (n':=n')).bind (fun a=>(word_J H (n':=n')).bind (fun b=>(args_J H (n':=n')).bind (fun c=>PJ.ret (⟨1,a,b,eB,c⟩:ActE))))
 have s2:PJ L n (fun s=>(fun s=>let a:=wordS L n s;let b:=wordS L n (wantS L n a.1 ⟨#[97,115]⟩);(b.1,(⟨2,none,a.2,b.2,[]⟩:ActE))) s) (fun s=>(fun s=>let a:=wordS L' n' s;let b:=wordS L' n' (wantS L' n' a.1 ⟨#[97,115]⟩);(b.1,(⟨2,none,a.2,b.2,[]⟩:ActE))) s) :=
  (word_J H (n:=n) (n':=n')).bind (fun a=>(want_J H (n':=n') ⟨#[97,115]⟩).bind (fun _=>(word_J H (n':=n')).bind (fun b=>PJ.ret (⟨2,none,a,b,[]⟩:ActE))))
 have s3:PJ L n (fun s=>(fun s=>let c:=argsS L n s;(c.1,(⟨3,none,eB,eB,c.2⟩:ActE))) s) (fun s=>(fun s=>let c:=argsS L' n' s;(c.1,(⟨3,none,eB,eB,c.2⟩:ActE))) s) :=
  (args_J H (n:=n) (n':=n')).bind (fun c=>PJ.ret (⟨3,none,eB,eB,c⟩:ActE))
 have s4:PJ L n (fun s=>(fun s=>let a:=wordS L n s;(a.1,(⟨4,none,a.2,eB,[]⟩:ActE))) s) (fun s=>(fun s=>let a:=wordS L' n' s;(a.1,(⟨4,none,a.2,eB,[]⟩:ActE))) s) :=
  (word_J H (n:=n) (n':=n')).bind (fun a=>PJ.ret (⟨4,none,a,eB,[]⟩:ActE))
 exact PJ.cond (isB_tst H _) (fun s hs hk _=>s1.next s hs hk)
  (PJ.cond (isB_tst H _) (fun s hs hk _=>s2.next s hs hk)
   (PJ.cond (isB_tst H _) (fun s hs hk _=>s3.next s hs hk)
    (PJ.cond (isB_tst H _) (fun s hs hk _=>s4.next s hs hk) (PJ.fail 80 (by decide) (⟨0,none,eB,eB,[]⟩:ActE)))))
theorem amp_J:(∀ f s l,End8 L n s→End8 L n (ampS L n f s l).1) ∧
  (∀ f f' s l,rem8 L s<f→rem8 L' s<f'→s.bad=0→s.k≤L.length→J2 L n (ampS L n f s l) (ampS L' n' f' s l)):=by
 have he:∀ f s l,End8 L n s→End8 L n (ampS L n f s l).1:=fun f s l h=>by
  rw[amp_off ((isB_tst H _).off h)];exact h
 refine⟨he,?_⟩;intro f
 induction f with
 | zero=>intro f' s l h;omega
 | succ f ih =>
  intro f' s l h h' hb hk;obtain⟨g,rfl⟩:∃ g,f'=g+1:=⟨f'-1,by omega⟩
  rcases Nat.lt_or_ge s.k L.length with hlt|hge
  ·have hsame:=(isB_tst H ⟨#[38]⟩).same s hb hlt;have hkl:s.k≤L'.length:=by have:=H.len;omega
   cases hc:isB L s ⟨#[38]⟩ with
   | true =>
    have hc':isB L' s ⟨#[38]⟩=true:=by rw[← hc];exact hsame
    rw[ampS,ampS,if_pos hc,if_pos hc'];have hx:=(part_J H (n:=n) (n':=n')).next s hb hlt;have h1:Lt8 L s (partS L n (nextS s)).1:=(is_lt hc).trans part_le;have h2:Lt8 L' s (partS L' n' (nextS s)).1:=(is_lt hc').trans part_le;rcases hx with ⟨x1,x2,x3⟩|⟨x1,x2⟩|x1
    ·rw[x3] at h2 ⊢;have r1:=(h1 hk).2;have r2:=(h2 hkl).2;exact ih g _ _ (by omega) (by omega) x1 x2
    ·rw[amp_off (isB_bad x1),amp_off (isB_bad x2)];exact .inr (.inl ⟨x1,x2⟩)
    ·exact .inr (.inr (he _ _ _ x1))
   | false =>
    have hc':isB L' s ⟨#[38]⟩=false:=by rw[← hc];exact hsame
    rw[amp_off hc,amp_off hc'];exact .inl ⟨hb,hk,rfl⟩
  ·exact .inr (.inr (he _ _ _ (.inl ⟨hb,by omega⟩)))
theorem amps_J (l:List PartE):PJ L n (fun s=>ampS L n (fuel8 L) s l) (fun s=>ampS L' n' (fuel8 L') s l) where
 e s hs:=(amp_J H (n':=n')).1 _ _ _ hs
 b s hs:=by rw[amp_off (isB_bad hs)];exact hs
 b' s hs:=by rw[amp_off (isB_bad hs)];exact hs
 j s hs hk:=(amp_J H (n':=n')).2 _ _ _ _ (rem8_le _ _) (rem8_le _ _) hs hk
theorem guard_J (t:ByteArray):PJ L n (fun s=>if isB L s t then exprS L n (nextS s) else (s,none)) (fun s=>if isB L' s t then exprS L' n' (nextS s) else (s,none)) :=
 PJ.cond (isB_tst H t) (fun s hs hk _=>(expr_J H (n:=n) (n':=n')).next s hs hk) (PJ.ret none)
omit H in
theorem prog_bad {M:List TokE} {m:Nat} {s:S8} (h:s.bad≠0) (f:Nat) (p:ProgE):progS M m f s p=(s,p):=by
 cases f with
 | zero=>rfl
 | succ f=>rw[progS,if_neg (fun x=>h x.1)]
end
def Out8 (n:Nat) (s:S8):Prop:=s.bad≠0∧s.pl=n
def J3 (L:List TokE) (n:Nat) {α:Type} (x y:S8 × α):Prop:=(x.1.bad=0∧x.1.k≤L.length∧y=x)∨(x.1.bad≠0∧y.1.bad≠0)∨Out8 n x.1
structure PK (L:List TokE) (n:Nat) {α:Type} (f f':S8→S8 × α):Prop where
 b:∀ s,s.bad≠0→(f s).1.bad≠0
 b':∀ s,s.bad≠0→(f' s).1.bad≠0
 e3:∀ s,End8 L n s→Out8 n (f s).1
 j3:∀ s,s.bad=0→s.k≤L.length→J3 L n (f s) (f' s)
section
variable {L L':List TokE} {n n':Nat} {α β:Type}
theorem PJ.bindK {f f':S8→S8 × α} {g g':α→S8→S8 × β} (h:PJ L n f f') (hg:∀ v,PK L n (g v) (g' v)):PK L n (fun s=>g (f s).2 (f s).1) (fun s=>g' (f' s).2 (f' s).1) where
 b s hs:=(hg _).b _ (h.b s hs)
 b' s hs:=(hg _).b' _ (h.b' s hs)
 e3 s hs:=(hg _).e3 _ (h.e s hs)
 j3 s hs hk:=by
  rcases h.j s hs hk with ⟨h1,h2,h3⟩|⟨h1,h2⟩|h1
  ·show J3 L n (g (f s).2 (f s).1) (g' (f' s).2 (f' s).1);rw[h3];exact(hg _).j3 _ h1 h2
  ·exact .inr (.inl ⟨(hg _).b _ h1,(hg _).b' _ h2⟩)
  ·exact .inr (.inr ((hg _).e3 _ h1))
theorem PK.map {f f':S8→S8 × α} (h:PK L n f f') (g:α→β):PK L n (fun s=>((f s).1,g (f s).2)) (fun s=>((f' s).1,g (f' s).2)) where
 b:=h.b
 b':=h.b'
 e3:=h.e3
 j3 s hs hk:=by
  rcases h.j3 s hs hk with ⟨h1,h2,h3⟩|h|h
  ·exact .inl ⟨h1,h2,by rw[h3]⟩
  ·exact .inr (.inl h)
  ·exact .inr (.inr h)
variable (H:BegL L L')
include H
theorem want_K (t:ByteArray):PK L n (fun s=>(wantS L n s t,())) (fun s=>(wantS L' n' s t,())) where
 b:=(want_J H (n:=n) (n':=n') t).b
 b':=(want_J H (n:=n) (n':=n') t).b'
 e3 s hs:=by
  have h2:=(want_J H (n:=n) (n':=n') t).e s hs;rcases h2 with ⟨h3,_⟩|h3
  ·exfalso;have hc:isB L s t=false:=(isB_tst H t).off hs;replace h3:(wantS L n s t).bad=0:=h3;unfold wantS failS at h3;rw[hc,if_neg (by decide)] at h3;rcases hs with ⟨h,_⟩|⟨h,_⟩
   ·rw[if_pos h] at h3;exact absurd h3 (show ¬ (80:Int)=0 by decide)
   ·rw[if_neg h] at h3;exact h h3
  ·exact h3
 j3 s hs hk:=by
  rcases Nat.lt_or_ge s.k L.length with hlt|hge
  ·have hsame:isB L' s t=isB L s t:=(isB_tst H t).same s hs hlt;unfold wantS;rw[hsame];cases hc:isB L s t with
   | true=>exact .inl ⟨hs,hlt,rfl⟩
   | false =>
    refine .inr (.inl ⟨?_,?_⟩)
    ·show (failS L n s s.k 80).bad≠0;unfold failS;rw[if_pos hs];exact(show (80:Int)≠0 by decide)
    ·show (failS L' n' s s.k 80).bad≠0;unfold failS;rw[if_pos hs];exact(show (80:Int)≠0 by decide)
  ·have hc:isB L s t=false:=(isB_tst H t).far s hge;refine .inr (.inr ?_);show Out8 n (wantS L n s t);unfold wantS failS;rw[hc,if_neg (by decide),if_pos hs];exact⟨show (80:Int)≠0 by decide,plc_end (by omega)⟩
theorem tag_K:PK L n (tagS L n) (tagS L' n') :=
 (word_J H (n:=n) (n':=n')).bindK (fun a=>(list_J H (n':=n') (kind_J H) (fun _=>kind_le) (fun _=>kind_le)).bindK (fun b=>(want_K H (n':=n') ⟨#[59]⟩).map (fun _=>(⟨a,b⟩:TagE))))
theorem act_K:PK L n (actS L n) (actS L' n'):=(done_J H (n:=n) (n':=n')).bindK (fun a=>(want_K H (n':=n') ⟨#[59]⟩).map (fun _=>a))
theorem ups_K {it it':S8→S8 × α} (hi:PK L n it it') (hl:∀ s,s.bad=0→Lt8 L s (it s).1) (hl':∀ s,s.bad=0→Lt8 L' s (it' s).1) (l:List α):PK L n (fun s=>upS L it (fuel8 L) s l) (fun s=>upS L' it' (fuel8 L') s l):=by
 have he:∀ f s l,rem8 L s<f→End8 L n s→Out8 n (upS L it f s l).1:=by
  intro f s l hf h;obtain⟨g,rfl⟩:∃ g,f=g+1:=⟨f-1,by omega⟩
  by_cases hb:s.bad=0
  ·have hx:=hi.e3 s h;rw[upS,if_pos hb,if_neg (by rw[(isB_tst H _).off h];decide),up_bad hx.1];exact hx
  ·rw[up_bad hb];rcases h with ⟨h,_⟩|h
   ·exact absurd h hb
   ·exact h
 have hj:∀ f f' s l,rem8 L s<f→rem8 L' s<f'→s.bad=0→s.k≤L.length→J3 L n (upS L it f s l) (upS L' it' f' s l):=by
  intro f
  induction f with
  | zero=>intro f' s l h;omega
  | succ f ih =>
   intro f' s l h h' hb hk;obtain⟨g,rfl⟩:∃ g,f'=g+1:=⟨f'-1,by omega⟩
   rcases Nat.lt_or_ge s.k L.length with hlt|hge
   ·have hsame:=(isB_tst H ⟨#[125]⟩).same s hb hlt;have hkl:s.k≤L'.length:=by have:=H.len;omega
    cases hc:isB L s ⟨#[125]⟩ with
    | true =>
     rw[upS,upS,if_pos hb,if_pos hb,if_pos hc,if_pos (by rw[← hc];exact hsame)];exact .inl ⟨hb,hlt,rfl⟩
    | false =>
     rw[upS,upS,if_pos hb,if_pos hb,if_neg (by rw[hc];decide),if_neg (by rw[show isB L' s ⟨#[125]⟩=false by rw[← hc];exact hsame];decide)];have hx:=hi.j3 s hb hk;have h1:=hl s hb;have h2:=hl' s hb;rcases hx with ⟨x1,x2,x3⟩|⟨x1,x2⟩|x1
     ·rw[x3] at h2 ⊢;have r1:=(h1 hk).2;have r2:=(h2 hkl).2;exact ih g _ _ (by omega) (by omega) x1 x2
     ·rw[up_bad x1,up_bad x2];exact .inr (.inl ⟨x1,x2⟩)
     ·rw[up_bad x1.1];exact .inr (.inr x1)
   ·exact .inr (.inr (he _ _ _ h (.inl ⟨hb,by omega⟩)))
 exact⟨fun s hs=>by rw[up_bad hs];exact hs,fun s hs=>by rw[up_bad hs];exact hs,fun s hs=>he _ _ _ (rem8_le _ _) hs,fun s hs hk=>hj _ _ _ _ (rem8_le _ _) (rem8_le _ _) hs hk⟩
theorem chord_K:PK L n (chordS L n) (chordS L' n') :=
 (want_J H (n:=n) (n':=n') ⟨#[99,104,111,114,100]⟩).bindK (fun _=>(word_J H (n':=n')).bindK (fun a=>(want_J H (n':=n') ⟨#[58]⟩).bindK (fun _=>(part_J H (n':=n')).bindK (fun b =>
  (amps_J H (n':=n') [b]).bindK (fun c=>(guard_J H (n':=n') ⟨#[119,104,101,110]⟩).bindK (fun g=>(want_J H (n':=n') ⟨#[123]⟩).bindK (fun _ =>
   (ups_K H (act_K H (n':=n')) (fun _ h=>act_lt h) (fun _ h=>act_lt h) []).map (fun d=>(⟨a,c,g,d⟩:ChordE)))))))))
theorem kindD_K:PK L n (kindDS L n) (kindDS L' n') :=
 (want_J H (n:=n) (n':=n') ⟨#[107,105,110,100]⟩).bindK (fun _=>(word_J H (n':=n')).bindK (fun a=>(want_J H (n':=n') ⟨#[123]⟩).bindK (fun _ =>
  (ups_K H (chord_K H (n':=n')) (fun _ h=>chord_lt h) (fun _ h=>chord_lt h) []).map (fun d=>(⟨a,d⟩:KindE)))))
theorem prog_J:∀ (f f':Nat) (s:S8) (p:ProgE),rem8 L s<f→rem8 L' s<f'→s.bad=0→s.k≤L.length →
  ((progS L n f s p).1.bad≠0∧((progS L' n' f' s p).1.bad≠0∨(progS L n f s p).1.pl=n)) ∨
  ((progS L n f s p).1.bad=0∧(progS L n f s p).1.k=L.length∧∃ g,rem8 L' (progS L n f s p).1<g∧progS L' n' f' s p=progS L' n' g (progS L n f s p).1 (progS L n f s p).2):=by
 intro f
 induction f with
 | zero=>intro f' s p h;omega
 | succ f ih =>
  intro f' s p h h' hb hk;obtain⟨g,rfl⟩:∃ g,f'=g+1:=⟨f'-1,by omega⟩
  rcases Nat.lt_or_ge s.k L.length with hlt|hge
  ·have hkl:s.k≤L'.length:=by have:=H.len;omega
   have hkl2:s.k<L'.length:=by have:=H.len;omega
   have hsame:=(isB_tst H ⟨#[116,97,103]⟩).same s hb hlt;have step:∀ {γ:Type} (x y:S8 × γ) (F:γ→ProgE),J3 L n x y→Lt8 L s x.1→Lt8 L' s y.1 →
     ((progS L n f x.1 (F x.2)).1.bad≠0∧((progS L' n' g y.1 (F y.2)).1.bad≠0∨(progS L n f x.1 (F x.2)).1.pl=n)) ∨
     ((progS L n f x.1 (F x.2)).1.bad=0∧(progS L n f x.1 (F x.2)).1.k=L.length∧∃ g',rem8 L' (progS L n f x.1 (F x.2)).1<g'∧progS L' n' g y.1 (F y.2)=progS L' n' g' (progS L n f x.1 (F x.2)).1 (progS L n f x.1 (F x.2)).2):=fun x y F hx h1 h2=>by
    rcases hx with ⟨x1,x2,rfl⟩|⟨x1,x2⟩|⟨x1,x2⟩
    ·have r1:=(h1 hk).2;have r2:=(h2 hkl).2;exact ih g y.1 (F y.2) (by omega) (by omega) x1 x2
    ·rw[prog_bad x1,prog_bad x2];exact .inl ⟨x1,.inl x2⟩
    ·rw[prog_bad x1];exact .inl ⟨x1,.inr x2⟩
   cases hc:isB L s ⟨#[116,97,103]⟩ with
   | true =>
    have hc':isB L' s ⟨#[116,97,103]⟩=true:=by rw[← hc];exact hsame
    have eA:progS L n (f+1) s p=progS L n f (tagS L n (nextS s)).1 ⟨p.tags++[(tagS L n (nextS s)).2],p.kinds⟩:=by rw[progS,if_pos ⟨hb,hlt⟩,if_pos hc]
    have eB:progS L' n' (g+1) s p=progS L' n' g (tagS L' n' (nextS s)).1 ⟨p.tags++[(tagS L' n' (nextS s)).2],p.kinds⟩:=by rw[progS,if_pos ⟨hb,hkl2⟩,if_pos hc']
    rw[eA,eB];exact step (tagS L n (nextS s)) (tagS L' n' (nextS s)) (fun v=>⟨p.tags++[v],p.kinds⟩) ((tag_K H (n:=n) (n':=n')).j3 (nextS s) hb hlt) ((is_lt hc).trans tag_le) ((is_lt hc').trans tag_le)
   | false =>
    have hc':isB L' s ⟨#[116,97,103]⟩=false:=by rw[← hc];exact hsame
    have eA:progS L n (f+1) s p=progS L n f (kindDS L n s).1 ⟨p.tags,p.kinds++[(kindDS L n s).2]⟩:=by rw[progS,if_pos ⟨hb,hlt⟩,if_neg (by rw[hc];decide)]
    have eB:progS L' n' (g+1) s p=progS L' n' g (kindDS L' n' s).1 ⟨p.tags,p.kinds++[(kindDS L' n' s).2]⟩:=by rw[progS,if_pos ⟨hb,hkl2⟩,if_neg (by rw[hc'];decide)]
    rw[eA,eB];exact step (kindDS L n s) (kindDS L' n' s) (fun v=>⟨p.tags,p.kinds++[v]⟩) ((kindD_K H (n:=n) (n':=n')).j3 s hb hk) (kindD_lt hb) (kindD_lt hb)
  ·have e:progS L n (f+1) s p=(s,p):=by rw[progS,if_neg (fun x=>by omega)]
   rw[e];exact .inr ⟨hb,by show s.k=L.length;omega,g+1,h',rfl⟩
end
end Go.Proofs.YtkpboalccpancaaGreatDoor
