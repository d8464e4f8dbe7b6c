import Derived.Test.YtenlhcgpajphhaaGreatDoorMQuotePlain
import Derived.Test.YtenlhcgpajphhaaGreatDoorRealsPlain
import Derived.Test.YtenlhcgpajphhaaGreatDoorMNextPlain
import Derived.Test.YtenlhcgpajphhaaGreatDoorMEpScan
import Derived.Lib.TrailingZeros
namespace Go.Proofs.YtenlhcgpajphhaaGreatDoor
open Go.RowKit
set_option linter.all false
def qdG:Ex→Nat
 | .lf _=>7
 | .un k _=>qb3 k
 | .bi k _ _=>qb3 k
def brX (lv:Nat) (t:Ex) (xs:List Cl):List Cl:=if lv≤qdG t then xs else .mark [40] :: (xs++[.mark [41]])
def qaZ:Ex→List Cl
 | .lf l=>[.leaf l]
 | .un k a=>if qb3 k=7 then .word k :: .mark [40] :: (qaZ a++[.mark [41]]) else .mark (qcF k) :: brX (qeN (qb3 k) false) a (qaZ a)
 | .bi k a b=>if qb3 k=7 then .word k :: .mark [40] :: (qaZ a++.mark [44] :: (qaZ b++[.mark [41]]))
  else brX (qeN (qb3 k) false) a (qaZ a)++.mark (qcF k) :: brX (qeN (qb3 k) true) b (qaZ b)
def At8 (g:Nat→Cl) (p:Nat) (xs:List Cl):Prop:=∀ (i:Nat) (c:Cl),xs[i]?=some c→g (p+i)=c
theorem At8.head {g:Nat→Cl} {p:Nat} {c:Cl} {xs:List Cl} (h:At8 g p (c :: xs)):g p=c:=h 0 c rfl
theorem At8.tail {g:Nat→Cl} {p:Nat} {c:Cl} {xs:List Cl} (h:At8 g p (c :: xs)):At8 g (p+1) xs:=fun i d hd=>by
 have:=h (i+1) d (by simpa using hd)
 rwa [show p+(i+1)=p+1+i by omega] at this
theorem At8.left {g:Nat→Cl} {p:Nat} {xs ys:List Cl} (h:At8 g p (xs++ys)):At8 g p xs:=fun i c hc=>h i c (by rw[List.getElem?_append_left (List.getElem?_eq_some_iff.1 hc).1];exact hc)
theorem At8.right {g:Nat→Cl} {p:Nat} {xs ys:List Cl} (h:At8 g p (xs++ys)):At8 g (p+xs.length) ys:=fun i c hc=>by
 have:=h (xs.length+i) c (by rw[List.getElem?_append_right (by omega),Nat.add_sub_cancel_left];exact hc)
 rwa [← Nat.add_assoc] at this
theorem qgB:∀ k:Nat,k<27→qeJ k=1→((k=3∨k=4)∧qb3 k=6)∨(qb3 k=7∧wdN k=1):=by
 have:∀ k:Fin 27,qeJ k.val=1→((k.val=3∨k.val=4)∧qb3 k.val=6)∨(qb3 k.val=7∧wdN k.val=1):=by decide
 exact fun k hk=>this ⟨k,hk⟩
theorem qpY:∀ k:Nat,k<27→qeJ k=2→(qb3 k=7∧wdN k=2)∨(1≤qb3 k∧qb3 k≤5∧opK (qcF k)=k∧opL k=qb3 k):=by
 have:∀ k:Fin 27,qeJ k.val=2→(qb3 k.val=7∧wdN k.val=2)∨(1≤qb3 k.val∧qb3 k.val≤5∧opK (qcF k.val)=k.val∧opL k.val=qb3 k.val):=by decide
 exact fun k hk=>this ⟨k,hk⟩
def q9V (n:Nat) (t:Ex) (c:Cl):Prop:=opL (clK c)≤n∧(n=3→qdG t=3→opL (clK c)≠3)
theorem qsP {g:Nat→Cl} {p q:Nat} {t:Ex}:∀ (d n:Nat) (r:Rs),Rd g (.lvl (n+1+d)) p (.ok t q)→1≤n→n+d≤5→opL (clK (g q))≤n→Rd g (.loop n t) q r→Rd g (.lvl n) p r:=by
 intro d
 induction d with
 | zero=>intro n r h h1 h2 _ hl;exact Rd.lvl h1 (by omega) (.inr ⟨t,q,h,hl⟩)
 | succ d ih =>
  intro n r h h1 h2 ho hl;have:=ih (n+1) (.ok t q) (by rw[show n+1+1+d=n+1+(d+1) by omega];exact h) (by omega) (by omega) (by omega) (Rd.stop (by omega));exact Rd.lvl h1 (by omega) (.inr ⟨t,q,this,hl⟩)
structure Back (g:Nat→Cl) (t:Ex) (n:Nat):Prop where
 six:∀ p,At8 g p (qaZ t)→6≤qdG t→Rd g (.lvl 6) p (.ok t (p+n))
 sev:∀ p,At8 g p (qaZ t)→7≤qdG t→Rd g (.lvl 7) p (.ok t (p+n))
 low:∀ p m r,At8 g p (qaZ t)→1≤m→m≤5→m≤qdG t→q9V m t (g (p+n))→Rd g (.loop m t) (p+n) r→Rd g (.lvl m) p r
theorem Back.whole {g:Nat→Cl} {t:Ex} (h:Back g t (qaZ t).length) (hw:qdG t≤7) {p:Nat} (ha:At8 g p (qaZ t)) (h0:1≤qdG t) (ho:opL (clK (g (p+(qaZ t).length)))=0):Rd g (.lvl 1) p (.ok t (p+(qaZ t).length)) :=
 h.low p 1 _ ha (by omega) (by omega) h0 ⟨by omega,fun h=>by omega⟩ (Rd.stop (by omega))
theorem Back.br {g:Nat→Cl} {t:Ex} {lv:Nat} (h:Back g t (qaZ t).length) (h0:1≤qdG t) (hlv:lv≤6) :
  (∀ p,At8 g p (brX lv t (qaZ t))→lv=6→Rd g (.lvl 6) p (.ok t (p+(brX lv t (qaZ t)).length))) ∧
  ∀ p m r,At8 g p (brX lv t (qaZ t))→1≤m→m≤5→m≤lv→q9V m t (g (p+(brX lv t (qaZ t)).length))→Rd g (.loop m t) (p+(brX lv t (qaZ t)).length) r→Rd g (.lvl m) p r:=by
 unfold brX;by_cases hb:lv≤qdG t
 ·rw[if_pos hb];exact⟨fun p ha h6=>h.six p ha (by omega),fun p m r ha h1 h5 hm hf hl=>h.low p m r ha h1 h5 (by omega) hf hl⟩
 ·rw[if_neg hb];have key:∀ p,At8 g p (.mark [40] :: (qaZ t++[.mark [41]]))→Rd g (.lvl 6) p (.ok t (p+(Cl.mark [40] :: (qaZ t++[Cl.mark [41]])).length)):=by
   intro p ha;have hp:=ha.head;have hq:g (p+1+(qaZ t).length)=.mark [41]:=ha.tail.right.head;refine Rd.six (by rw[hp];decide) (Rd.bracket hp (.inr ⟨t,p+1+(qaZ t).length,?_,?_⟩))
   ·exact h.low (p+1) 1 _ ha.tail.left (by omega) (by omega) h0 ⟨by rw[hq];decide,fun h=>by omega⟩ (Rd.stop (by rw[hq];decide))
   ·dsimp only
    rw[hq,if_pos (by decide),show (Cl.mark [40] :: (qaZ t++[Cl.mark [41]])).length=(qaZ t).length+2 by simp]
    congr 1
    omega
  exact⟨fun p ha _=>key p ha,fun p m r ha h1 h5 hm hf hl=>qsP (5-m) m r (by rw[show m+1+(5-m)=6 by omega];exact key p ha) h1 (by omega) hf.1 hl⟩
theorem qtX:∀ {t:Ex},WfT t→1≤qdG t∧qdG t≤7
 | .lf _,_=>by show 1≤7∧7≤7;decide
 | .un k a,h=>by rcases qgB k h.1 h.2.1 with ⟨_,h⟩|⟨h,_⟩ <;> (show 1≤qb3 k∧qb3 k≤7;omega)
 | .bi k a b,h=>by rcases qpY k h.1 h.2.1 with ⟨h,_⟩|⟨h,h2,_⟩ <;> (show 1≤qb3 k∧qb3 k≤7;omega)
theorem qj7 {g:Nat→Cl} {t:Ex} {n:Nat} (h6:∀ p,At8 g p (qaZ t)→Rd g (.lvl 6) p (.ok t (p+n))) (h7:∀ p,At8 g p (qaZ t)→7≤qdG t→Rd g (.lvl 7) p (.ok t (p+n))):Back g t n :=
 ⟨fun p ha _=>h6 p ha,h7,fun p m r ha h1 h5 _ hf hl=>qsP (5-m) m r (by rw[show m+1+(5-m)=6 by omega];exact h6 p ha) h1 (by omega) hf.1 hl⟩
theorem q9E (g:Nat→Cl):∀ t:Ex,WfT t→Back g t (qaZ t).length:=by
 intro t
 induction t with
 | lf l =>
  intro _;have h7:∀ p,At8 g p (qaZ (.lf l))→Rd g (.lvl 7) p (.ok (.lf l) (p+1)):=fun p ha=>Rd.leaf ha.head;exact qj7 (fun p ha=>Rd.six (by rw[ha.head];rfl) (h7 p ha)) (fun p ha _=>h7 p ha)
 | un k a ih =>
  intro hw;obtain⟨hk,hc,ha⟩:=hw;have iha:=ih ha;obtain⟨t1,t7⟩:=qtX ha;rcases qgB k hk hc with ⟨hs,hl⟩|⟨hl,hn⟩
  ·have hsg:sgK (.mark (qcF k))=k:=by rcases hs with rfl|rfl <;> decide
   have hlow:qeN (qb3 k) false=6:=by rw[hl];decide
   have h6:∀ p,At8 g p (qaZ (.un k a))→Rd g (.lvl 6) p (.ok (.un k a) (p+(qaZ (.un k a)).length)):=by
    intro p hat;rw[qaZ,if_neg (by omega),hlow] at hat ⊢;have hg:=hat.head;have h0:sgK (g p)≠0:=by rw[hg,hsg];rcases hs with rfl|rfl <;> decide
    refine Rd.sign h0 (.inr ⟨a,p+1+(brX 6 a (qaZ a)).length,(iha.br t1 (Nat.le_refl 6)).1 (p+1) hat.tail rfl,?_⟩)
    dsimp only
    rw[hg,hsg,List.length_cons]
    congr 1
    omega
   exact qj7 h6 (fun p hat h7=>by have:qdG (.un k a)=qb3 k:=rfl;omega)
  ·have h7:∀ p,At8 g p (qaZ (.un k a))→Rd g (.lvl 7) p (.ok (.un k a) (p+(qaZ (.un k a)).length)):=by
    intro p hat;rw[qaZ,if_pos hl] at hat ⊢;have hb:=hat.tail.head;have hq:g (p+1+1+(qaZ a).length)=.mark [41]:=hat.tail.tail.right.head;refine Rd.word hat.head ?_;rw[hb,if_pos (by decide)];refine .inr ⟨a,p+1+1+(qaZ a).length,iha.whole t7 hat.tail.tail.left t1 (by rw[hq];decide),?_⟩
    dsimp only
    rw[if_pos hn,hq,if_pos (by decide)];simp only[List.length_cons,List.length_append,List.length_nil]
    congr 1
    omega
   exact qj7 (fun p hat=>Rd.six (by rw[qaZ,if_pos hl] at hat;rw[hat.head];rfl) (h7 p hat)) (fun p hat _=>h7 p hat)
 | bi k a b iha ihb =>
  intro hw;obtain⟨hk,hc,ha,hb⟩:=hw;have iha:=iha ha;have ihb:=ihb hb;obtain⟨s1,s7⟩:=qtX ha;obtain⟨t1,t7⟩:=qtX hb;rcases qpY k hk hc with ⟨hl,hn⟩|⟨l1,l5,hop,hol⟩
  ·have h7:∀ p,At8 g p (qaZ (.bi k a b))→Rd g (.lvl 7) p (.ok (.bi k a b) (p+(qaZ (.bi k a b)).length)):=by
    intro p hat;rw[qaZ,if_pos hl] at hat ⊢;have hb:=hat.tail.head;have hq:g (p+1+1+(qaZ a).length)=.mark [44]:=hat.tail.tail.right.head;have hq2:g (p+1+1+(qaZ a).length+1+(qaZ b).length)=.mark [41]:=hat.tail.tail.right.tail.right.head;refine Rd.word hat.head ?_;rw[hb,if_pos (by decide)];refine .inr ⟨a,p+1+1+(qaZ a).length,iha.whole s7 hat.tail.tail.left s1 (by rw[hq];decide),?_⟩
    dsimp only
    rw[if_neg (by omega),hq,if_pos (by decide)];refine .inr ⟨b,p+1+1+(qaZ a).length+1+(qaZ b).length,ihb.whole t7 hat.tail.tail.right.tail.left t1 (by rw[hq2];decide),?_⟩
    dsimp only
    rw[hq2,if_pos (by decide)];simp only[List.length_cons,List.length_append,List.length_nil]
    congr 1
    omega
   exact qj7 (fun p hat=>Rd.six (by rw[qaZ,if_pos hl] at hat;rw[hat.head];rfl) (h7 p hat)) (fun p hat _=>h7 p hat)
  ·
   have htop:qdG (.bi k a b)=qb3 k:=rfl;have hlowA:qeN (qb3 k) false≤5∧qb3 k≤qeN (qb3 k) false∧(qb3 k≠3→qeN (qb3 k) false=qb3 k)∧(qb3 k=3→qeN (qb3 k) false=4):=by
    unfold qeN;by_cases h3:qb3 k=3
    ·rw[if_pos (.inr h3)];omega
    ·rw[if_neg (by simp[h3])];omega
   have hlowB:qeN (qb3 k) true=qb3 k+1:=by unfold qeN;rw[if_pos (.inl rfl)]
   have brA:=iha.br (lv:=qeN (qb3 k) false) s1 (by omega);have brB:=ihb.br (lv:=qeN (qb3 k) true) t1 (by omega);generalize hxa:brX (qeN (qb3 k) false) a (qaZ a)=xa at brA;generalize hxb:brX (qeN (qb3 k) true) b (qaZ b)=xb at brB;have htk:qaZ (.bi k a b)=xa++.mark (qcF k) :: xb:=by rw[qaZ,if_neg (by omega),hxa,hxb]
   have hlen:(qaZ (.bi k a b)).length=xa.length+1+xb.length:=by rw[htk,List.length_append,List.length_cons];omega
   have own:∀ p r,At8 g p (qaZ (.bi k a b))→q9V (qb3 k) (.bi k a b) (g (p+(qaZ (.bi k a b)).length))→Rd g (.loop (qb3 k) (.bi k a b)) (p+(qaZ (.bi k a b)).length) r→Rd g (.lvl (qb3 k)) p r:=by
    intro p r hat hf hl;rw[hlen,show p+(xa.length+1+xb.length)=p+xa.length+1+xb.length by omega] at hf hl;rw[htk] at hat;have hg:g (p+xa.length)=.mark (qcF k):=hat.right.head;have hgk:clK (g (p+xa.length))=k:=by rw[hg];exact hop
    have hB:Rd g (.lvl (qb3 k+1)) (p+xa.length+1) (.ok b (p+xa.length+1+xb.length)):=by
     by_cases h5:qb3 k=5
     ·have:=brB.1 (p+xa.length+1) hat.right.tail (by omega);rw[h5];exact this
     ·refine brB.2 (p+xa.length+1) (qb3 k+1) _ hat.right.tail (by omega) (by omega) (by omega) ⟨by have:=hf.1;omega,fun h3 ht=>by have:=hf.1;omega⟩ (Rd.stop (by have:=hf.1;omega))
    have hmore:Rd g (.loop (qb3 k) a) (p+xa.length) r:=by
     refine Rd.more (by rw[hgk,hol]) (.inr ⟨b,_,hB,?_⟩)
     dsimp only
     rw[hgk];by_cases h3:qb3 k=3
     ·rw[if_pos h3];exact hl.one (Rd.stop (by rw[h3];exact hf.2 h3 (htop.trans h3)))
     ·rw[if_neg h3];exact hl
    by_cases h3:qb3 k=3
    ·have hA:Rd g (.lvl 4) p (.ok a (p+xa.length)):=brA.2 p 4 _ hat.left (by omega) (by omega) (by have:=hlowA.2.2.2 h3;omega) ⟨by rw[hgk,hol];omega,fun h=>by omega⟩ (Rd.stop (by rw[hgk,hol];omega));rw[h3] at hmore ⊢;exact Rd.lvl (by omega) (by omega) (.inr ⟨a,_,hA,hmore⟩)
    ·exact brA.2 p (qb3 k) r hat.left l1 l5 (by omega) ⟨by rw[hgk,hol];omega,fun h=>absurd h h3⟩ hmore
   refine⟨fun p _ h=>by omega,fun p _ h=>by omega,fun p m r hat h1 h5 hm hf hl=>?_⟩;rw[htop] at hm;rcases Nat.lt_or_ge m (qb3 k) with hlt|hge
   ·have:=own p (.ok (.bi k a b) _) hat ⟨by have:=hf.1;omega,fun h3 _=>by have:=hf.1;omega⟩ (Rd.stop (by have:=hf.1;omega));exact qsP (qb3 k-m-1) m r (by rw[show m+1+(qb3 k-m-1)=qb3 k by omega];exact this) h1 (by omega) hf.1 hl
   ·obtain rfl:m=qb3 k:=by omega
    exact own p r hat hf hl
def Fol (kd:Nat) (pc R:List UInt8):Prop:=(kd=1∨kd=2∨kd=3→qaJ (bAt R 0)=false)∧(kd=5→pc.length=1→qaP (bAt pc 0) (bAt R 0)=false)
def qmK (pc:List UInt8) (kd:Nat) (tx:List UInt8) (iv:Int) (rl:Nat):Prop :=
 0<pc.length∧qc6 (bAt pc 0)=false∧bAt pc 0≠35∧∀ (l:List UInt8) (A:Nat) (R:List UInt8),l.drop A=pc++R→Fol kd pc R→qaR l A=(⟨kd,tx,iv,rl,A,pc.length⟩,0)
theorem q5D {l:List UInt8} {A:Nat} {pc R:List UInt8} (h:l.drop A=pc++R) (hp:0<pc.length):A+pc.length≤l.length:=by
 have:=congrArg List.length h;simp at this;omega
theorem qe3 {l:List UInt8} {A:Nat} {pc R:List UInt8} (h:l.drop A=pc++R) (i:Nat) (hi:i<pc.length):bAt l (A+i)=bAt pc i:=by
 rw[← qdP,h];unfold bAt;rw[List.getElem?_append_left hi]
theorem qd6 {l:List UInt8} {A:Nat} {pc R:List UInt8} (h:l.drop A=pc++R) (i:Nat):bAt l (A+pc.length+i)=bAt R i:=by
 rw[Nat.add_assoc,← qdP,h];unfold bAt;rw[List.getElem?_append_right (by omega),Nat.add_sub_cancel_left]
theorem qf5 {l:List UInt8} {A:Nat} {pc R:List UInt8} (h:l.drop A=pc++R):qa2 l A (A+pc.length)=pc:=by
 unfold qa2;rw[h,Nat.add_sub_cancel_left,List.take_left'];rfl
theorem qjM {l:List UInt8} {A K n:Nat} {tx:List UInt8} {iv:Int} {rl:Nat} (hs:qaD l A=(K,A+n)) (hb:qcC l K A (A+n)=(tx,iv,rl,0)) (hw:K=2∨K=3→qaJ (bAt l (A+n))=false):qaR l A=(⟨K,tx,iv,rl,A,n⟩,0):=by
 have hf:qcH l K A (A+n)=0:=by
  unfold qcH;rw[if_neg (fun h=>by rw[hw h.1] at h;cases h.2),hb]
 unfold qaR;rw[hs];simp only;rw[if_neg (by rw[hf];simp),hb,Nat.add_sub_cancel_left]
theorem qhZ {c:UInt8} (h:qa8 c=true):qaJ c=true∧qc6 c=false∧c≠35:=by
 have hb:=ql5 c (.inl h);exact⟨by unfold qaJ;rw[h];rfl,hb.1,hb.2⟩
theorem qf6 {c:UInt8} (h:qa1 c=true):qaJ c=true∧qc6 c=false∧c≠35∧qa8 c=false:=by
 have hb:=ql5 c (.inr (.inl h));refine⟨by unfold qaJ;rw[h];simp,hb.1,hb.2,?_⟩;unfold qa1 at h;unfold qa8;have:=of_decide_eq_true h;simp;omega
theorem qoU {pc:List UInt8} (h0:qa8 (bAt pc 0)=true) (hw:∀ c ∈ pc,qaJ c=true) (hl:pc.length≤32):qmK pc 1 pc 0 0:=by
 have hp:0<pc.length:=by
  rcases Nat.eq_zero_or_pos pc.length with h|h
  ·rw[List.eq_nil_of_length_eq_zero h] at h0;exact absurd h0 (by decide)
  ·exact h
 obtain⟨_,h2,h3⟩:=qhZ h0;refine⟨hp,h2,h3,fun l A R hd hf=>?_⟩;have e0:bAt l A=bAt pc 0:=qe3 hd 0 hp;have htw:tw qaJ l (A+1)=pc.length-1:=by
  refine qwQ ja0 (pc.length-1) (A+1) (fun i hi=>?_) ?_
  ·rw[show A+1+i=A+(1+i) by omega,qe3 hd (1+i) (by omega)];exact hw _ (by rw[qeT (by omega)];exact List.getElem_mem _)
  ·rw[show A+1+(pc.length-1)=A+pc.length+0 by omega,qd6 hd 0];exact hf.1 (.inl rfl)
 have hs:qaD l A=(1,A+pc.length):=by
  unfold qaD;rw[e0,if_pos h0,htw,show A+1+(pc.length-1)=A+pc.length by omega]
 refine qjM hs ?_ (fun h=>by omega);unfold qcC;rw[if_pos rfl,if_pos (by omega),qf5 hd]
theorem jaP {v:Nat} (hv:v<9223372036854775808):qmK (Lib.decDigits v) 2 [] (v:Int) 0:=by
 have hp:0<(Lib.decDigits v).length:=List.length_pos_iff.2 (qrX v);have hdig:∀ i,i<(Lib.decDigits v).length→qa1 (bAt (Lib.decDigits v) i)=true:=fun i hi=>qj2 _ (by rw[qeT hi];exact List.getElem_mem _);obtain⟨_,h2,h3,h4⟩:=qf6 (hdig 0 hp);refine⟨hp,h2,h3,fun l A R hd hf=>?_⟩;have hR:qaJ (bAt R 0)=false:=hf.1 (.inr (.inl rfl));have e0:bAt l A=bAt (Lib.decDigits v) 0:=qe3 hd 0 hp;have eE:bAt l (A+(Lib.decDigits v).length)=bAt R 0:=qd6 hd 0;have hdR:qa1 (bAt R 0)=false:=by
  cases h:qa1 (bAt R 0) with
  | false=>rfl
  | true=>rw[(qf6 h).1] at hR;cases hR
 have htw:tw qa1 l (A+1)=(Lib.decDigits v).length-1:=by
  refine qwQ qg5 _ (A+1) (fun i hi=>?_) ?_
  ·rw[show A+1+i=A+(1+i) by omega,qe3 hd (1+i) (by omega)];exact hdig _ (by omega)
  ·rw[show A+1+((Lib.decDigits v).length-1)=A+(Lib.decDigits v).length by omega,eE];exact hdR
 have hs:qaD l A=(2,A+(Lib.decDigits v).length):=by
  unfold qaD;rw[e0,h4,hdig 0 hp,htw,show A+1+((Lib.decDigits v).length-1)=A+(Lib.decDigits v).length by omega];simp only[Bool.false_eq_true,if_false,if_true];unfold qdT;rw[eE,if_pos (fun e=>by rw[e] at hR;revert hR;decide)]
 refine qjM hs ?_ (fun _=>by rw[eE];exact hR);unfold qcC;rw[if_neg (by omega),if_pos rfl,qf5 hd,qkN v (by omega),if_pos hv]
theorem qmN {s:List UInt8} (h:s.length≤256):qbX (qdI s)=some s:=by
 unfold qbX;have hd:(qdI s).drop 1=s.flatMap qbI++[34]:=rfl;have hlen:(qdI s).length=(s.flatMap qbI).length+2:=by show (34 :: s.flatMap qbI++[34]).length=_;simp
 rw[hd,qyZ s _ (by rw[hlen];omega)];simp only;rw[if_pos h]
theorem q8C {t:List UInt8} (ht:t.length≤256):qmK (qdI t) 4 t 0 0:=by
 have hq:qdI t=34 :: (t.flatMap qbI++[34]):=rfl;have hq0:bAt (qdI t) 0=34:=rfl;refine⟨by rw[hq];simp,by rw[hq0];decide,by rw[hq0];decide,fun l A R hd hf=>?_⟩;have hp:0<(qdI t).length:=by rw[hq];simp
 have e0:bAt l A=34:=qe3 hd 0 hp;have hd1:l.drop (A+1)=t.flatMap qbI++34 :: R:=by
  have:=congrArg (List.drop 1) hd;rw[List.drop_drop,hq] at this;rw[this];simp
 have hle:=q5D hd hp;have hs:qaD l A=(4,A+(qdI t).length):=by
  unfold qaD;rw[e0,if_neg (by decide),if_neg (by decide),if_pos rfl,hd1,qoN];have e:A+1+((t.flatMap qbI).length+1)=A+(qdI t).length:=by rw[hq];simp;omega
  rw[e,Nat.min_eq_left hle]
 refine qjM hs ?_ (fun h=>by omega);unfold qcC;rw[if_neg (by omega),if_neg (by omega),if_neg (by omega),if_pos rfl,qf5 hd,qmN ht]
theorem q4F {c:UInt8} (h:qb7 c=true) (hl:qa8 c=false) (hd0:qa1 c=false) (hq:c≠34):qmK [c] 5 [c] 0 0:=by
 have hb:=ql5 c (.inr (.inr (.inr (.inl h))));refine⟨by simp,hb.1,hb.2,fun l A R hd hf=>?_⟩;have e0:bAt l A=c:=qe3 hd 0 (by simp);have hm:qaE (l.drop A)=1:=by
  rw[qnO,qdP,qdP,Nat.add_zero,e0,if_neg,if_pos h];have:=qd6 hd 0;have h2:=hf.2 rfl rfl;rw[show bAt [c] 0=c from rfl] at h2;rw[show A+1=A+[c].length+0 from rfl,this,h2];simp
 have hs:qaD l A=(5,A+1):=by
  unfold qaD;rw[e0,hl,hd0,if_neg (by simp),if_neg (by simp),if_neg hq,hm,if_pos (by decide)]
 refine qjM (n:=1) hs ?_ (fun h=>by omega);unfold qcC;rw[if_neg (by omega),if_neg (by omega),if_neg (by omega),if_neg (by omega),if_pos rfl];have:=qf5 hd;rw[show A+[c].length=A+1 from rfl] at this;rw[this]
theorem q4E {c d:UInt8} (h:qaP c d=true):qmK [c,d] 5 [c,d] 0 0:=by
 have hc:=qz3 h;have hb:=ql5 c (by rcases hc with h|h|h|h|h|h|h <;> simp[h]);have hn:qa8 c=false∧qa1 c=false∧c≠34:=by rcases hc with h|h|h|h|h|h|h <;> subst h <;> decide
 refine⟨by simp,hb.1,hb.2,fun l A R hd hf=>?_⟩;have e0:bAt l A=c:=qe3 hd 0 (by simp);have e1:bAt l (A+1)=d:=qe3 hd 1 (by simp);have hm:qaE (l.drop A)=2:=by
  rw[qnO,qdP,qdP,Nat.add_zero,e0,e1,if_pos h]
 have hs:qaD l A=(5,A+2):=by
  unfold qaD;rw[e0,hn.1,hn.2.1,if_neg (by simp),if_neg (by simp),if_neg hn.2.2,hm,if_pos (by decide)]
 refine qjM (n:=2) hs ?_ (fun h=>by omega);unfold qcC;rw[if_neg (by omega),if_neg (by omega),if_neg (by omega),if_neg (by omega),if_pos rfl];have:=qf5 hd;rw[show A+[c,d].length=A+2 from rfl] at this;rw[this]
def sp8 (c:Nat):List UInt8:=if c=1 then [9,10] else if c=2 then [32,35,32,115,111,32,105,116,32,105,115,10] else [32]
theorem qwX {c:UInt8} (h:qc6 c=true) (t:List UInt8):qb8 false (c :: t)=1+qb8 false t:=by rw[qb8,if_pos h]
def sepP (l:List UInt8) (ck:Nat→Nat) (xs:List Tok) (i:Nat):List UInt8:=sp8 (ck i)++qa2 l (xs.getD i qcY).at_ ((xs.getD i qcY).at_+(xs.getD i qcY).size)
def sepR (l:List UInt8) (ck:Nat→Nat) (xs:List Tok) (i m:Nat):List UInt8:=(List.range' i m).flatMap (sepP l ck xs)
def at0 (t:Tok):Tok:={ t with at_:=0 }
structure It where
 sp:List UInt8
 pc:List UInt8
 kd:Nat
 tx:List UInt8
 iv:Int
 rl:Nat
def ja7 (x:It):Tok:=⟨x.kd,x.tx,x.iv,x.rl,0,x.pc.length⟩
def qa5 (xs:List It):List UInt8:=xs.flatMap fun x=>x.sp++x.pc
theorem qcG (x:It) (xs:List It):qa5 (x :: xs)=x.sp++(x.pc++qa5 xs):=by unfold qa5;rw[List.flatMap_cons,List.append_assoc]
theorem qa9 (xs ys:List It):qa5 (xs++ys)=qa5 xs++qa5 ys:=by unfold qa5;rw[List.flatMap_append]
def OkI (tl:List UInt8):List It→Prop
 | []=>True
 | x :: xs=>(∀ c ∈ x.sp,qc6 c=true)∧x.kd≠0∧qmK x.pc x.kd x.tx x.iv x.rl∧Fol x.kd x.pc (qa5 xs++tl)∧OkI tl xs
theorem qoH:∀ (s R:List UInt8),(∀ c ∈ s,qc6 c=true)→qb8 false (s++R)=s.length+qb8 false R
 | [],R,_=>by simp
 | c :: s,R,h=>by
  rw[List.cons_append,qwX (h c (by simp)),qoH s R (fun d hd=>h d (List.mem_cons_of_mem _ hd)),List.length_cons];omega
theorem qqM (tl:List UInt8) (htl:∀ c ∈ tl,qc6 c=true):∀ (xs:List It) (l:List UInt8) (i f:Nat),OkI tl xs→l.drop i=qa5 xs++tl→i≤l.length→xs.length<f→(qjH f l i).map zT=xs.map fun x=>(ja7 x,0)
 | [],l,i,f+1,_,hd,hi,_=>by
  have hsk:i+qb8 false (l.drop i)=l.length:=by
   have e:l.drop i=tl++[]:=by rw[hd,List.append_nil];rfl
   have h1:=qoH tl [] htl;rw[← e,show qb8 false ([]:List UInt8)=0 from rfl,Nat.add_zero] at h1;have h2:=congrArg List.length e;simp at h2;omega
  have hn:qbV l i=qbV l l.length:=by
   unfold qbV;rw[hsk,List.drop_eq_nil_of_le (Nat.le_refl _)];rfl
  rw[qjH,hn,q7S l,if_neg (by simp),if_pos rfl];rfl
 | x :: xs,l,i,f+1,ho,hd,hi,hf=>by
  obtain⟨h1,hk,⟨t1,t2,t3,t4⟩,h3,h4⟩:=ho;rw[qcG,List.append_assoc,List.append_assoc] at hd;have hR:qb8 false (x.pc++(qa5 xs++tl))=0:=by
   refine qzJ ⟨?_,?_⟩
   ·rw[show bAt (x.pc++(qa5 xs++tl)) 0=bAt x.pc 0 by unfold bAt;rw[List.getElem?_append_left t1]];exact t2
   ·rw[show bAt (x.pc++(qa5 xs++tl)) 0=bAt x.pc 0 by unfold bAt;rw[List.getElem?_append_left t1]];exact t3
  have hsk:qb8 false (l.drop i)=x.sp.length:=by rw[hd,qoH _ _ h1,hR];rfl
  have hlen:i+(x.sp.length+(x.pc.length+(qa5 xs++tl).length))=l.length:=by
   have:=congrArg List.length hd;simp only[List.length_drop,List.length_append] at this ⊢;omega
  have hd2:l.drop (i+x.sp.length)=x.pc++(qa5 xs++tl):=by rw[← List.drop_drop,hd,List.drop_left'];rfl
  have hd3:l.drop (i+x.sp.length+x.pc.length)=qa5 xs++tl:=by rw[← List.drop_drop,hd2,List.drop_left'];rfl
  have hn:qbV l i=(⟨x.kd,x.tx,x.iv,x.rl,i+x.sp.length,x.pc.length⟩,0):=by
   unfold qbV;rw[hsk];exact t4 l _ _ hd2 h3
  rw[qjH,hn,if_neg (by simp),if_neg hk];simp only;rw[List.map_cons,List.map_cons,qqM tl htl xs l _ f h4 hd3 (by omega) (by simp at hf;omega)];rfl
theorem q1L (xs:List It) (tl:List UInt8):OkI tl xs→xs.length≤(qa5 xs).length:=by
 induction xs with
 | nil=>intro _;exact Nat.zero_le _
 | cons x xs ih =>
  intro h;have:=ih h.2.2.2.2;have:=h.2.2.1.1;rw[qcG,List.length_append,List.length_append,List.length_cons];omega
theorem qn7 {xs:List It} {tl:List UInt8} (htl:∀ c ∈ tl,qc6 c=true) (h:OkI tl xs) (hl:(qa5 xs++tl).length≤32768):(qdF (qa5 xs++tl)).2.2=0∧(qdF (qa5 xs++tl)).1.map at0=xs.map ja7:=by
 have hfew:=q1L xs tl h;generalize hr:qa5 xs++tl=r at *
 have hlr:(qa5 xs).length≤r.length:=by rw[← hr,List.length_append];omega
 have hq:(qfH r).map zT=xs.map fun x=>(ja7 x,0):=by
  unfold qfH;rw[if_neg (by omega)];exact qqM tl htl xs r 0 _ h (by rw[hr];rfl) (Nat.zero_le _) (by omega)
 have hz:∀ x ∈ qfH r,x.2=0:=fun x hx=>by
  have:zT x ∈ (qfH r).map zT:=List.mem_map.2 ⟨x,hx,rfl⟩;rw[hq] at this;obtain⟨t,_,ht⟩:=List.mem_map.1 this;exact(congrArg Prod.snd ht).symm
 obtain⟨_,q2,q3⟩:=q78 hz;refine⟨q2,?_⟩;rw[q3,List.map_map] at hq;have:=congrArg (List.map Prod.fst) hq;rw[List.map_map,List.map_map] at this;exact this
theorem qnJ:∀ (l:List UInt8) (acc n:Nat),(∀ c ∈ l,48≤c.toNat∧c.toNat≤57)→Lib.parseUintM 18446744073709551615 acc l=.ok n→n=qhL acc l
 | [],acc,n,_,h=>by unfold Lib.parseUintM at h;cases h;rfl
 | c :: r,acc,n,hd,h=>by
  have h1:=hd c (by simp);unfold Lib.parseUintM at h;rw[if_pos h1] at h;split at h
  ·cases h
  ·split at h
   ·cases h
   ·exact qnJ r _ n (fun x hx=>hd x (List.mem_cons_of_mem _ hx)) h
theorem qwN (l:List UInt8) (c:UInt8):qhL 0 (l++[c])=qhL 0 l * 10+(c.toNat-48):=by
 unfold qhL;rw[List.foldl_append];rfl
theorem q3G {l:List UInt8} (hd:∀ c ∈ l,48≤c.toNat∧c.toNat≤57) (h0:l≠[]) (h:bAt l 0≠48):1≤qhL 0 l:=by
 cases l with
 | nil=>exact absurd rfl h0
 | cons c r =>
  have h1:=hd c (by simp);have h2:c.toNat≠48:=fun e=>h (UInt8.toNat_inj.1 e);have h3:=qsD r (0 * 10+(c.toNat-48));have h4:qhL 0 (c :: r)=qhL (0 * 10+(c.toNat-48)) r:=rfl;omega
theorem q5F:∀ (n:Nat) (l:List UInt8),l.length=n→l≠[]→(∀ c ∈ l,48≤c.toNat∧c.toNat≤57)→¬ (1<l.length∧bAt l 0=48)→Lib.decDigits (qhL 0 l)=l:=by
 intro n
 induction n with
 | zero=>intro l hl h0 _ _;exact absurd (List.eq_nil_of_length_eq_zero hl) h0
 | succ n ih =>
  intro l hl h0 hd hz;obtain⟨r,c,rfl⟩:∃ r c,l=r++[c]:=⟨l.dropLast,l.getLast h0,(List.dropLast_concat_getLast h0).symm⟩
  have hrl:r.length=n:=by simpa using hl
  have hc:=hd c (by simp);have ec:UInt8.ofNat (48+(c.toNat-48))=c:=by
   rw[show 48+(c.toNat-48)=c.toNat by omega];exact UInt8.ofNat_toNat
  rw[qwN];by_cases hr:r=[]
  ·subst hr;rw[show qhL 0 [] * 10+(c.toNat-48)=c.toNat-48 by show 0 * 10+_=_;omega,Lib.decDigits_one (by omega),ec];rfl
  ·have hpos:0<r.length:=List.length_pos_iff.2 hr;have hb:bAt (r++[c]) 0=bAt r 0:=by unfold bAt;rw[List.getElem?_append_left hpos]
   have hr0:bAt r 0≠48:=fun e=>hz ⟨by simp;omega,by rw[hb,e]⟩;have hdr:∀ c ∈ r,48≤c.toNat∧c.toNat≤57:=fun x hx=>hd x (List.mem_append_left _ hx);have h1:=q3G hdr hr hr0;rw[qnR (by omega),show (qhL 0 r * 10+(c.toNat-48)) / 10=qhL 0 r by omega,show (qhL 0 r * 10+(c.toNat-48)) % 10=c.toNat-48 by omega,ih r hrl hr hdr (fun h=>hr0 h.2),ec]
theorem qh8 {l:List UInt8} {v:Int} (hd:∀ c ∈ l,48≤c.toNat∧c.toNat≤57) (h:qaK l=some v):l=Lib.decDigits v.toNat∧0≤v∧v<9223372036854775808:=by
 unfold qaK at h;split at h
 ·rename_i u hp;split at h
  ·cases h
  ·rename_i hz;cases h;have hrange:=qlT hp;cases l with
   | nil=>unfold Lib.parseIntB at hp;simp at hp
   | cons c r =>
    have hc:=hd c (by simp);unfold Lib.parseIntB at hp;simp only at hp;rw[if_neg (by omega)] at hp;have hn:¬ (c.toNat=45):=by omega
    cases hu:Lib.parseUintB 64 (c :: r) with
    | ok n =>
     rw[hu] at hp;simp only[hn,not_false_eq_true,true_and,false_and,if_false] at hp;unfold Lib.parseUintB at hu;rw[if_neg (by simp)] at hu;have hv:=qnJ _ 0 n hd hu;split at hp
     ·cases hp
     ·have e:(n:Int)=v:=by simpa using hp
      have h2:=q5F _ (c :: r) rfl (by simp) hd hz;rw[← hv] at h2;refine⟨?_,by omega,by omega⟩;rw[← e,Int.toNat_natCast,h2]
    | _=>rw[hu] at hp;cases hp
 ·cases h
theorem qpR {l:List UInt8} {A n:Nat} (h:∀ k,k<n→qa1 (bAt l (A+k))=true) (hl:A+n≤l.length):∀ c ∈ qa2 l A (A+n),48≤c.toNat∧c.toNat≤57:=by
 intro c hc;obtain⟨k,hk⟩:=List.mem_iff_getElem?.1 hc;have hlt:k<(qa2 l A (A+n)).length:=(List.getElem?_eq_some_iff.1 hk).1;have hlen:(qa2 l A (A+n)).length≤n:=by unfold qa2;rw[List.length_take];omega
 rw[qeF (by omega) hl] at hk;have:=h k (by omega);rw[Option.some.inj hk] at this;unfold qa1 at this;exact of_decide_eq_true this
theorem qiM {l:List UInt8} {A B C:Nat} (h1:A≤B) (h2:B≤C) (h3:C≤l.length):qa2 l A C=qa2 l A B++qa2 l B C:=by
 unfold qa2;have e:l.drop B=(l.drop A).drop (B-A):=by rw[List.drop_drop];congr 1;omega
 rw[e,show C-A=(B-A)+(C-B) by omega,List.take_add]
theorem qlQ {l:List UInt8} {A:Nat} (h:A<l.length):qa2 l A (A+1)=[bAt l A]:=by
 unfold qa2;rw[Nat.add_sub_cancel_left,qbZ h];rfl
theorem q00 {l:List UInt8} {A E:Nat} {m e:Int} (h:qaD l A=(3,E)) (hs:qcA (qa2 l A E)=some (m,e)):qa2 l A E=qfX m.toNat e∧0≤m∧qaI m e=true:=by
 obtain⟨d,hA,hdE,hE,hdig,h112,hend⟩:=qn8 h;have hD1:∀ c ∈ qa2 l A d,48≤c.toNat∧c.toNat≤57:=by
  have:=qpR (l:=l) (A:=A) (n:=d-A) (fun k hk=>hdig (A+k) (by omega) (by omega)) (by omega)
  rwa [show A+(d-A)=d by omega] at this
 have hp:qa2 l A E=qa2 l A d++112 :: qa2 l (d+1) E:=by
  rw[qiM (B:=d) (by omega) (by omega) hE,qiM (A:=d) (B:=d+1) (by omega) (by omega) hE,qlQ (by omega),h112];rfl
 rw[hp] at hs ⊢;unfold qcA at hs;rw[qhH _ _ hD1] at hs;simp only at hs;generalize hX:qa2 l (d+1) E=X at hs;have hX0:bAt X 0=if d+1<E then bAt l (d+1) else 0:=by
  rw[← hX,qh4];by_cases hlt:d+1<E
  ·rw[if_pos (by omega),if_pos hlt,Nat.add_zero]
  ·rw[if_neg (by omega),if_neg hlt]
 cases hm:qaK (qa2 l A d) with
 | none=>rw[hm] at hs;cases hs
 | some m1 =>
  obtain⟨hm1,hm2,hm3⟩:=qh8 hD1 hm;rw[hm] at hs;rcases hend with ⟨h45,hE2⟩|⟨h45,hE2⟩
  ·have hx45:bAt X 0=45:=by rw[hX0,if_pos (by omega),h45]
   rw[if_pos hx45] at hs;have hXd:X.drop 1=qa2 l (d+2) E:=by rw[← hX];unfold qa2;rw[List.drop_take,List.drop_drop];congr 1
   have hX1:X=45 :: qa2 l (d+2) E:=by
    rw[← hX,qiM (A:=d+1) (B:=d+2) (by omega) (by omega) hE,qlQ (by omega),h45];rfl
   have hD2:∀ c ∈ qa2 l (d+2) E,48≤c.toNat∧c.toNat≤57:=by
    have:=qpR (l:=l) (A:=d+2) (n:=tw qa1 l (d+2)) (fun k hk=>qwS hk) (by omega)
    rwa [← hE2] at this
   cases he:qaK (X.drop 1) with
   | none=>rw[he] at hs;cases hs
   | some e1 =>
    rw[he] at hs;rw[hXd] at he;obtain⟨he1,he2,he3⟩:=qh8 hD2 he;simp only at hs;rw[if_pos hx45] at hs;split at hs
    ·cases hs
    ·rename_i hne;split at hs
     ·rename_i hof;simp only[Option.some.injEq,Prod.mk.injEq] at hs;obtain⟨rfl,rfl⟩:=hs;refine⟨?_,hm2,hof⟩;unfold qfX q39;rw[if_pos (by omega),Int.neg_neg,← hm1,← he1,hX1]
     ·cases hs
  ·have hx45:bAt X 0≠45:=by
    rw[hX0];split
    ·exact h45
    ·decide
   rw[if_neg hx45] at hs;have hD2:∀ c ∈ X,48≤c.toNat∧c.toNat≤57:=by
    have:=qpR (l:=l) (A:=d+1) (n:=tw qa1 l (d+1)) (fun k hk=>qwS hk) (by omega)
    rwa [← hE2,hX] at this
   cases he:qaK X with
   | none=>rw[he] at hs;cases hs
   | some e1 =>
    rw[he] at hs;obtain⟨he1,he2,he3⟩:=qh8 hD2 he;simp only at hs;rw[if_neg hx45] at hs;split at hs
    ·rename_i hof;simp only[Option.some.injEq,Prod.mk.injEq] at hs;obtain⟨rfl,rfl⟩:=hs;refine⟨?_,hm2,hof⟩;unfold qfX q39;rw[if_neg (by omega),← hm1,← he1]
    ·cases hs
theorem q8D {m:Nat} {x:Int} (hm:m<9223372036854775808) (hx:-9223372036854775808<x) (hx2:x≤9223372036854775807) (ho:qaI m x=true):qmK (qfX m x) 3 [] 0 (qaA m x):=by
 have hdd:∀ n i,i<(Lib.decDigits n).length→qa1 (bAt (Lib.decDigits n) i)=true:=fun n i hi=>qj2 _ (by rw[qeT hi];exact List.getElem_mem _);have hm0:0<(Lib.decDigits m).length:=List.length_pos_iff.2 (qrX m);have e00:bAt (qfX m x) 0=bAt (Lib.decDigits m) 0:=by unfold qfX bAt;rw[List.getElem?_append_left hm0]
 obtain⟨_,h2,h3,h4⟩:=qf6 (hdd m 0 hm0);refine⟨by unfold qfX;simp;omega,by rw[e00];exact h2,by rw[e00];exact h3,fun l A R hd hf=>?_⟩;have hR:qaJ (bAt R 0)=false:=hf.1 (.inr (.inr rfl));have hdR:qa1 (bAt R 0)=false:=by
  cases h:qa1 (bAt R 0) with
  | false=>rfl
  | true=>rw[(qf6 h).1] at hR;cases hR
 have hd1:l.drop A=Lib.decDigits m++(112 :: (q39 x++R)):=by rw[hd];unfold qfX;simp
 have e0:bAt l A=bAt (Lib.decDigits m) 0:=qe3 hd1 0 hm0;have htw:tw qa1 l (A+1)=(Lib.decDigits m).length-1:=by
  refine qwQ qg5 _ (A+1) (fun i hi=>?_) ?_
  ·rw[show A+1+i=A+(1+i) by omega,qe3 hd1 (1+i) (by omega)];exact hdd m _ (by omega)
  ·rw[show A+1+((Lib.decDigits m).length-1)=A+(Lib.decDigits m).length+0 by omega,qd6 hd1 0];exact q2A
 have hlen:(qfX m x).length=(Lib.decDigits m).length+1+(q39 x).length:=by unfold qfX;simp;omega
 have hnum:qdT l (A+(Lib.decDigits m).length)=(3,A+(qfX m x).length):=by
  have e1:bAt l (A+(Lib.decDigits m).length)=112:=qd6 hd1 0;have hd2:l.drop (A+(Lib.decDigits m).length+1)=q39 x++R:=by
   have:=congrArg (List.drop ((Lib.decDigits m).length+1)) hd1;rw[List.drop_drop,← Nat.add_assoc] at this;rw[this,List.drop_append];simp
  unfold qdT;rw[e1,if_neg (by simp)];unfold q39 at hd2 hlen;by_cases hn:x<0
  ·rw[if_pos hn] at hd2 hlen;have e2:bAt l (A+(Lib.decDigits m).length+1)=45:=qe3 hd2 0 (by simp);rw[if_pos e2];have hd3:l.drop (A+(Lib.decDigits m).length+2)=Lib.decDigits (-x).toNat++R:=by
    have:=congrArg (List.drop 1) hd2;rw[List.drop_drop] at this;rw[this];simp
   have:tw qa1 l (A+(Lib.decDigits m).length+2)=(Lib.decDigits (-x).toNat).length:=by
    refine qwQ qg5 _ _ (fun i hi=>?_) ?_
    ·rw[qe3 hd3 i hi];exact hdd _ i hi
    ·have:=qd6 hd3 0;rw[Nat.add_zero] at this;rw[this];exact hdR
   rw[this,hlen,List.length_cons]
   congr 1
   omega
  ·rw[if_neg hn] at hd2 hlen;have hx0:0<(Lib.decDigits x.toNat).length:=List.length_pos_iff.2 (qrX _);have e2:bAt l (A+(Lib.decDigits m).length+1)≠45:=by
    rw[show bAt l (A+(Lib.decDigits m).length+1)=bAt (Lib.decDigits x.toNat) 0 from qe3 hd2 0 hx0];exact qvS _
   rw[if_neg e2];have:tw qa1 l (A+(Lib.decDigits m).length+1)=(Lib.decDigits x.toNat).length:=by
    refine qwQ qg5 _ _ (fun i hi=>?_) ?_
    ·rw[qe3 hd2 i hi];exact hdd _ i hi
    ·have:=qd6 hd2 0;rw[Nat.add_zero] at this;rw[this];exact hdR
   rw[this,hlen]
   congr 1
   omega
 have hs:qaD l A=(3,A+(qfX m x).length):=by
  unfold qaD;rw[e0,h4,hdd m 0 hm0,htw,show A+1+((Lib.decDigits m).length-1)=A+(Lib.decDigits m).length by omega];simp only[Bool.false_eq_true,if_false,if_true];exact hnum
 refine qjM hs ?_ (fun _=>by rw[show bAt l (A+(qfX m x).length)=bAt R 0 from qd6 hd 0];exact hR);unfold qcC;rw[if_neg (by omega),if_neg (by omega),if_pos rfl,qf5 hd,qzQ m x (by omega) (by omega) hx2,if_pos ⟨hm,hx,ho⟩]
set_option maxRecDepth 100000
def q4L (b:Nat):Nat:=if b / 4503599627370496=0 then b % 4503599627370496 else b % 4503599627370496+4503599627370496
def jaX (b:Nat):Int:=(if b / 4503599627370496=0 then 0 else (b / 4503599627370496:Nat)-1)-1074+(Lib.ctz 64 (q4L b):Nat)
def qiS (b:Nat):List UInt8:=if b=9218868437227405312 then [105,110,102] else if b=0 then [48,112,48] else Lib.decDigits (q4L b / 2 ^ Lib.ctz 64 (q4L b))++112 :: Lib.itoa (jaX b)
theorem q2C:∀ (s f m:Nat),m % 2=1→s<f→Lib.ctzFrom f (m * 2 ^ s)=s
 | 0,f+1,m,h,_=>by
  unfold Lib.ctzFrom;rw[Nat.pow_zero,Nat.mul_one,if_pos h]
 | s+1,f+1,m,h,hf=>by
  unfold Lib.ctzFrom;rw[Nat.pow_succ,← Nat.mul_assoc,if_neg (by omega),Nat.mul_div_cancel _ (by decide),q2C s f m h (by omega)];omega
theorem qg0 {m:Nat} {e:Int} (ho:qaI m e=true):qaA m e<9218868437227405312∧qiS (qaA m e)=qfX m e:=by
 unfold qaI at ho;by_cases h0:(m:Int)=0
 ·rw[if_pos h0] at ho;have h1:m=0:=by omega
  have h2:e=0:=of_decide_eq_true ho;subst h1 h2;have hz:qaA ((0:Nat):Int) 0=0:=qzY;rw[hz];refine⟨by decide,?_⟩;unfold qiS qfX q39;rw[if_neg (by decide),if_pos rfl,if_neg (by decide),show (0:Int).toNat=0 from rfl,Lib.decDigits_one (by decide)];rfl
 ·rw[if_neg h0] at ho;split at ho
  ·cases ho
  ·rename_i hn;have hm:0<m:=by omega
   have hm2:m<9007199254740992:=by omega
   have he:-1074≤e:=by omega
   have hodd:m % 2=1:=by omega
   have hbl:=of_decide_eq_true ho;rw[Int.toNat_natCast,qgI m hm (by omega)] at hbl;obtain⟨hlt,_⟩:=q04 m e hm hm2 he (by omega);refine⟨hlt,?_⟩;obtain⟨l1,l2⟩:=qp9 hm hm2 he;have h0:=qiR m 0 e hm hm2 he;rw[Nat.pow_zero,Nat.mul_one,show e-((0:Nat):Int)=e by omega] at h0;have hre:qaA m e=Ieee.double.nearest false m e:=by unfold qaA;rw[Int.toNat_natCast]
   have hk2:=qm3 hm hm2;obtain⟨b1,b2⟩:=qd8 hm rfl hk2;obtain⟨s,hs⟩:∃ s,s=(e-qe4 m e).toNat:=⟨_,rfl⟩
   obtain⟨L,hL⟩:∃ L:Nat,(L:Int)=qe4 m e+1074:=⟨(qe4 m e+1074).toNat,by omega⟩
   have hs2:s≤52-m.log2:=by unfold qe4 at hs;omega
   have hKlt:m * 2 ^ s<9007199254740992:=Nat.lt_of_le_of_lt (Nat.mul_le_mul_left _ (Nat.pow_le_pow_right (by omega) hs2)) b2;have hL2:L≤2045:=by unfold qe4 at hL;omega
   have hpos:0<m * 2 ^ s:=Nat.mul_pos hm (Nat.two_pow_pos s);rw[← hre,← hs,show (qe4 m e+1074).toNat=L by omega,Nat.min_eq_left (by omega)] at h0;have hctz:Lib.ctz 64 (m * 2 ^ s)=s:=by
    unfold Lib.ctz;rw[if_neg (by omega),q2C s 64 m hodd (by omega)]
   have hM:q4L (qaA m e)=m * 2 ^ s∧jaX (qaA m e)=e:=by
    rw[h0];rcases Nat.lt_or_ge (m * 2 ^ s) 4503599627370496 with hlo|hhi
    ·have hL0:L=0:=by
      rcases Nat.eq_zero_or_pos L with h'|h'
      ·exact h'
      ·exfalso;have h3:qe4 m e=e+(m.log2:Int)-52:=by unfold qe4 at hL ⊢;omega
       have h4:s=52-m.log2:=by omega
       rw[h4] at hlo;omega
     have e1:(L * 4503599627370496+m * 2 ^ s) / 4503599627370496=0:=by rw[hL0];omega
     have e2:(L * 4503599627370496+m * 2 ^ s) % 4503599627370496=m * 2 ^ s:=by rw[hL0];omega
     have e3:q4L (L * 4503599627370496+m * 2 ^ s)=m * 2 ^ s:=by unfold q4L;rw[if_pos e1,e2]
     refine⟨e3,?_⟩;unfold jaX;rw[e3,hctz,if_pos e1];omega
    ·have e1:(L * 4503599627370496+m * 2 ^ s) / 4503599627370496=L+1:=by omega
     have e2:(L * 4503599627370496+m * 2 ^ s) % 4503599627370496=m * 2 ^ s-4503599627370496:=by omega
     have e3:q4L (L * 4503599627370496+m * 2 ^ s)=m * 2 ^ s:=by unfold q4L;rw[if_neg (by omega),e2];omega
     refine⟨e3,?_⟩;unfold jaX;rw[e3,hctz,e1,if_neg (by omega)];omega
   have hb0:qaA m e≠0:=by rw[h0];omega
   unfold qiS qfX;rw[if_neg (by omega),if_neg hb0,hM.1,hM.2,hctz,Nat.mul_div_cancel _ (Nat.two_pow_pos s)]
   congr 2
   unfold Lib.itoa q39;by_cases hn:e<0
   ·rw[if_pos hn,if_pos hn,show e.natAbs=(-e).toNat by omega]
   ·rw[if_neg hn,if_neg hn]
def mkI (s m:List UInt8):It:=⟨s,m,5,m,0,0⟩
def nmI (s n:List UInt8):It:=⟨s,n,1,n,0,0⟩
def itL (s:List UInt8):Lf→It
 | .int v=>⟨s,Lib.decDigits v.toNat,2,[],v,0⟩
 | .real b=>⟨s,qiS b,3,[],0,b⟩
 | .text t=>⟨s,qdI t.data.toList,4,t.data.toList,0,0⟩
 | .bool b=>nmI s (if b then [116,114,117,101] else [102,97,108,115,101])
 | .var t=>nmI s t.data.toList
def q64:Lf→Prop
 | .int v=>0≤v∧v<9223372036854775808
 | .real b=>∃ (m:Nat) (x:Int),b=qaA m x∧qaI m x=true
 | .text t=>t.size≤256
 | .bool _=>True
 | .var t=>okL (.var t)=true
def qq4:Ex→Prop
 | .lf l=>q64 l
 | .un _ a=>qq4 a
 | .bi _ a b=>qq4 a∧qq4 b
def itX (s:List UInt8):Ex→List It
 | .lf l=>[itL s l]
 | .un k a=>if qb3 k=7 then nmI s (qcF k) :: mkI [] [40] :: (itX [] a++[mkI [] [41]])
  else mkI s (qcF k) :: (if qeN (qb3 k) false≤qdG a then itX [] a else mkI [] [40] :: (itX [] a++[mkI [] [41]]))
 | .bi k a b=>if qb3 k=7 then nmI s (qcF k) :: mkI [] [40] :: (itX [] a++mkI [] [44] :: (itX [32] b++[mkI [] [41]]))
  else (if qeN (qb3 k) false≤qdG a then itX s a else mkI s [40] :: (itX [] a++[mkI [] [41]]))++mkI [32] (qcF k) :: (if qeN (qb3 k) true≤qdG b then itX [32] b else mkI [32] [40] :: (itX [] b++[mkI [] [41]]))
def clI (x:It):Cl:=clT ⟨x.kd,⟨x.tx.toArray⟩,x.iv,x.rl,0,0⟩
theorem qq0 (t:ByteArray):(⟨t.data.toList.toArray⟩:ByteArray)=t:=by cases t;simp
theorem clT5 (tx:ByteArray) (iv:Int) (rl:Nat):clT ⟨(5:Nat),tx,iv,rl,0,0⟩=.mark tx.data.toList:=rfl
theorem clT2 (tx:ByteArray) (iv:Int) (rl:Nat):clT ⟨(2:Nat),tx,iv,rl,0,0⟩=if 0≤iv then .leaf (.int iv) else .no:=rfl
theorem clT3 (tx:ByteArray) (iv:Int) (rl:Nat):clT ⟨(3:Nat),tx,iv,rl,0,0⟩=if rl<9218868437227405312 then .leaf (.real rl) else .no:=rfl
theorem clT4 (tx:ByteArray) (iv:Int) (rl:Nat):clT ⟨(4:Nat),tx,iv,rl,0,0⟩=if tx.size≤256 then .leaf (.text tx) else .no:=rfl
theorem jd1 (tx:ByteArray) (iv:Int) (rl:Nat):clT ⟨(1:Nat),tx,iv,rl,0,0⟩=if qd2 tx.data.toList=true then
   (if tx.data.toList=[116,114,117,101] then .leaf (.bool true) else if tx.data.toList=[102,97,108,115,101] then .leaf (.bool false)
    else if qcX tx.data.toList=0 then .leaf (.var tx) else .word (qcX tx.data.toList)) else .no:=rfl
theorem qmF (s m:List UInt8):clI (mkI s m)=.mark m:=by
 exact(clT5 ⟨m.toArray⟩ 0 0).trans (by simp)
theorem qf7:∀ k:Nat,k<27→qb3 k=7→1≤qeJ k→qd2 (qcF k)=true∧qcF k≠[116,114,117,101]∧qcF k≠[102,97,108,115,101]∧qcX (qcF k)=k∧k≠0:=by
 have:∀ k:Fin 27,qb3 k.val=7→1≤qeJ k.val→qd2 (qcF k.val)=true∧qcF k.val≠[116,114,117,101]∧qcF k.val≠[102,97,108,115,101]∧qcX (qcF k.val)=k.val∧k.val≠0:=by decide
 exact fun k hk=>this ⟨k,hk⟩
theorem q2E (s:List UInt8) {k:Nat} (hk:k<27) (h7:qb3 k=7) (hc:1≤qeJ k):clI (nmI s (qcF k))=.word k:=by
 obtain⟨h1,h2,h3,h4,h5⟩:=qf7 k hk h7 hc;have e:(⟨(qcF k).toArray⟩:ByteArray).data.toList=qcF k:=by simp
 refine(jd1 ⟨(qcF k).toArray⟩ 0 0).trans ?_;rw[e,if_pos h1,if_neg h2,if_neg h3,h4,if_neg h5]
theorem q99 (s:List UInt8) {l:Lf} (h:q64 l):clI (itL s l)=.leaf l:=by
 cases l with
 | int v=>exact(clT2 _ v 0).trans (if_pos h.1)
 | real b =>
  obtain⟨m,x,rfl,ho⟩:=h;exact(clT3 _ 0 (qaA m x)).trans (if_pos (qg0 ho).1)
 | text t =>
  refine(clT4 ⟨t.data.toList.toArray⟩ 0 0).trans ?_;rw[qq0];exact if_pos h
 | bool b=>cases b <;> rfl
 | var t =>
  have h:(qd2 t.data.toList && !(t.data.toList==[116,114,117,101]) && !(t.data.toList==[102,97,108,115,101]) && decide (qcX t.data.toList=0))=true:=h;simp only[Bool.and_eq_true,Bool.not_eq_true',beq_eq_false_iff_ne,decide_eq_true_eq] at h;obtain⟨⟨⟨h1,h2⟩,h3⟩,h4⟩:=h;refine(jd1 ⟨t.data.toList.toArray⟩ 0 0).trans ?_;rw[qq0,if_pos h1,if_neg h2,if_neg h3,if_pos h4]
theorem cl_X:∀ t:Ex,WfT t→qq4 t→∀ s,(itX s t).map clI=qaZ t:=by
 intro t
 induction t with
 | lf l=>intro _ h s;show [clI (itL s l)]=_;rw[q99 s h];rfl
 | un k a ih =>
  intro hw h s;obtain⟨hk,hc,ha⟩:=hw;have i0:=ih ha h [];unfold itX qaZ;split
  ·rename_i h7;simp only[List.map_cons,List.map_append,List.map_nil,q2E s hk h7 (by omega),qmF,i0]
  ·unfold brX;split
   ·simp only[List.map_cons,qmF,i0]
   ·simp only[List.map_cons,List.map_append,List.map_nil,qmF,i0]
 | bi k a b iha ihb =>
  intro hw h s;obtain⟨hk,hc,ha,hb⟩:=hw;have a0:=iha ha h.1;have b0:=ihb hb h.2;unfold itX qaZ;split
  ·rename_i h7;simp only[List.map_cons,List.map_append,List.map_nil,q2E s hk h7 (by omega),qmF,a0,b0]
  ·unfold brX;split <;> split <;> simp only[List.map_cons,List.map_append,List.map_nil,qmF,a0,b0]
theorem qhE {l:List UInt8} (h:qd2 l=true):qa8 (bAt l 0)=true∧(∀ c ∈ l,qaJ c=true)∧l.length≤32:=by
 unfold qd2 at h;simp only[Bool.and_eq_true,decide_eq_true_eq,List.all_eq_true] at h;exact⟨h.1.2,h.2,h.1.1.2⟩
theorem q8B:qmK [116,114,117,101] 1 [116,114,117,101] 0 0:=qoU (by decide) (by decide) (by decide)
theorem q4G:qmK [102,97,108,115,101] 1 [102,97,108,115,101] 0 0:=qoU (by decide) (by decide) (by decide)
theorem q0W {l:Lf} (h:q64 l) (s:List UInt8):(itL s l).kd≠0∧qmK (itL s l).pc (itL s l).kd (itL s l).tx (itL s l).iv (itL s l).rl∧(itL s l).kd≠5:=by
 cases l with
 | int v =>
  refine⟨by simp[itL,nmI],?_,by simp[itL,nmI]⟩;have:=jaP (v:=v.toNat) (by have:=h.2;omega);rw[show ((v.toNat:Nat):Int)=v by have:=h.1;omega] at this;exact this
 | real b =>
  obtain⟨m,x,rfl,ho⟩:=h;refine⟨by simp[itL,nmI],?_,by simp[itL,nmI]⟩;show qmK (qiS (qaA m x)) 3 [] 0 (qaA m x);rw[(qg0 ho).2];have hb:m<9223372036854775808∧-9223372036854775808<x∧x≤9223372036854775807:=by
   unfold qaI at ho;split at ho
   ·have:=of_decide_eq_true ho;omega
   ·split at ho
    ·cases ho
    ·omega
  exact q8D hb.1 hb.2.1 hb.2.2 ho
 | text t=>exact⟨by simp[itL],q8C h,by simp[itL]⟩
 | bool b =>
  cases b
  ·exact⟨by simp[itL,nmI],q4G,by simp[itL,nmI]⟩
  ·exact⟨by simp[itL,nmI],q8B,by simp[itL,nmI]⟩
 | var t =>
  have h:(qd2 t.data.toList && !(t.data.toList==[116,114,117,101]) && !(t.data.toList==[102,97,108,115,101]) && decide (qcX t.data.toList=0))=true:=h;simp only[Bool.and_eq_true] at h;obtain⟨n1,n2,n3⟩:=qhE h.1.1.1;exact⟨by simp[itL,nmI],qoU n1 n2 n3,by simp[itL,nmI]⟩
def qkG (c:UInt8):Prop:=c≠61∧c≠62∧c≠38∧c≠124
theorem qu6 {c d:UInt8} (h:qkG d):qaP c d=false:=by
 obtain⟨h1,h2,h3,h4⟩:=h;unfold qaP;simp[h1,h2,h3,h4]
theorem qpZ {c:UInt8}:qaJ c=true→qkG c:=qkF (fun c=>qaJ c=true→(c≠61∧c≠62∧c≠38∧c≠124)) (by decide +kernel) c
theorem qtQ {a b:List UInt8} (h:0<a.length):bAt (a++b) 0=bAt a 0:=by unfold bAt;rw[List.getElem?_append_left h]
end Go.Proofs.YtenlhcgpajphhaaGreatDoor
