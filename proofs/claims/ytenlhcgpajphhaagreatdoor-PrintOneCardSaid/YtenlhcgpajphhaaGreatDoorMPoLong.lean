import Derived.Test.YtenlhcgpajphhaaGreatDoorMPoText
import Derived.Test.YtenlhcgpajphhaaGreatDoorMDcPlain
import Derived.Deep.RegionLaw
namespace Go.Proofs.YtenlhcgpajphhaaGreatDoor
open Go.RowKit
set_option linter.all false
section
variable {L:List TokE} {n:Nat}
theorem q20 (c:S8 × List PartE) (h:(if isB L c.1 ⟨#[119,104,101,110]⟩ then qaY L n (qa6 c.1) else (c.1,none)).1.bad=0):c.1.bad=0∧qbL (itG (if isB L c.1 ⟨#[119,104,101,110]⟩ then qaY L n (qa6 c.1) else (c.1,none)).2)+wtL L (if isB L c.1 ⟨#[119,104,101,110]⟩ then qaY L n (qa6 c.1) else (c.1,none)).1.k≤wtL L c.1.k:=by
 split at h
 ·rename_i i1;rw[if_pos i1];obtain⟨e1,e2⟩:=qj0 _ [32] h;have d:=qkK i1;refine⟨e1,?_⟩;cases ho:(qaY L n (qa6 c.1)).2 with
  | none =>
   rw[ho] at e2;have e2:0+wtL L (qaY L n (qa6 c.1)).1.k≤1+wtL L (qa6 c.1).k:=e2;show 0+wtL L (qaY L n (qa6 c.1)).1.k≤_;omega
  | some t =>
   rw[ho] at e2;have e2:qbL (itX [32] t)+wtL L (qaY L n (qa6 c.1)).1.k≤1+wtL L (qa6 c.1).k:=e2;show qbL (nmI [32] [119,104,101,110] :: itX [32] t)+wtL L (qaY L n (qa6 c.1)).1.k≤_;simp only[qcE,List.length_cons,List.length_nil];omega
 ·rename_i i1;rw[if_neg i1];refine⟨h,?_⟩;show 0+wtL L c.1.k≤_;omega
theorem q2G {sp:List UInt8} (hsp:sp.length≤3) (s:S8) (h:(qbP L n s).1.bad=0):s.bad=0∧qbL (qfS sp (qbP L n s).2)+wtL L (qbP L n s).1.k≤wtL L s.k:=by
 unfold qbP at h ⊢;simp only at h ⊢;obtain⟨d1,r,d2,d3⟩:=qyY (q9K (sp:=[10,9,9]) (by decide)) (mkI [10,9] [125]) _ _ _ h;obtain⟨g1,g2⟩:=qdW d1;obtain⟨c1,c2⟩:=q20 _ g1;obtain⟨p1,ps,p2,p3⟩:=q2V _ _ _ c1;obtain⟨q1,q2⟩:=qr1 _ [32] p1;obtain⟨w1,w2⟩:=qdW q1;obtain⟨x1,x2⟩:=qeU w1;obtain⟨y1,y2⟩:=qdW x1;refine⟨y1,?_⟩;rw[d2];unfold qfS;simp only;rw[p2];simp only[List.singleton_append,List.nil_append,qcE,qi0,qa4,qcS,qbY,List.length_cons,List.length_nil] at c2 d3 q2 ⊢;omega
theorem q4Y {sp:List UInt8} (hsp:sp.length≤3) (s:S8) (h:(qfN L n s).1.bad=0):s.bad=0∧qbL (qm9 sp (qfN L n s).2)+wtL L (qfN L n s).1.k≤wtL L s.k:=by
 unfold qfN at h ⊢;simp only at h ⊢;obtain⟨d1,r,d2,d3⟩:=qyY (q2G (sp:=[10,9]) (by decide)) (mkI [10] [125]) _ _ _ h;obtain⟨w1,w2⟩:=qdW d1;obtain⟨x1,x2⟩:=qeU w1;obtain⟨y1,y2⟩:=qdW x1;refine⟨y1,?_⟩;rw[d2];unfold qm9;simp only[List.nil_append,qcE,qi0,qa4,qcS,qbY,List.length_cons,List.length_nil] at d3 ⊢;omega
theorem qoP:∀ (fu:Nat) (s:S8) (p:ProgE),(qcP L n fu s p).1.bad=0→∃ ts ks,(qcP L n fu s p).2=⟨p.tags++ts,p.kinds++ks⟩∧qbL (qgY [10] ts)+qbL (qg2 [10] ks)+wtL L (qcP L n fu s p).1.k≤wtL L s.k
 | 0,s,p,_=>⟨[],[],by rw[List.append_nil,List.append_nil];rfl,by show 0+0+wtL L s.k≤_;omega⟩
 | fu+1,s,p,h=>by
  have stuck:∀ (f:Nat) (s:S8) (p:ProgE),s.bad≠0→(qcP L n f s p).1.bad≠0:=by
   intro f s p hs;cases f with
   | zero=>exact hs
   | succ f=>rw[qcP,if_neg (fun h=>hs h.1)];exact hs
  rw[qcP] at h ⊢;split at h
  ·rename_i hb;rw[if_pos hb];split at h
   ·rename_i i1;rw[if_pos i1];have hbad:(qmL L n (qa6 s)).1.bad=0:=Classical.byContradiction fun h0=>stuck fu _ _ h0 h;obtain⟨ts,ks,e1,e2⟩:=qoP fu _ _ h;have e3:=q7W (sp:=[10]) (by decide) i1 hbad;refine⟨(qmL L n (qa6 s)).2 :: ts,ks,by rw[e1];simp,?_⟩;show qbL (ql1 [10] (qmL L n (qa6 s)).2++qgY [10] ts)+_+_≤_;rw[qa4];omega
   ·rename_i i1;rw[if_neg i1];have hbad:(qfN L n s).1.bad=0:=Classical.byContradiction fun h0=>stuck fu _ _ h0 h;obtain⟨ts,ks,e1,e2⟩:=qoP fu _ _ h;have e3:=(q4Y (sp:=[10]) (by decide) _ hbad).2;refine⟨ts,(qfN L n s).2 :: ks,by rw[e1];simp,?_⟩;show _+qbL (qm9 [10] (qfN L n s).2++qg2 [10] ks)+_≤_;rw[qa4];omega
  ·rename_i hb;rw[if_neg hb];exact⟨[],[],by rw[List.append_nil,List.append_nil],by show 0+0+wtL L s.k≤_;omega⟩
end
theorem q9M (ts:List TagE):qbL (qgY [] ts)≤qbL (qgY [10] ts):=by
 cases ts with
 | nil=>exact Nat.le_refl _
 | cons t r =>
  unfold qgY ql1;simp only[qa4,qcE,List.length_cons,List.length_nil];omega
theorem q9R (s:List UInt8) (hs:s.length≤1) (ks:List KindE):qbL (qg2 s ks)≤qbL (qg2 [10] ks):=by
 cases ks with
 | nil=>exact Nat.le_refl _
 | cons t r =>
  unfold qg2 qm9;simp only[qa4,qcE,List.length_cons,List.length_nil,List.cons_append];omega
theorem q9O (p:ProgE):qbL (qjT p)≤qbL (qgY [10] p.tags)+qbL (qg2 [10] p.kinds):=by
 unfold qjT;rw[qa4];have h1:=q9M p.tags;have h2:=q9R (if p.tags=[] then [] else [10]) (by split <;> simp) p.kinds;omega
theorem qzO:∀ (f:Nat) (l:List UInt8) (i:Nat),i≤l.length→i+((qjH f l i).map fun x=>x.1.size).sum≤l.length
 | 0,l,i,h=>by simpa [qjH] using h
 | f+1,l,i,h=>by
  have hp:=qfZ l i h;rw[qjH];have hc:=qdR l (i+qb8 false (l.drop i)) hp;have hn:qbV l i=qaR l (i+qb8 false (l.drop i)):=rfl;rw[hn];have hiA:i≤i+qb8 false (l.drop i):=Nat.le_add_right ..;generalize i+qb8 false (l.drop i)=A at *
  split
  ·rename_i h0;rcases hc with ⟨_,h1⟩|⟨h1,_⟩
   ·simp[h1];omega
   ·exact absurd h1 h0
  ·rename_i h0;split
   ·simpa using h
   ·rcases hc with ⟨h1,_⟩|⟨_,h1,_,h2⟩
    ·exact absurd h1 h0
    ·have hb:=qbJ l A hp;have ih:=qzO f l ((qaR l A).1.at_+(qaR l A).1.size) (by rw[h1,h2];omega);rw[List.map_cons,List.sum_cons];omega
theorem q1A {l:List UInt8} {x:Tok} (hx:x ∈ (qdF l).1):qt8 (qzB x)=x.size∧0<x.size:=by
 have hm:(x,0) ∈ qfH l:=by
  rw[qiJ];unfold qmO;exact List.mem_append_left _ (List.mem_map.2 ⟨x,hx,rfl⟩)
 obtain⟨A,h1,h2,h3,h4,h5,h6,_⟩:=qrB l (x,0) hm rfl;simp only at h3 h4 h5 h6;have g:=qn1 (l:=l) (A:=A) (by omega) (by rw[← h2]);have e:(qaR l A).1=x:=by rw[← h2]
 rw[e] at g;obtain⟨_,g2,g3,g4,g5⟩:=g;have hlen:(qa2 l A (A+x.size)).length=x.size:=by unfold qa2;rw[List.length_take,List.length_drop];omega
 have hk5:x.kind≤5:=by
  have hb:=qbJ l A (by omega);rcases qdR l A (by omega) with ⟨hc,_⟩|⟨_,_,hc,_⟩
  ·exact absurd (by rw[← h2]) hc
  ·rw[e] at hc;omega
 refine⟨?_,h5⟩;have e1:(⟨x.text.toArray⟩:ByteArray).data.toList=x.text:=by simp
 have hz:qt8 (qzB x)=if (x.kind:Int)=2 then (Lib.decDigits x.int.toNat).length else if (x.kind:Int)=3 then (qiS x.real).length else if (x.kind:Int)=4 then (qdI x.text).length else x.text.length:=by
  unfold qt8 qzB;simp only[e1]
 rw[hz];have hk:x.kind=1∨x.kind=2∨x.kind=3∨x.kind=4∨x.kind=5:=by omega
 rcases hk with hk|hk|hk|hk|hk
 ·rw[if_neg (by omega),if_neg (by omega),if_neg (by omega),← g5 (.inl hk),hlen]
 ·rw[if_pos (by omega),← g2 hk,hlen]
 ·rw[if_neg (by omega),if_pos (by omega),← g3 hk,hlen]
 ·rw[if_neg (by omega),if_neg (by omega),if_pos (by omega),← g4 hk,hlen]
 ·rw[if_neg (by omega),if_neg (by omega),if_neg (by omega),← g5 (.inr hk),hlen]
theorem q6D {α:Type} {f g:α→Nat}:∀ (l:List α),(∀ x ∈ l,f x≤g x)→(l.map f).sum≤(l.map g).sum
 | [],_=>Nat.le_refl _
 | x :: r,h=>by
  have:=q6D r (fun y hy=>h y (List.mem_cons_of_mem _ hy));have:=h x (by simp);rw[List.map_cons,List.map_cons,List.sum_cons,List.sum_cons];omega
theorem q6E {α:Type} {f:α→Nat}:∀ (l:List α),(l.map fun x=>15 * f x).sum=15 * (l.map f).sum
 | []=>rfl
 | x :: r=>by rw[List.map_cons,List.map_cons,List.sum_cons,List.sum_cons,q6E r];omega
theorem q7U (l:List UInt8):wtL (qb2 l) 0≤15 * l.length:=by
 have h1:((qdF l).1.map Tok.size).sum≤l.length:=by
  have h2:((qfH l).map fun x=>x.1.size).sum≤l.length:=by
   unfold qfH;split
   ·simp[qcY]
   ·have:=qzO (l.length+1) l 0 (Nat.zero_le _);omega
  rw[qiJ] at h2;unfold qmO at h2;rw[List.map_append,List.map_map,List.sum_append] at h2;have e:((fun x:Tok × Nat=>x.1.size) ∘ fun t:Tok=>(t,0))=Tok.size:=rfl;rw[e] at h2;omega
 unfold wtL qb2;rw[List.drop_zero,List.map_map];have h3:=q6D (f:=(fun t=>qt8 t+14) ∘ qzB) (g:=fun x:Tok=>15 * x.size) (qdF l).1 (fun x hx=>by
  obtain⟨g1,g2⟩:=q1A hx;show qt8 (qzB x)+14≤15 * x.size;omega)
 rw[q6E] at h3;omega
def tlP (p:ProgE):List UInt8:=if p.tags=[]∧p.kinds=[] then [] else [10]
theorem q7T (p:ProgE):Bls (tlP p):=by
 unfold tlP;split
 ·exact Bls.nil
 ·exact jbU
theorem qnB {l:List UInt8} {n:Nat} {p:ProgE} {pl:Int} (h:qgO l n=(p,pl,0)):(qa5 (qjT p)++tlP p).length≤16 * l.length:=by
 have key:qbL (qgY [10] p.tags)+qbL (qg2 [10] p.kinds)≤15 * l.length:=by
  unfold qgO at h;split at h
  ·rename_i h0;simp only[Prod.mk.injEq] at h;exact absurd (by have:=h.2.2;omega) h0
  ·split at h
   ·rename_i h1;simp only[Prod.mk.injEq] at h;have hb:(qcP (qb2 l) n (qaX (qb2 l)) ⟨0,0,0⟩ ⟨[],[]⟩).1.bad=0:=by
     unfold qj1 at h1;split at h1
     ·exact(qdL (by decide) h1).elim
     ·exact h1
    obtain⟨ts,ks,e1,e2⟩:=qoP _ _ _ hb;rw[h.1] at e1;have w:=q7U l;rw[e1];simp only[List.nil_append];have e2:qbL (qgY [10] ts)+qbL (qg2 [10] ks)+_≤wtL (qb2 l) 0:=e2;omega
   ·rename_i h1;simp only[Prod.mk.injEq] at h;exact absurd h.2.2 h1
 have h2:=q9O p;rw[List.length_append];unfold tlP;split
 ·show qbL (qjT p)+0≤_;omega
 ·rename_i hne;have h3:0<qbL (qgY [10] p.tags)+qbL (qg2 [10] p.kinds):=by
   cases ht:p.tags with
   | cons t r =>
    unfold qgY ql1;simp only[qa4,qcE,List.length_cons,List.length_nil];omega
   | nil =>
    cases hk:p.kinds with
    | nil=>exact absurd ⟨ht,hk⟩ hne
    | cons k r =>
     unfold qg2 qm9;simp only[qa4,qcE,List.length_cons,List.length_nil,List.cons_append];omega
  show qbL (qjT p)+1≤_;omega
theorem qpE {α:Type} {f:α→List It} {e:It} {x:α}:∀ (r:List α),x ∈ r→qbL (f x)≤qbL (itU f e r)
 | y :: r,h=>by
  unfold itU;rw[qa4];rcases List.mem_cons.1 h with rfl|h
  ·omega
  ·have:=qpE (e:=e) (f:=f) r h;omega
theorem q7C {k:KindE}:∀ (ks:List KindE) (s:List UInt8),k ∈ ks→qbL (qm9 [] k)≤qbL (qg2 s ks)
 | y :: r,s,h=>by
  unfold qg2;rw[qa4];rcases List.mem_cons.1 h with rfl|h
  ·unfold qm9;simp only[qcE,List.length_nil];omega
  ·have:=q7C r [10] h;omega
theorem qy5 {p:ProgE} {k:KindE} {c:ChordE} (hk:k ∈ p.kinds) (hc:c ∈ k.chords):(qa5 (qfS [] c)).length≤(qa5 (qjT p)).length:=by
 have h1:=q7C p.kinds (if p.tags=[] then [] else [10]) hk;have h2:qbL (qfS [10,9] c)≤qbL (itU (qfS [10,9]) (mkI [10] [125]) k.chords):=qpE k.chords hc;have h3:qbL (qfS [] c)≤qbL (qfS [10,9] c):=by
  unfold qfS;simp only[qcE,List.length_cons,List.length_nil];omega
 have h4:qbL (itU (qfS [10,9]) (mkI [10] [125]) k.chords)≤qbL (qm9 [] k):=by
  unfold qm9;simp only[qcE,qi0,qcS,List.length_cons,List.length_nil];omega
 have h5:qbL (qg2 (if p.tags=[] then [] else [10]) p.kinds)≤qbL (qjT p):=by
  unfold qjT;rw[qa4];omega
 show qbL (qfS [] c)≤qbL (qjT p);omega
theorem q7O (t:Ex):(txX t).length≤ubX t:=by
 have:=qt7 t []
 simpa [qbL,txX] using this
theorem qh3 (s:List UInt8) (b:ByteArray) (xs:List It):qa5 (itB s b :: xs)=s++(b.data.toList++qa5 xs):=qcG _ _
def jnS (sep:List UInt8):List (List UInt8)→List UInt8
 | []=>[]
 | x :: r=>x++r.flatMap fun y=>sep++y
theorem qvA (sep:List UInt8) (x:List UInt8):∀ (xs:List (List UInt8)),jnS sep (xs++[x])=if xs=[] then x else jnS sep xs++(sep++x)
 | []=>by simp[jnS]
 | y :: r=>by simp[jnS]
def brT (xs:List (List UInt8)):List UInt8:=40 :: (jnS [44,32] xs++[41])
theorem q2K {α:Type} {f:List UInt8→α→List It} (h:α→Prop) (hf:∀ x,h x→∀ s,qa5 (f s x)=s++qa5 (f [] x)):∀ (r:List α),(∀ x ∈ r,h x)→qa5 (itC f r)=(r.map fun x=>qa5 (f [] x)).flatMap fun y=>[44,32]++y
 | [],_=>rfl
 | x :: r,hr=>by
  rw[itC,qc5,qa9,hf x (hr x (by simp)) [32],q2K h hf r (fun y hy=>hr y (List.mem_cons_of_mem _ hy))];simp
theorem qtL {α:Type} {f:List UInt8→α→List It} (h:α→Prop) (hf:∀ x,h x→∀ s,qa5 (f s x)=s++qa5 (f [] x)):∀ (l:List α),(∀ x ∈ l,h x)→qa5 (itS f l)=brT (l.map fun x=>qa5 (f [] x))
 | [],_=>rfl
 | x :: r,hr=>by
  rw[itS,qc5,qa9,qa9,q2K h hf r (fun y hy=>hr y (List.mem_cons_of_mem _ hy)),qcM];simp[brT,jnS,mkI]
def bO:Option Ex→List UInt8
 | some t=>txX t
 | none=>[]
theorem jd2 (o:Option Ex):qa5 (itO [] o)=bO o:=by cases o <;> rfl
theorem sp_O (o:Option Ex) (h:okO o) (s:List UInt8):qa5 (itO s o)=s++qa5 (itO [] o):=by
 obtain⟨t,rfl,_⟩:=h;exact qjZ t s
theorem q9F (b:ByteArray) (s:List UInt8):qa5 (itV s b)=s++b.data.toList:=by
 unfold itV;split
 ·rename_i h;rw[h,qcM];rfl
 ·rw[qcM];rfl
theorem q9G (ty:Int) (s:List UInt8):qa5 (itT s ty)=s++tyN ty:=by
 unfold itT;rw[qcM];rfl
theorem qo0 {l:List (Option Ex)} (h:∀ o ∈ l,okO o):qa5 (itS itO l)=brT (l.map bO):=by
 rw[qtL okO (fun x hx s=>sp_O x hx s) l h]
 congr 1
 exact List.map_congr_left (fun o _=>jd2 o)
theorem qwM (l:List ByteArray):qa5 (itS itV l)=brT (l.map fun b=>b.data.toList):=by
 rw[qtL (fun _=>True) (fun x _ s=>by rw[q9F,q9F];rfl) l (fun _ _=>trivial)]
 congr 1
 exact List.map_congr_left (fun b _=>q9F b [])
theorem qsH (l:List Int):qa5 (itS itT l)=brT (l.map tyN):=by
 rw[qtL (fun _=>True) (fun x _ s=>by rw[q9G,q9G];rfl) l (fun _ _=>trivial)]
 congr 1
 exact List.map_congr_left (fun b _=>q9G b [])
def wA (a:ActE):List UInt8:=qa5 (itA [] a)
theorem q9B (s:List UInt8) (a:ActE):qa5 (itA s a)=s++wA a:=by
 unfold wA itA;split
 ·rw[qbA,qbA];rfl
 ·split
  ·rw[qbA,qbA];rfl
  ·split
   ·rw[qbA,qbA];rfl
   ·rw[qbA,qbA];rfl
theorem q7L {t:Ex} {nm vr:ByteArray} {args:List (Option Ex)} (h:∀ o ∈ args,okO o):wA ⟨1,some t,nm,vr,args⟩=([115,101,110,100,32]++(txX t++([32]++nm.data.toList)))++(brT (args.map bO)++[59]):=by
 unfold wA itA;rw[if_pos rfl,qbA,qa9,qh3,qa9,qo0 h,qcM];simp[itO,qjZ,mkI]
theorem q3B {tv:Option Ex} {nm vr:ByteArray} {args:List (Option Ex)}:wA ⟨2,tv,nm,vr,args⟩=([115,112,97,119,110,32]++(nm.data.toList++([32,97,115,32]++vr.data.toList)))++[59]:=by
 unfold wA itA;rw[if_neg (show ¬ (2:Int)=1 by decide),if_pos rfl,qbA,qh3,qbA,qh3,qcM];simp[mkI]
theorem q3C {tv:Option Ex} {nm vr:ByteArray} {args:List (Option Ex)} (h:∀ o ∈ args,okO o):wA ⟨3,tv,nm,vr,args⟩=[114,101,112,108,121]++(brT (args.map bO)++[59]):=by
 unfold wA itA;rw[if_neg (show ¬ (3:Int)=1 by decide),if_neg (show ¬ (3:Int)=2 by decide),if_pos rfl,qbA,qa9,qo0 h,qcM];simp[mkI]
theorem qyV {tv:Option Ex} {nm vr:ByteArray} {args:List (Option Ex)}:wA ⟨4,tv,nm,vr,args⟩=([98,101,99,111,109,101,32]++nm.data.toList)++[59]:=by
 unfold wA itA;rw[if_neg (show ¬ (4:Int)=1 by decide),if_neg (show ¬ (4:Int)=2 by decide),if_neg (show ¬ (4:Int)=3 by decide),qbA,qh3,qcM];simp[mkI]
def wPt (p:PartE):List UInt8:=p.tg.data.toList++brT (p.vs.map fun b=>b.data.toList)
theorem qvV (s:List UInt8) (p:PartE):qa5 (qhN s p)=s++wPt p:=by
 unfold qhN wPt;rw[qh3,qwM]
theorem qvW:∀ r:List PartE,qa5 (qhG r)=(r.map wPt).flatMap fun y=>[32,38,32]++y
 | []=>rfl
 | p :: r=>by
  rw[qhG,qc5,qa9,qvV,qvW r];simp
def wG:Option Ex→List UInt8
 | some t=>[32,119,104,101,110,32]++txX t
 | none=>[]
theorem q9A (o:Option Ex):qa5 (itG o)=wG o:=by
 cases o with
 | none=>rfl
 | some t =>
  unfold itG wG;rw[qbA,qjZ];simp
theorem qtK {α:Type} {f:α→List It} (e:It):∀ (r:List α),qa5 (itU f e r)=(r.flatMap fun x=>qa5 (f x))++(e.sp++e.pc)
 | []=>by rw[itU,qcM];rfl
 | x :: r=>by
  rw[itU,qa9,qtK e r];simp
theorem qmE {α:Type} (c:UInt8) (f:α→List UInt8):∀ (r:List α),c :: (r.flatMap fun x=>f x++[c])=(r.flatMap fun x=>c :: f x)++[c]
 | []=>rfl
 | x :: r=>by
  have:=qmE c f r;simp only[List.flatMap_cons,List.append_assoc,List.cons_append,List.nil_append];rw[this]
def wAl (a:ActE):List UInt8:=[9,9]++(wA a++[10])
def wC (c:ChordE):List UInt8:=([99,104,111,114,100,32]++(c.nm.data.toList++[58,32]))++(jnS [32,38,32] (c.parts.map wPt)++(wG c.guard++([32,123,10]++(c.body.flatMap wAl++[9,125]))))
theorem qvY {c:ChordE} (h:c.parts≠[]) (s:List UInt8):qa5 (qfS s c)=s++wC c:=by
 obtain⟨nm,parts,guard,body⟩:=c;cases parts with
 | nil=>exact absurd rfl h
 | cons p r =>
  unfold qfS wC;simp only;rw[qbA,qh3,qc5,qa9,qa9,qa9,qvV,qvW,q9A,qc5,qtK];have e1:=qmE 10 (fun a=>[9,9]++wA a) body;have e2:(body.flatMap fun x=>qa5 (itA [10,9,9] x))=body.flatMap fun x=>10 :: ([9,9]++wA x):=by
   congr 1
   funext x
   rw[q9B];rfl
  have e3:body.flatMap wAl=body.flatMap fun x=>([9,9]++wA x)++[10]:=by
   congr 1
  rw[e2,e3];simp only[mkI,jnS,List.map_cons];have e4:(body.flatMap fun x=>10 :: ([9,9]++wA x))++([10,9]++[125])=(10 :: (body.flatMap fun x=>([9,9]++wA x)++[10]))++[9,125]:=by
   rw[e1];simp
  rw[e4];simp
def wCl (c:ChordE):List UInt8:=[9]++(wC c++[10])
def wKl (k:KindE):List UInt8:=([107,105,110,100,32]++(k.nm.data.toList++[32,123,10]))++(k.chords.flatMap wCl++[125,10])
def wTl (t:TagE):List UInt8:=([116,97,103,32]++t.nm.data.toList)++(brT (t.tys.map tyN)++[59,10])
theorem qvX {k:KindE} (h:∀ c ∈ k.chords,c.parts≠[]) (s:List UInt8):qa5 (qm9 s k)++[10]=s++wKl k:=by
 unfold qm9 wKl;rw[qbA,qh3,qc5,qtK];have e1:=qmE 10 (fun c=>[9]++wC c) k.chords;have e2:(k.chords.flatMap fun x=>qa5 (qfS [10,9] x))=k.chords.flatMap fun x=>10 :: ([9]++wC x):=by
  rw[List.flatMap_def,List.flatMap_def]
  congr 1
  refine List.map_congr_left (fun c hc=>?_);rw[qvY (h c hc)];rfl
 have e3:k.chords.flatMap wCl=k.chords.flatMap fun x=>([9]++wC x)++[10]:=by
  congr 1
 rw[e2,e3];have e4:(k.chords.flatMap fun x=>10 :: ([9]++wC x))++([10]++[125])=(10 :: (k.chords.flatMap fun x=>([9]++wC x)++[10]))++[125]:=by
  rw[e1];simp
 simp only[mkI];rw[e4];simp
theorem qvU (s:List UInt8) (t:TagE):qa5 (ql1 s t)++[10]=s++wTl t:=by
 unfold ql1 wTl;rw[qbA,qh3,qa9,qsH,qcM];simp[mkI]
def wP (p:ProgE):List UInt8:=p.tags.flatMap wTl++p.kinds.flatMap wKl
theorem qpW:∀ (ks:List KindE) (s:List UInt8),(∀ k ∈ ks,∀ c ∈ k.chords,c.parts≠[])→ks≠[]→qa5 (qg2 s ks)++[10]=s++ks.flatMap wKl
 | [],_,_,h=>absurd rfl h
 | [k],s,hk,_=>by
  rw[qg2,qg2,List.append_nil,qvX (hk k (by simp))];simp
 | k :: k2 :: r,s,hk,_=>by
  have ih:=qpW (k2 :: r) [10] (fun x hx=>hk x (List.mem_cons_of_mem _ hx)) (by simp);rw[qg2,qa9,List.append_assoc,ih,← List.append_assoc,qvX (hk k (by simp))];simp
theorem qpV:∀ (ts:List TagE) (s:List UInt8) (R:List UInt8),ts≠[]→qa5 (qgY s ts)++([10]++R)=s++(ts.flatMap wTl++R)
 | [],_,_,h=>absurd rfl h
 | [t],s,R,_=>by
  rw[qgY,qgY,List.append_nil,← List.append_assoc,qvU];simp
 | t :: t2 :: r,s,R,_=>by
  have ih:=qpV (t2 :: r) [10] R (by simp);rw[qgY,qa9,List.append_assoc,ih,← List.append_assoc,qvU];simp
theorem qo9 {p:ProgE} (h:okP9 p):wP p=qa5 (qjT p)++tlP p:=by
 have hk:∀ k ∈ p.kinds,∀ c ∈ k.chords,c.parts≠[]:=fun k hk c hc=>((h.kd k hk).ch c hc).one;unfold qjT tlP wP;cases ht:p.tags with
 | nil =>
  cases hs:p.kinds with
  | nil=>rfl
  | cons k r =>
   have:=qpW (k :: r) [] (by rw[← hs];exact hk) (by simp);rw[if_pos rfl,if_neg (by simp)];exact this.symm
 | cons t r =>
  cases hs:p.kinds with
  | nil =>
   have:=qpV (t :: r) [] [] (by simp);rw[if_neg (by simp),if_neg (by simp)];simp only[List.append_nil,List.nil_append] at this;rw[qg2,List.append_nil];simp only[List.flatMap_nil,List.append_nil];exact this.symm
  | cons k s =>
   have h1:=qpW (k :: s) [10] (by rw[← hs];exact hk) (by simp);have h2:=qpV (t :: r) [] ((k :: s).flatMap wKl) (by simp);rw[if_neg (by simp),if_neg (by simp),qa9,List.append_assoc,h1];exact h2.symm
theorem qtY {c:ChordE} (h:c.parts≠[]):wC c=qa5 (qfS [] c):=(qvY h []).symm
def qg6 (l:List UInt8):List UInt8:=l.take 32769
theorem q5H (l:List UInt8):(qg6 l).length≤32769:=by unfold qg6;rw[List.length_take];omega
theorem q5I (a b:List UInt8):qg6 (qg6 a++b)=qg6 (a++b):=by
 unfold qg6;rcases Nat.lt_or_ge 32769 a.length with h|h
 ·rw[List.take_append,List.take_take,List.length_take,Nat.min_eq_left (by omega:32769≤a.length),Nat.min_self,Nat.sub_self,List.take_zero,List.append_nil,List.take_append_of_le_length (by omega)]
 ·rw[List.take_of_length_le h]
theorem qhI {l:List UInt8} (h:l.length≤32769):qg6 l=l:=List.take_of_length_le h
theorem qf8 {α:Type} {xs:List α} {k:Nat} {x:α} (h:xs[k]?=some x):xs.take (k+1)=xs.take k++[x]:=by
 obtain⟨hk,rfl⟩:=List.getElem?_eq_some_iff.1 h;exact List.take_succ_eq_append_getElem hk
theorem qjW {α:Type} {xs:List α} {k:Nat} {x:α} (f:α→List UInt8) (h:xs[k]?=some x):(xs.take (k+1)).flatMap f=(xs.take k).flatMap f++f x:=by
 rw[qf8 h];simp
open Lib(hid)
set_option maxRecDepth 100000
set_option maxHeartbeats 4000000
structure Sht (W0 w:World) (b:Nat) (v:Value) (T:List UInt8):Prop where
 box:Bx w b 136 [v,.int .i64 0]
 row:w.ownsRow W0.heap.size 5 1 v T.length (u8s T)
 base:W0.heap.size≤b
 off:v.ownBlock≠some b
 few:T.length≤32769
 bel:Below W0.heap.size W0 w
section
variable {W0 w w1 w2:World} {b:Nat} {v v1 v2:Value} {T:List UInt8}
theorem Sht.next (h:Sht W0 w b v T) (hb:Below w.heap.size w w1):Sht W0 w1 b v T:=⟨h.box.keep hb h.box.lt,qdB h.row hb (Nat.le_refl _),h.base,h.off,h.few,h.bel.trans (hb.mono h.bel.size)⟩
theorem Sht.size (h:Sht W0 w b v T):W0.heap.size≤w.heap.size:=h.bel.size
theorem Sht.own (h:Sht W0 w b v T):∀ g,v.ownBlock=some g→W0.heap.size≤g∧g<w.heap.size:=qlW h.row
theorem Sht.fresh (h:Sht W0 w b v T):v.ownBlock≠some w.heap.size:=qsV h.row
end
def qk1 (W0:World) (b:Nat) (v:Value) (w:World) (T:List UInt8) (e:Ending) (w':World):Prop:=e=.returned (.tuple #[])∧∃ v',Sht W0 w' b v' (qg6 T)∧Fr [b] v w w' v'
theorem qrT (s:ByteArray) (m:Nat):(s.extract 0 m).data.toList=s.data.toList.take m:=by
 rw[ByteArray.data_extract,Array.toList_extract];simp
theorem qpL (s:ByteArray) (m:Nat) (h:m≤s.size):(s.extract 0 m).size=m:=by
 rw[ByteArray.size_extract];omega
theorem q5G {X l:List UInt8} {TL M n:Nat} (h:(qg6 X).length=TL) (hM:M=min n (32769-TL)) (hn:n=l.length:=by rfl):qg6 X++l.take M=qg6 (X++l):=by
 subst hn;have hl:(qg6 X).length=min 32769 X.length:=List.length_take;unfold qg6 at *
 rw[List.take_append]
 congr 1
 rcases Nat.lt_or_ge 32769 X.length with h1|h1
 ·have e1:M=0:=by omega
  have e2:32769-X.length=0:=by omega
  rw[e1,e2]
 ·have e1:TL=X.length:=by omega
  subst e1;generalize 32769-X.length=m at *
  rcases Nat.le_total l.length m with h2|h2
  ·rw[List.take_of_length_le h2,List.take_of_length_le (by omega)]
  ·rw[show M=m by omega]
def jc3 (ps:List ByteArray):List Value:=ps.map fun s=>.string s
theorem qsL {W0 w w2:World} {b:Nat} {v v2:Value} {T X:List UInt8} {n:Nat} (h:Sht W0 w b v T) (hn:n=X.length) (hX:X.length≤32769) (hown:w2.ownsRow W0.heap.size 5 1 v2 n (u8s X)) (hf:Fr [] v w w2 v2):Sht W0 (w2.setCell ⟨b,0,none⟩ v2) b v2 X∧Fr [b] v w (w2.setCell ⟨b,0,none⟩ v2) v2:=by
 subst hn;have hbx:Bx w2 b 136 [v,.int .i64 0]:=hf.bx h.box (by simp) h.off;have hoff:v2.ownBlock≠some b:=hf.own b h.box.lt h.off;refine⟨⟨hbx.set 0 v2,?_,h.base,hoff,hX,(hf.toBelow h.bel h.size (by simp) (fun x hx=>(h.own x hx).1)).setCell h.base _⟩,(hf.wide (by simp)).setCell (.inl (by simp)) _ _⟩;exact qkU hown (fun g hg=>Below.heap_setCell _ _ _ _ (by show g≠b;rintro rfl;exact hoff hg))
theorem qzM (W0:World) (b pb cap:Nat) (v:Value) (T:List UInt8) (ps:List ByteArray) (w:World) (hS:Sht W0 w b v T) (hP:Bx w pb 9 (jc3 ps)) (hne:pb≠b) (hoff:v.ownBlock≠some pb) (hfew:ps.length≤1000) (hsz:∀ s ∈ ps,s.size≤1000000) :
  Calls Tryz.prog 83 #[.pointer (some ⟨b,0,none⟩),.slice (some ⟨pb,0,none⟩) ps.length cap] w (qk1 W0 b v w (T++ps.flatMap fun s=>s.data.toList)):=by
 have HS:=hid hS;have HP:=hid hP;have HSZ:=hid hsz;have HOFF:=hid hoff;have HNE:=hid hne;generalize hN:ps.length=N at *
 have HN:=hid hN;clear hS hP hsz hoff hne hN;unfold qk1;go_enter Tryz.func83,Tryz.ntmps83;go_wp2
 go_loopw [9] (fun i wr=>∃ (k:Nat) (v':Value),i=.int .i64 k∧k≤N∧Hid (Sht W0 wr b v' (qg6 (T++(ps.take k).flatMap fun s=>s.data.toList)))∧Hid (Fr [b] v w wr v')) (fun i _=>N-(intOf i).toNat)
 case atStart=>exact⟨0,v,rfl,Nat.zero_le _,hid (by rw[List.take_zero,List.flatMap_nil,List.append_nil,qhI HS.out.few];exact HS.out),hid (Fr.refl _ _ _)⟩
 case round =>
  obtain⟨k,v',rfl,hk,HSR,HFR⟩:=hrel;rcases Nat.lt_or_ge k N with hlt|hge
  ·have hkl:k<ps.length:=by rw[HN.out];exact hlt
   have hx0:ps[k]?=some (ps[k]'hkl):=List.getElem?_eq_getElem hkl;have hpc:wr.cell? ⟨pb,k,none⟩=some (.string (ps[k]'hkl)):=(HFR.out.bx HP.out (by simp[HNE.out]) HOFF.out).c k (by unfold jc3;rw[List.getElem?_map,hx0];rfl);have hsk:=HSZ.out _ (List.getElem_mem hkl);generalize ps[k]'hkl=x at *
   have hfl:=qjW (fun s:ByteArray=>s.data.toList) hx0;generalize hX:T++(ps.take k).flatMap (fun s=>s.data.toList)=X at HSR;have HX:=hid hX;have HFL:=hid hfl;obtain⟨a,c,rfl⟩:=qbN HSR.out.row;have hfewX:=HSR.out.few;have b0:=HSR.out.box.c 0 rfl;have f0:wr.frozen? ⟨b,0,none⟩=false:=HSR.out.box.fz 0;generalize hTL:(qg6 X).length=TL at *
   have HTL:=hid hTL;obtain⟨M,hM⟩:∃ M,M=min x.size (32769-TL):=⟨_,rfl⟩
   have hmin:min (x.size:Int) (32769-(TL:Int))=(M:Int):=by omega
   have hMx:M≤x.size:=by omega
   have hes:=qpL x M hMx;have HES:=hid hes;have HM:=hid hM;clear hX hfl hTL hM hes hx0 hkl;have HROW:Hid (∀ wz,Below wr.heap.size wr wz→wz.ownsRow W0.heap.size 5 1 (.slice a TL c) TL (u8s (qg6 X))):=hid (fun wz hz=>qdB (qhS HSR.out.row HTL.out rfl) hz (Nat.le_refl _));have HBD:Hid (Below wr.heap.size wr wr.drew):=hid (qa0 wr);have HBX:Hid (Bx wr.drew b 136 [.slice a TL c,.int .i64 0]):=hid (HSR.out.box.keep HBD.out HSR.out.box.lt);have e0:(0:Int)≤(M:Int):=by omega
   have e1:(M:Int)≤(x.size:Int):=by omega
   have hcs:=q5G (l:=x.data.toList) HTL.out HM.out rfl;have hxl:x.data.toList.length=x.size:=rfl;have HN2:Hid (TL+(x.extract 0 M).size=(qg6 (X++x.data.toList)).length):=hid (by rw[← hcs,List.length_append,HTL.out,List.length_take,HES.out];omega);have HU2:Hid (u8s (qg6 X)++u8s (x.extract 0 M).data.toList=u8s (qg6 (X++x.data.toList))):=hid (by rw[← hcs,qf2,qrT]);clear hcs hxl;go_wp2_with fail
   go_region_law (((try simp only[Act.put,List.getElem_toArray,List.getElem_cons_succ,List.getElem_cons_zero,List.setIfInBounds_toArray,List.set_cons_succ,List.set_cons_zero]);refine qlI (a:=⟨_,_⟩) (w:=wr.drew) rfl (.tmp 23) (.tmp 29) rfl W0.heap.size (.slice a TL c) TL (u8s (qg6 X)) (by rfl) (HROW.out _ HBD.out) (x.extract 0 M) (by rfl) (by have:=HES.out;omega) (by have:=HSR.out.size;exact this) ?_;intro v2 w2 ho2 hf2;obtain⟨a2,c2,rfl⟩:=qbN ho2;have hbx2:=hf2.bx HBX.out (by simp) HSR.out.off;have b02:=hbx2.c 0 rfl;have fz2:=hbx2.fz 0;have HO2:=hid ho2;have HF2:=hid hf2;clear ho2 hf2 hbx2))
   all_goals
    have hst:=qsL HSR.out (X:=qg6 (X++x.data.toList)) HN2.out (q5H _) (qhS HO2.out rfl HU2.out) (((Fr.refl [] _ wr).drew).trans HF2.out);rw[HES.out] at hst;have HS2:=hid hst.1;have HF3:=hid hst.2;clear hst b02 fz2 HO2 HF2 HBX HROW hmin e0 e1 hMx b0 f0 hpc hsk hfewX;go_wp2;go_roundw
    case rel=>exact⟨k+1,_,by go_num,by omega,hid (by rw[HFL.out,← List.append_assoc,HX.out];exact HS2.out),hid (HFR.out.trans HF3.out)⟩
    case measure=>simp[intOf];omega
  ·obtain rfl:k=N:=by omega
   have hfull:ps.take k=ps:=List.take_of_length_le (by rw[HN.out];exact Nat.le_refl _);rw[hfull] at HSR;go_wp2_with fail;go_end0;exact⟨rfl,v',HSR.out,HFR.out⟩
theorem q7F {α:Type} {f:List UInt8→α→List It}:∀ r:List α,r.length≤qbL (itC f r)
 | []=>Nat.zero_le _
 | x :: r=>by
  have:=q7F (f:=f) r;unfold itC;rw[qcS,qa4];simp only[List.length_cons,List.length_nil];omega
theorem q33 {α:Type} {f:List UInt8→α→List It} (l:List α):l.length≤qbL (itS f l):=by
 cases l with
 | nil=>exact Nat.zero_le _
 | cons x r =>
  have:=q7F (f:=f) r;unfold itS;rw[qcS,qa4,qa4];simp only[List.length_cons,List.length_nil];omega
theorem q31 {α:Type} {f:α→List It} {e:It} (hf:∀ x,1≤qbL (f x)):∀ r:List α,r.length≤qbL (itU f e r)
 | []=>Nat.zero_le _
 | x :: r=>by
  have:=q31 (e:=e) hf r;have:=hf x;unfold itU;rw[qa4,List.length_cons];omega
def q52 (M:Nat) (c:ChordE):Prop:=c.parts.length≤M∧(∀ p ∈ c.parts,p.vs.length≤M)∧c.body.length≤M∧∀ a ∈ c.body,a.args.length≤M
def jcY (M:Nat) (p:ProgE):Prop:=p.tags.length≤M∧(∀ t ∈ p.tags,t.tys.length≤M)∧p.kinds.length≤M∧∀ k ∈ p.kinds,k.chords.length≤M∧∀ c ∈ k.chords,q52 M c
theorem q5V {a:ActE} (h:okA8 a) (s:List UInt8):a.args.length+1≤qbL (itA s a):=by
 have h1:=q33 (f:=itO) a.args;rcases h.kd with hk|hk|hk|hk
 ·unfold itA;rw[if_pos hk,qcE,qa4,qi0,qa4];simp only[List.length_cons,List.length_nil];omega
 ·rw[h.ar0 (.inl hk)];unfold itA;rw[if_neg (by omega),if_pos hk,qcE];simp only[List.length_cons,List.length_nil];omega
 ·unfold itA;rw[if_neg (by omega),if_neg (by omega),if_pos hk,qcE,qa4];simp only[List.length_cons,List.length_nil];omega
 ·rw[h.ar0 (.inr hk)];unfold itA;rw[if_neg (by omega),if_neg (by omega),if_neg (by omega),qcE];simp only[List.length_cons,List.length_nil];omega
theorem q9I (s:List UInt8) (a:ActE):1≤qbL (itA s a):=by
 unfold itA;split
 ·rw[qcE];simp only[List.length_cons];omega
 ·split
  ·rw[qcE];simp only[List.length_cons];omega
  ·split <;> (rw[qcE];simp only[List.length_cons];omega)
theorem qr0 (s:List UInt8) (p:PartE):p.vs.length≤qbL (qhN s p):=by
 have:=q33 (f:=itV) p.vs;unfold qhN;rw[qi0];omega
theorem q34:∀ r:List PartE,r.length≤qbL (qhG r)∧∀ p ∈ r,p.vs.length≤qbL (qhG r)
 | []=>⟨Nat.zero_le _,fun _ h=>by cases h⟩
 | p :: r=>by
  obtain⟨h1,h2⟩:=q34 r;have h3:=qr0 [32] p;unfold qhG;rw[qcS,qa4];simp only[List.length_cons,List.length_nil];refine⟨by omega,fun q hq=>?_⟩;rcases List.mem_cons.1 hq with rfl|hq
  ·omega
  ·have:=h2 q hq;omega
theorem qy4 {c:ChordE} (h:okC8 c) (s:List UInt8):q52 (qbL (qfS s c)) c:=by
 obtain⟨nm,parts,guard,body⟩:=c;cases parts with
 | nil=>exact absurd rfl h.one
 | cons p r =>
  have h1:=qr0 [32] p;obtain⟨h2,h3⟩:=q34 r;have h4:=q31 (e:=mkI [10,9] [125]) (q9I [10,9,9]) body;have h5:∀ a ∈ body,a.args.length≤qbL (itU (itA [10,9,9]) (mkI [10,9] [125]) body):=fun a ha=>by
   have:=qpE (f:=itA [10,9,9]) (e:=mkI [10,9] [125]) body ha;have:=q5V (h.bd a ha) [10,9,9];omega
  have hl:qbL (qfS s ⟨nm,p :: r,guard,body⟩)=s.length+5+(1+nm.data.toList.length+(1+(qbL (qhN [32] p)+qbL (qhG r)+(qbL (itG guard)+(2+qbL (itU (itA [10,9,9]) (mkI [10,9] [125]) body)))))):=by
   unfold qfS;simp only[qcE,qi0,qcS,qa4,List.length_cons,List.length_nil]
   try omega
  rw[hl];refine⟨by simp only[List.length_cons];omega,fun q hq=>?_,by show body.length≤_;omega,fun a ha=>?_⟩
  ·rcases List.mem_cons.1 hq with rfl|hq
   ·omega
   ·have:=h3 q hq;omega
  ·have:=h5 a ha;omega
theorem qh1 {M N:Nat} {c:ChordE} (h:q52 M c) (hm:M≤N):q52 N c:=⟨Nat.le_trans h.1 hm,fun p hp=>Nat.le_trans (h.2.1 p hp) hm,Nat.le_trans h.2.2.1 hm,fun a ha=>Nat.le_trans (h.2.2.2 a ha) hm⟩
theorem q2F (s:List UInt8) (c:ChordE):1≤qbL (qfS s c):=by
 unfold qfS;rw[qcE];simp only[List.length_cons];omega
theorem q1E {k:KindE} (h:okK8 k) (s:List UInt8):1≤qbL (qm9 s k)∧k.chords.length≤qbL (qm9 s k)∧∀ c ∈ k.chords,q52 (qbL (qm9 s k)) c:=by
 have h1:=q31 (e:=mkI [10] [125]) (q2F [10,9]) k.chords;have hl:qbL (qm9 s k)=s.length+4+(1+k.nm.data.toList.length+(2+qbL (itU (qfS [10,9]) (mkI [10] [125]) k.chords))):=by
  unfold qm9;simp only[qcE,qi0,qcS,List.length_cons,List.length_nil]
  try omega
 rw[hl];refine⟨by omega,by omega,fun c hc=>qh1 (qy4 (h.ch c hc) [10,9]) ?_⟩;have:=qpE (f:=qfS [10,9]) (e:=mkI [10] [125]) k.chords hc;omega
theorem q36:∀ (ks:List KindE) (s:List UInt8),(∀ k ∈ ks,okK8 k)→ks.length≤qbL (qg2 s ks)∧∀ k ∈ ks,k.chords.length≤qbL (qg2 s ks)∧∀ c ∈ k.chords,q52 (qbL (qg2 s ks)) c
 | [],_,_=>⟨Nat.zero_le _,fun _ h=>by cases h⟩
 | k :: r,s,h=>by
  obtain⟨h1,h2⟩:=q36 r [10] (fun x hx=>h x (List.mem_cons_of_mem _ hx));obtain⟨h3,h4,h5⟩:=q1E (h k (by simp)) s;unfold qg2;rw[qa4];refine⟨by simp only[List.length_cons];omega,fun q hq=>?_⟩;rcases List.mem_cons.1 hq with rfl|hq
  ·exact⟨by omega,fun c hc=>qh1 (h5 c hc) (by omega)⟩
  ·obtain⟨h6,h7⟩:=h2 q hq;exact⟨by omega,fun c hc=>qh1 (h7 c hc) (by omega)⟩
theorem q32:∀ (ts:List TagE) (s:List UInt8),ts.length≤qbL (qgY s ts)∧∀ t ∈ ts,t.tys.length≤qbL (qgY s ts)
 | [],_=>⟨Nat.zero_le _,fun _ h=>by cases h⟩
 | t :: r,s=>by
  obtain⟨h1,h2⟩:=q32 r [10];have h3:=q33 (f:=itT) t.tys;have hl:qbL (qgY s (t :: r))=s.length+3+(1+t.nm.data.toList.length+(qbL (itS itT t.tys)+1))+qbL (qgY [10] r):=by
   have e:qgY s (t :: r)=ql1 s t++qgY [10] r:=rfl;rw[e,qa4];unfold ql1;simp only[qa4,qcE,qi0,qcS,qbY,List.length_cons,List.length_nil]
  rw[hl];refine⟨by simp only[List.length_cons];omega,fun q hq=>?_⟩;rcases List.mem_cons.1 hq with rfl|hq
  ·omega
  ·have:=h2 q hq;omega
theorem q48 {p:ProgE} (h:okP9 p):jcY (qbL (qjT p)) p:=by
 obtain⟨h1,h2⟩:=q32 p.tags [];obtain⟨h3,h4⟩:=q36 p.kinds (if p.tags=[] then [] else [10]) h.kd;have hl:qbL (qjT p)=qbL (qgY [] p.tags)+qbL (qg2 (if p.tags=[] then [] else [10]) p.kinds):=by unfold qjT;rw[qa4]
 rw[hl];refine⟨by omega,fun t ht=>by have:=h2 t ht;omega,by omega,fun k hk=>?_⟩;obtain⟨h5,h6⟩:=h4 k hk;exact⟨by omega,fun c hc=>qh1 (h6 c hc) (by omega)⟩
theorem q0J {l:List UInt8} {n:Nat} {p:ProgE} {pl:Int} (h:qgO l n=(p,pl,0)):jcY 900000 p:=by
 have h1:=qnB h;have h2:=q48 (qnC h);have h3:qbL (qjT p)≤(qa5 (qjT p)++tlP p).length:=by rw[List.length_append];exact Nat.le_add_right _ _
 have hl:l.length≤32768:=by
  rcases Nat.lt_or_ge 32768 l.length with hlt|hge
  ·exfalso;unfold qgO at h;have:(qdF l).2.2=3:=by unfold qdF;rw[if_pos hlt]
   rw[if_pos (by rw[this];decide)] at h;simp only[Prod.mk.injEq] at h;have h9:=h.2.2;rw[this] at h9;exact absurd h9 (by decide)
  ·exact hge
 have hM:qbL (qjT p)≤900000:=by omega
 exact⟨Nat.le_trans h2.1 hM,fun t ht=>Nat.le_trans (h2.2.1 t ht) hM,Nat.le_trans h2.2.2.1 hM,fun k hk=>⟨Nat.le_trans (h2.2.2.2 k hk).1 hM,fun c hc=>qh1 ((h2.2.2.2 k hk).2 c hc) hM⟩⟩
end Go.Proofs.YtenlhcgpajphhaaGreatDoor
