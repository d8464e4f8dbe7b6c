import Derived.Test.YtenlhcgpajphhaaGreatDoorMQuotePlain
import Derived.Lib.IndexLaws
import Derived.Test.YtenlhcgpajphhaaGreatDoorMWhole
import Derived.RangeFuncNested
namespace Go.Proofs.YtenlhcgpajphhaaGreatDoor
open Go.RowKit
set_option linter.all false
structure Tok where
 kind:Nat
 text:List UInt8
 int:Int
 real:Nat
 at_:Nat
 size:Nat
deriving DecidableEq
def qa2 (l:List UInt8) (A E:Nat):List UInt8:=(l.drop A).take (E-A)
def qcC (l:List UInt8) (K A E:Nat):List UInt8 × Int × Nat × Nat :=
 if K=1 then (if E-A≤32 then (qa2 l A E,0,0,0) else ([],0,0,13))
 else if K=2 then (match qaK (qa2 l A E) with|some v=>([],v,0,0)|none=>([],0,0,12))
 else if K=3 then (match qcA (qa2 l A E) with|some (m,e)=>([],0,qaA m e,0)|none=>([],0,0,12))
 else if K=4 then (match qbX (qa2 l A E) with|some s=>(s,0,0,0)|none=>([],0,0,11))
 else if K=5 then (qa2 l A E,0,0,0)
 else ([],0,0,if A<l.length then 10 else 0)
def qcH (l:List UInt8) (K A E:Nat):Nat:=if (K=2∨K=3)∧qaJ (bAt l E)=true then 12 else (qcC l K A E).2.2.2
def qaR (l:List UInt8) (A:Nat):Tok × Nat :=
 if qcH l (qaD l A).1 A (qaD l A).2≠0 then (⟨0,[],0,0,A,0⟩,qcH l (qaD l A).1 A (qaD l A).2)
 else (⟨(qaD l A).1,(qcC l (qaD l A).1 A (qaD l A).2).1,(qcC l (qaD l A).1 A (qaD l A).2).2.1,(qcC l (qaD l A).1 A (qaD l A).2).2.2.1,A,(qaD l A).2-A⟩,0)
def qbV (l:List UInt8) (i:Nat):Tok × Nat:=qaR l (i+qb8 false (l.drop i))
theorem qzK (c:Bool) (l:List UInt8):qb8 c l≤l.length:=by
 induction l generalizing c with
 | nil=>simp[qb8]
 | cons x l ih =>
  cases c
  ·unfold qb8;split
   ·have:=ih false;simp;omega
   ·split
    ·have:=ih true;simp;omega
    ·simp
  ·unfold qb8;split
   ·have:=ih false;simp;omega
   ·have:=ih true;simp;omega
theorem qbJ (l:List UInt8) (A:Nat) (hA:A≤l.length):A≤(qaD l A).2∧(qaD l A).2≤l.length∧(qaD l A).1≤5∧((qaD l A).1=4→A<(qaD l A).2):=by
 have lt_of (p:UInt8→Bool) (h0:p 0=false) (h:p (bAt l A)=true):A<l.length:=by
  rcases Nat.lt_or_ge A l.length with h'|h'
  ·exact h'
  ·rw[qfG h',h0] at h;cases h
 unfold qaD;split
 ·rename_i h;have h1:=lt_of qa8 qjS h;have:=qwR qaJ l (A+1);simp only[];omega
 ·split
  ·rename_i h;have h1:=lt_of qa1 qg5 h;have h2:=qwR qa1 l (A+1);generalize hd:A+1+tw qa1 l (A+1)=d;unfold qdT;split
   ·simp only[];omega
   ·rename_i h3;have h4:d<l.length:=by
     rcases Nat.lt_or_ge d l.length with h'|h'
     ·exact h'
     ·rw[qfG h'] at h3;exact absurd h3 (by decide)
    split
    ·rename_i h5;have h6:d+1<l.length:=by
      rcases Nat.lt_or_ge (d+1) l.length with h'|h'
      ·exact h'
      ·rw[qfG h'] at h5;exact absurd h5 (by decide)
     have:=qwR qa1 l (d+2);simp only[];omega
    ·have:=qwR qa1 l (d+1);simp only[];omega
  ·split
   ·rename_i h;have h1:A<l.length:=by
     rcases Nat.lt_or_ge A l.length with h'|h'
     ·exact h'
     ·rw[qfG h'] at h;exact absurd h (by decide)
    simp only[];omega
   ·split
    ·have h1:=qjQ (l.drop A);simp at h1;simp only[];omega
    ·simp only[];omega
theorem qh4 {l:List UInt8} {A E k:Nat}:bAt (qa2 l A E) k=if k<E-A then bAt l (A+k) else 0:=by
 unfold bAt qa2;rw[List.getElem?_take];split
 ·rw[List.getElem?_drop]
 ·rfl
theorem qdP {l:List UInt8} {j k:Nat}:bAt (l.drop j) k=bAt l (j+k):=by unfold bAt;rw[List.getElem?_drop]
theorem qw0 {l:List UInt8} {j k:Nat}:bAt (l.take j) k=if k<j then bAt l k else 0:=by
 unfold bAt;rw[List.getElem?_take];split <;> rfl
theorem qjD {l:List UInt8} {v:Int} (h:qaK l=some v) (h0:bAt l 0≠45):0≤v:=by
 unfold qaK at h;split at h
 ·rename_i u hu;split at h
  ·cases h
  ·injection h with h
   subst h;unfold Lib.parseIntB at hu;cases l with
   | nil=>simp at hu
   | cons c r =>
    have hc:c.toNat≠45:=by
     intro e;apply h0;show c=45;exact UInt8.toNat_inj.1 (by rw[e];rfl)
    simp only at hu;split at hu
    ·cases hu
    ·cases hu
    ·simp[hc] at hu;split at hu
     ·cases hu
     ·injection hu with hu;omega
 ·cases h
theorem qwS {p:UInt8→Bool} {l:List UInt8} {j k:Nat} (h:k<tw p l j):p (bAt l (j+k))=true:=by
 unfold tw at h;have h1:(l.drop j).takeWhile p <+: l.drop j:=List.takeWhile_prefix p;have h2:((l.drop j).takeWhile p)[k]=(l.drop j)[k]'(Nat.lt_of_lt_of_le h h1.length_le):=List.IsPrefix.getElem h1 h;have h3:=List.all_takeWhile (l:=l.drop j) (p:=p);rw[List.all_eq_true] at h3;have h4:=h3 _ (List.getElem_mem h);rw[h2] at h4;have h5:bAt l (j+k)=(l.drop j)[k]'(Nat.lt_of_lt_of_le h h1.length_le):=by
  rw[← qdP,qeT]
 rw[h5];exact h4
theorem qn8 {l:List UInt8} {A E:Nat} (h:qaD l A=(3,E)):∃ d,A<d∧d<E∧E≤l.length∧(∀ k,A≤k→k<d→qa1 (bAt l k)=true)∧bAt l d=112 ∧
  ((bAt l (d+1)=45∧E=d+2+tw qa1 l (d+2))∨(bAt l (d+1)≠45∧E=d+1+tw qa1 l (d+1))):=by
 have hE:E≤l.length:=by
  rcases Nat.lt_or_ge l.length A with hA|hA
  ·exfalso;have hnil:l.drop A=[]:=List.drop_eq_nil_of_le (by omega);unfold qaD at h;rw[qfG (by omega),qjS,qg5,hnil] at h;simp[qaE] at h
  ·have:=(qbJ l A hA).2.1;rw[h] at this;exact this
 unfold qaD at h;split at h
 ·simp at h
 ·split at h
  ·rename_i hd;generalize hdd:A+1+tw qa1 l (A+1)=d at h;unfold qdT at h;split at h
   ·simp at h
   ·rename_i h3;have hdig:∀ k,A≤k→k<d→qa1 (bAt l k)=true:=by
     intro k hk hkd;rcases Nat.eq_or_lt_of_le hk with rfl|hk'
     ·exact hd
     ·have:=qwS (p:=qa1) (l:=l) (j:=A+1) (k:=k-(A+1)) (by omega)
      rwa [show A+1+(k-(A+1))=k by omega] at this
    split at h
    ·rename_i h4;simp only[Prod.mk.injEq,true_and] at h;exact⟨d,by omega,by omega,hE,hdig,by simpa using h3,.inl ⟨h4,h.symm⟩⟩
    ·rename_i h4;simp only[Prod.mk.injEq,true_and] at h;exact⟨d,by omega,by omega,hE,hdig,by simpa using h3,.inr ⟨h4,h.symm⟩⟩
  ·split at h
   ·simp at h
   ·split at h <;> simp at h
theorem qpS {c k:UInt8} (h:qa1 c=true) (hk:qa1 k=false):c≠k:=by
 intro e;rw[e,hk] at h;cases h
theorem qeF {l:List UInt8} {A E k:Nat} (hk:k<E-A) (hE:E≤l.length):(qa2 l A E)[k]?=some (bAt l (A+k)):=by
 unfold qa2;rw[List.getElem?_take,if_pos hk,List.getElem?_drop,qeT (by omega)];exact List.getElem?_eq_getElem (by omega)
theorem qx6 {l:List UInt8} {A E:Nat} (h:qaD l A=(3,E)):∃ d,A<d∧d<E∧E≤l.length∧qa1 (bAt l A)=true∧Lib.indexByte (qa2 l A E) 112=((d-A:Nat):Int) ∧
  ((bAt l (d+1)=45∧E=d+2+tw qa1 l (d+2))∨(bAt l (d+1)≠45∧E=d+1+tw qa1 l (d+1))):=by
 obtain⟨d,h1,h2,h3,h4,h5,h6⟩:=qn8 h;refine⟨d,h1,h2,h3,h4 A (Nat.le_refl _) h1,?_,h6⟩;have hge:=Lib.indexByte_ge (qa2 l A E) 112;have hp:(qa2 l A E)[d-A]?=some 112:=by rw[qeF (by omega) h3,show A+(d-A)=d by omega,h5]
 by_cases hm:Lib.indexByte (qa2 l A E) 112=-1
 ·exact absurd hp (Lib.indexByte_none hm _)
 ·obtain⟨o,ho⟩:∃ o:Nat,Lib.indexByte (qa2 l A E) 112=o:=⟨(Lib.indexByte (qa2 l A E) 112).toNat,by omega⟩
  obtain⟨g1,g2⟩:=Lib.indexByte_some ho;rw[ho];have hlt:o≤d-A:=by
   rcases Nat.lt_or_ge (d-A) o with g|g
   ·exact absurd hp (g2 _ g)
   ·exact g
  rcases Nat.eq_or_lt_of_le hlt with g|g
  ·rw[g]
  ·exfalso;rw[qeF (by omega) h3] at g1;have:=h4 (A+o) (by omega) (by omega);exact qpS this (by decide) (Option.some.inj g1)
theorem q83 {l:List UInt8} {A E:Nat} (h:qaD l A=(3,E)) :
  (∀ m,qaK (qcJ (qa2 l A E)).1=some m→0≤m) ∧
  ∀ e,qaK (if bAt (qcJ (qa2 l A E)).2 0=45 then (qcJ (qa2 l A E)).2.drop 1 else (qcJ (qa2 l A E)).2)=some e→0≤e:=by
 obtain⟨d,h1,h2,h3,h4,h5,h6⟩:=qx6 h;have hcut:qcJ (qa2 l A E)=((qa2 l A E).take (d-A),(qa2 l A E).drop (d-A+1)):=by
  unfold qcJ;rw[h5,if_pos (by omega)];simp
 rw[hcut];refine⟨fun m hm=>qjD hm ?_,fun e he=>?_⟩
 ·rw[qw0,if_pos (by omega),qh4,if_pos (by omega)];exact qpS h4 (by decide)
 ·by_cases hn:bAt ((qa2 l A E).drop (d-A+1)) 0=45
  ·rw[if_pos hn] at he;refine qjD he ?_;rw[qdP,qdP,qh4];split
   ·rename_i hlt;rw[qdP,qh4] at hn;rw[if_pos (by omega),show A+(d-A+1+0)=d+1 by omega] at hn;rcases h6 with ⟨_,h7⟩|⟨h7,_⟩
    ·have:=qwS (p:=qa1) (l:=l) (j:=d+2) (k:=0) (by omega);rw[show A+(d-A+1+(1+0))=d+2+0 by omega];exact qpS this (by decide)
    ·exact absurd hn h7
   ·decide
  ·rw[if_neg hn] at he;exact qjD he hn
def qcY:Tok:=⟨0,[],0,0,0,0⟩
def qjH:Nat→List UInt8→Nat→List (Tok × Nat)
 | 0,_,_=>[]
 | f+1,l,i =>
  if (qbV l i).2≠0 then [qbV l i]
  else if (qbV l i).1.kind=0 then []
  else qbV l i :: qjH f l ((qbV l i).1.at_+(qbV l i).1.size)
def qfH (l:List UInt8):List (Tok × Nat):=if 32768<l.length then [(qcY,3)] else qjH (l.length+1) l 0
theorem qdR (l:List UInt8) (A:Nat) (hA:A≤l.length) :
  ((qaR l A).2≠0∧(qaR l A).1=⟨0,[],0,0,A,0⟩)∨((qaR l A).2=0∧(qaR l A).1.at_=A∧(qaR l A).1.kind=(qaD l A).1∧(qaR l A).1.size=(qaD l A).2-A):=by
 unfold qaR;split
 ·rename_i h;exact .inl ⟨h,rfl⟩
 ·exact .inr ⟨rfl,rfl,rfl,rfl⟩
theorem qlJ {l:List UInt8} {A:Nat} (hA:A≤l.length) (h:(qaD l A).1≠0):A<(qaD l A).2:=by
 have hlt:A<l.length:=by
  rcases Nat.lt_or_ge A l.length with h'|h'
  ·exact h'
  ·exfalso;apply h;have hnil:l.drop A=[]:=List.drop_eq_nil_of_le h';unfold qaD;rw[qfG h',qjS,qg5,hnil];rfl
 unfold qaD at h ⊢;split
 ·simp only[];omega
 ·split
  ·unfold qdT;split
   ·simp only[];omega
   ·split <;> (simp only[];omega)
  ·split
   ·simp only[];omega
   ·split
    ·simp only[];omega
    ·rename_i h1 h2 h3 h4;rw[if_neg h1,if_neg h2,if_neg h3,if_neg h4] at h;exact absurd rfl h
theorem qfZ (l:List UInt8) (i:Nat) (hi:i≤l.length):i+qb8 false (l.drop i)≤l.length:=by
 have:=qzK false (l.drop i);simp at this;omega
theorem q11 {l:List UInt8} {i:Nat} (hi:i≤l.length) (he:(qbV l i).2=0) (hk:(qbV l i).1.kind≠0) :
  i<(qbV l i).1.at_+(qbV l i).1.size∧(qbV l i).1.at_+(qbV l i).1.size≤l.length∧i≤(qbV l i).1.at_:=by
 have hp:=qfZ l i hi;unfold qbV at *
 rcases qdR l _ hp with ⟨h,_⟩|⟨_,h1,h2,h3⟩
 ·exact absurd he h
 ·rw[h2] at hk;have h4:=qlJ hp hk;have h5:=(qbJ l _ hp).2.1;rw[h1,h3];omega
theorem qt5 {l:List UInt8} {i:Nat} (hi:i≤l.length) (he:(qbV l i).2≠0):(qbV l i).1.kind=0:=by
 unfold qbV at *
 rcases qdR l _ (qfZ l i hi) with ⟨_,h⟩|⟨h,_⟩
 ·rw[h]
 ·exact absurd h he
def qiK (b:Nat) (W:World):Option Nat:=(W.cell? ⟨b,0,none⟩).bind Value.ownBlock
structure Kq (Wr:Nat→Prop) (Ball:Nat) (W W':World):Prop where
 size:W.heap.size≤W'.heap.size
 same:∀ k o,W.heap[k]?=some o→o.isCells=true→¬ Wr k→qiK Ball W≠some k→W'.heap[k]?=some o
 row:qiK Ball W'=qiK Ball W∨∃ g,qiK Ball W'=some g∧W.heap.size≤g∧g<W'.heap.size
theorem Kq.trans {Wr:Nat→Prop} {Ball:Nat} {A B C:World} (h:Kq Wr Ball A B) (k:Kq Wr Ball B C):Kq Wr Ball A C:=by
 refine⟨Nat.le_trans h.size k.size,fun i o hi ho hw hr=>?_,?_⟩
 ·have hlt:=(Array.getElem?_eq_some_iff.1 hi).1;have h1:=h.same i o hi ho hw hr;refine k.same i o h1 ho hw ?_;rcases h.row with h2|⟨g,h2,h3,_⟩
  ·rw[h2];exact hr
  ·rw[h2];intro e;cases e;omega
 ·rcases k.row with h1|⟨g,h1,h2,h3⟩
  ·rcases h.row with h4|⟨g,h4,h5,h6⟩
   ·exact .inl (h1.trans h4)
   ·exact .inr ⟨g,h1.trans h4,h5,by have:=k.size;omega⟩
  ·exact .inr ⟨g,h1,by have:=h.size;omega,h3⟩
theorem qhB {b:Nat} {W W':World} (h:W'.heap[b]?=W.heap[b]?):qiK b W'=qiK b W:=by
 unfold qiK World.cell?;simp only[h]
theorem Kq.put {Wr:Nat→Prop} {Ball:Nat} {w:World} (hB:Ball<w.heap.size) (W:World) (l:Nat) (o o':Obj) (hl:w.heap.size≤l) (h:W.heap[l]?=some o) (hc:o.isCells=false) (_:o.isWalk=false):Kq Wr Ball W (W.putObj l o'):=by
 refine⟨by simp,fun k x hk hx _ _=>?_,.inl (qhB (World.putObj_heap_other (by omega)))⟩;rw[World.putObj_heap_other ?_]
 ·exact hk
 ·rintro rfl;rw[h] at hk;cases hk;rw[hc] at hx;cases hx
structure ItInv (Ball n₀ nb Bn:Nat) (T:TypeId) (a:Option Addr) (n cap:Nat) (l:List UInt8) (W:World):Prop where
 txt:Txt W a n cap l
 low:∀ x,a=some x→0<n→x.block<n₀
 glob:qq3 W
 gs:3<n₀∧4<n₀
 box:Boxed W Bn T (.slice a n cap)
 size:nb≤W.heap.size
 row:∀ g,qiK Ball W=some g→nb≤g∧g<W.heap.size
theorem qs2 {W W':World} {p:Addr} {v:Value} (h:W.cell? p=some v) (hs:∀ o,W.heap[p.block]?=some o→o.isCells=true→W'.heap[p.block]?=some o):W'.cell? p=some v:=by
 obtain⟨o,ho,hc⟩:=cells_of_cell h;have h2:=hs o ho hc;unfold World.cell? at h ⊢;rw[h2];rw[ho] at h;exact h
theorem q2X (a:Addr) (i:Nat):(a.add i).block=a.block:=by unfold Addr.add;split <;> rfl
section
variable {Wr:Nat→Prop} {Ball n₀ nb Bn:Nat} {T:TypeId} {a:Option Addr} {n cap:Nat} {l:List UInt8} {W W':World}
theorem ItInv.kq (h:ItInv Ball n₀ nb Bn T a n cap l W) (hk:Kq Wr Ball W W') (hW:∀ k,Wr k→n₀≤k) (hB:¬ Wr Bn) (hn:n₀≤nb) (hBn:Bn<nb):ItInv Ball n₀ nb Bn T a n cap l W':=by
 have hrow:∀ k,k<nb→qiK Ball W≠some k:=fun k hk e=>by have:=(h.row k e).1;omega
 have hlow:∀ p v,W.cell? p=some v→p.block<n₀→W'.cell? p=some v:=fun p v hc hp =>
  qs2 hc fun o ho hoc=>hk.same _ o ho hoc (fun e=>by have:=hW _ e;omega) (hrow _ (by omega))
 refine⟨?_,h.low,?_,h.gs,hk.same Bn _ h.box rfl hB (hrow _ hBn),Nat.le_trans h.size hk.size,fun g hg=>?_⟩
 ·obtain⟨h1,h2,h3,h4⟩:=h.txt;refine⟨h1,h2,h3,h4.imp id ?_⟩;rintro ⟨x,rfl,hx⟩;exact⟨x,rfl,fun i hi=>hlow _ _ (hx i hi) (by rw[q2X];exact h.low x rfl (by omega))⟩
 ·obtain⟨⟨t1,p1,g1⟩,t2,p2,g2⟩:=h.glob;exact⟨⟨t1,p1,hlow _ _ g1 h.gs.1⟩,t2,p2,hlow _ _ g2 h.gs.2⟩
 ·rcases hk.row with h1|⟨g',h1,h2,h3⟩
  ·rw[h1] at hg;have:=h.row g hg;have:=hk.size;omega
  ·rw[h1] at hg;cases hg;have:=h.size;omega
theorem ItInv.grow (h:ItInv Ball n₀ nb Bn T a n cap l W) (hb:Below W.heap.size W W') (hBl:Ball<nb) (hBn:Bn<nb):ItInv Ball n₀ nb Bn T a n cap l W':=by
 have hs:=hb.size;have hnb:=h.size;refine⟨h.txt.below hb (Nat.le_refl _),h.low,h.glob.below hb (Nat.le_refl _),h.gs,(hb.block Bn (by omega)).trans h.box,by omega,fun g hg=>?_⟩;rw[qhB (hb.block Ball (by omega))] at hg;have:=h.row g hg;omega
theorem qkL (h:Below W.heap.size W W'):W.grownBy W' none:=⟨h.os,h.tape,h.output,h.size,fun k hk _=>h.block k hk⟩
end
end Go.Proofs.YtenlhcgpajphhaaGreatDoor
namespace Go.Proofs.YtenlhcgpajphhaaGreatDoor
set_option linter.all false
theorem qvL (c:UInt8):∀ v,qeS c=some v→qb6 v=c :=
 qkF (fun c=>∀ v,qeS c=some v→qb6 v=c) (by
  have h:∀ n:Fin 256,(match qeS (UInt8.ofNat n.val) with|some v=>decide (qb6 v=UInt8.ofNat n.val)|none=>true)=true:=by decide +kernel
  intro n v hv;have:=h n;rw[hv] at this
  simpa using this) c
theorem qvK:∀ v,v<16→qeS (qb6 v)=some v∧qb6 v≠34∧qb6 v≠92:=by decide +kernel
theorem q0L:qfL 0=false:=by decide
theorem q3Q {r:List UInt8} (h:0<r.length):r.take 1=[bAt r 0]:=by
 cases r with
 | nil=>simp at h
 | cons a r=>simp[bAt]
theorem q3P {r:List UInt8} (h:1<r.length):r.take 2=[bAt r 0,bAt r 1]:=by
 match r with
 | []=>simp at h
 | [a]=>simp at h
 | a :: b :: r=>simp[bAt]
theorem qzD {r:List UInt8} (h:3<r.length):r.take 4=[bAt r 0,bAt r 1,bAt r 2,bAt r 3]:=by
 match r with
 | []=>simp at h
 | [a]=>simp at h
 | [a,b]=>simp at h
 | [a,b,c]=>simp at h
 | a :: b :: c :: d :: r=>simp[bAt]
theorem q8R {c:UInt8} {v:Nat} (h:qeS c=some v):c≠0:=by
 rintro rfl;rw[show qeS 0=none from by decide] at h;cases h
theorem qoO {c:UInt8} (h1:c≠92) (h2:c≠34) (h:qfL c=true):qbI c=[c]:=by
 unfold qbI;rw[if_neg,if_pos]
 ·simpa [qfL] using h
 ·rintro (e|e)
  ·exact h2 (by apply UInt8.toNat_inj.1;simpa using e)
  ·exact h1 (by apply UInt8.toNat_inj.1;simpa using e)
theorem q0D {c:UInt8} (h:c=34∨c=92):qbI c=[92,c]:=by
 rcases h with rfl|rfl <;> decide
theorem q0C {c:UInt8} (h:qfL c=false):qbI c=[92,120,qb6 (c.toNat / 16),qb6 (c.toNat % 16)]:=by
 unfold qbI;have h':¬ (32≤c.toNat∧c.toNat≤126):=by simpa [qfL] using h
 rw[if_neg (by omega),if_neg h']
theorem qqZ (r:List UInt8) (h:(qaQ r).2≠0):r.take (qaQ r).2=qbI (qaQ r).1:=by
 unfold qaQ at h ⊢;split
 ·rename_i hc;obtain⟨h1,h2,h3⟩:=hc;rw[qoO h1 h2 h3];exact q3Q (qi8 (by rintro e;rw[e,q0L] at h3;cases h3))
 ·rename_i hn;rw[if_neg hn] at h;split
  ·rename_i hc;obtain⟨h1,h2⟩:=hc;rw[q0D h2];have:1<r.length:=qi8 (by rintro e;rw[e] at h2;revert h2;decide);rw[q3P this,h1]
  ·rename_i hn2;rw[if_neg hn2] at h;split
   ·rename_i hc;rw[if_pos hc] at h;split
    ·rename_i a b ha hb;rw[ha,hb] at h;simp only at h;split
     ·rename_i hp;rw[if_pos hp] at h;exact absurd rfl h
     ·rename_i hp;have hp':qfL (UInt8.ofNat (16 * a+b))=false:=by simpa using hp
      have a1:=qh0 ha;have b1:=qh0 hb;have e:(UInt8.ofNat (16 * a+b)).toNat=16 * a+b:=by simp;omega
      rw[q0C hp',e,show (16 * a+b) / 16=a by omega,show (16 * a+b) % 16=b by omega,qvL _ _ ha,qvL _ _ hb];have:3<r.length:=qi8 (q8R hb);rw[qzD this,hc.1,hc.2]
    ·rename_i hne;exfalso;split at h
     ·rename_i a b ha hb;exact hne a b ha hb
     ·exact h rfl
   ·rename_i hn3;rw[if_neg hn3] at h;exact absurd rfl h
theorem qoC:∀ (f:Nat) (r s:List UInt8),qu1 f r=some s→r=s.flatMap qbI++[34]
 | 0,r,s,h=>by cases h
 | f+1,r,s,h=>by
  unfold qu1 at h;split at h
  ·rename_i hr;cases h;simpa using hr
  ·split at h
   ·cases h
   ·rename_i hk;cases hs:qu1 f (r.drop (qaQ r).2) with
    | none=>rw[hs] at h;cases h
    | some t =>
     rw[hs] at h;simp only[Option.map_some,Option.some.injEq] at h;subst h;rw[List.flatMap_cons,List.append_assoc,← qoC f _ t hs,← qqZ r hk,List.take_append_drop]
theorem q0N (c:UInt8) (r:List UInt8):qaQ (qbI c++r)=(c,(qbI c).length)∧qbI c++r≠[34]∧0<(qbI c).length:=by
 by_cases h1:c=34∨c=92
 ·rw[q0D h1];refine⟨?_,by simp,by simp⟩;unfold qaQ;rw[if_neg (by simp[bAt]),if_pos ⟨by simp[bAt],by simpa [bAt] using h1⟩];simp[bAt]
 ·have h2:c≠34:=fun e=>h1 (.inl e);have h3:c≠92:=fun e=>h1 (.inr e);cases hp:qfL c with
  | true =>
   rw[qoO h3 h2 hp];refine⟨?_,by simp[h2],by simp⟩;unfold qaQ;rw[if_pos ⟨by simpa [bAt] using h3,by simpa [bAt] using h2,by simpa [bAt] using hp⟩];simp[bAt]
  | false =>
   rw[q0C hp];have hlt:c.toNat<256:=c.toNat_lt;refine⟨?_,by simp,by simp⟩;obtain⟨a1,_,_⟩:=qvK (c.toNat / 16) (by omega);obtain⟨b1,_,_⟩:=qvK (c.toNat % 16) (by omega);unfold qaQ;rw[if_neg (by simp[bAt]),if_neg (by simp[bAt]),if_pos (by simp[bAt])];have e2:bAt ([92,120,qb6 (c.toNat / 16),qb6 (c.toNat % 16)]++r) 2=qb6 (c.toNat / 16):=by simp[bAt]
   have e3:bAt ([92,120,qb6 (c.toNat / 16),qb6 (c.toNat % 16)]++r) 3=qb6 (c.toNat % 16):=by simp[bAt]
   rw[e2,e3,a1,b1];have e:UInt8.ofNat (16 * (c.toNat / 16)+c.toNat % 16)=c:=by rw[show 16 * (c.toNat / 16)+c.toNat % 16=c.toNat by omega];simp
   simp only[e,hp];simp
theorem qyZ:∀ (s:List UInt8) (f:Nat),(s.flatMap qbI).length<f→qu1 f (s.flatMap qbI++[34])=some s
 | [],f,h=>by
  obtain⟨g,rfl⟩:∃ g,f=g+1:=⟨f-1,by simp at h;omega⟩
  simp[qu1]
 | c :: s,f,h=>by
  obtain⟨g,rfl⟩:∃ g,f=g+1:=⟨f-1,by omega⟩
  obtain⟨h1,h2,h3⟩:=q0N c (s.flatMap qbI++[34]);rw[List.flatMap_cons,List.append_assoc];unfold qu1;rw[if_neg h2,h1,if_neg (by simp only;omega)];simp only[List.drop_left];rw[qyZ s g (by rw[List.flatMap_cons,List.length_append] at h;omega)];rfl
theorem qiL (c:UInt8) (r:List UInt8):qcR (qbI c++r)=(qbI c).length+qcR r:=by
 by_cases h1:c=34∨c=92
 ·rw[q0D h1];simp only[List.cons_append,List.nil_append,List.length_cons,List.length_nil];rw[qbH,if_neg (by decide),if_pos rfl]
 ·have h2:c≠34:=fun e=>h1 (.inl e);have h3:c≠92:=fun e=>h1 (.inr e);cases hp:qfL c with
  | true =>
   rw[qoO h3 h2 hp];simp only[List.cons_append,List.nil_append,List.length_cons,List.length_nil];rw[qbH,if_neg h2,if_neg h3]
  | false =>
   rw[q0C hp];have hlt:c.toNat<256:=c.toNat_lt;obtain⟨_,a2,a3⟩:=qvK (c.toNat / 16) (by omega);obtain⟨_,b2,b3⟩:=qvK (c.toNat % 16) (by omega);simp only[List.cons_append,List.nil_append,List.length_cons,List.length_nil];rw[qbH,if_neg (by decide),if_pos rfl];simp only;rw[qbH,if_neg a2,if_neg a3,qbH,if_neg b2,if_neg b3];omega
theorem q7S (l:List UInt8):qbV l l.length=(⟨0,[],0,0,l.length,0⟩,0):=by
 have hd:l.drop l.length=[]:=List.drop_length;unfold qbV;rw[hd];simp only[qb8,Nat.add_zero];have hs:qaD l l.length=(0,l.length):=by
  unfold qaD;rw[qfG (Nat.le_refl _),qjS,qg5,hd];rfl
 have hf:qcH l 0 l.length l.length=0:=by
  unfold qcH qcC;simp
 unfold qaR;rw[hs];simp only;rw[hf,if_neg (by simp)];unfold qcC;simp
theorem q15:∀ (f:Nat) (l:List UInt8) (i:Nat),i≤l.length→∀ x ∈ qjH f l i,∃ j,j≤l.length∧x=qbV l j
 | 0,_,_,_,x,h=>by cases h
 | f+1,l,i,hi,x,h=>by
  unfold qjH at h;split at h
  ·simp at h;exact⟨i,hi,h⟩
  ·rename_i he;split at h
   ·cases h
   ·rename_i hk;rcases List.mem_cons.1 h with h|h
    ·exact⟨i,hi,h⟩
    ·exact q15 f l _ (q11 hi (by omega) hk).2.1 x h
def Behind (c c':UInt8):Prop:=c'=c∨qc6 c'=true∨c'=0
theorem q7Q {p:UInt8→Bool} {l:List UInt8} {j:Nat} (h:p (bAt l j)=false):tw p l j=0:=by
 unfold tw;rcases Nat.lt_or_ge j l.length with hj|hj
 ·rw[qbZ hj,List.takeWhile_cons,h];simp
 ·rw[List.drop_eq_nil_of_le hj];rfl
theorem qwQ {p:UInt8→Bool} (h0:p 0=false) {l:List UInt8}:∀ (n j:Nat),(∀ i,i<n→p (bAt l (j+i))=true)→p (bAt l (j+n))=false→tw p l j=n
 | 0,j,_,h=>q7Q h
 | n+1,j,h,h'=>by
  have h1:=qqC (h 0 (Nat.succ_pos _)) h0;rw[Nat.add_zero] at h1;rw[h1.2,qwQ h0 n (j+1) (fun i hi=>by rw[show j+1+i=j+(i+1) by omega];exact h (i+1) (by omega)) (by rw[show j+1+n=j+(n+1) by omega];exact h')];omega
theorem qnO (m:List UInt8):qaE m=if qaP (bAt m 0) (bAt m 1)=true then 2 else if qb7 (bAt m 0)=true then 1 else 0:=by
 match m with
 | []=>decide
 | [c] =>
  have h:qaP c 0=false:=by unfold qaP;simp
  simp[qaE,bAt,h]
 | c :: d :: m=>simp[qaE,bAt]
theorem qoN (t:List UInt8):∀ rest,qcR (t.flatMap qbI++34 :: rest)=(t.flatMap qbI).length+1:=by
 induction t with
 | nil=>intro rest;rw[List.flatMap_nil,List.nil_append,qbH,if_pos rfl];rfl
 | cons c t ih =>
  intro rest;rw[List.flatMap_cons,List.append_assoc,qiL,ih rest,List.length_append];omega
theorem ql5 (c:UInt8):(qa8 c=true∨qa1 c=true∨c=34∨qb7 c=true∨c=61∨c=33∨c=60∨c=62∨c=38∨c=124∨c=45)→qc6 c=false∧c≠35 :=
 qkF (fun c=>(qa8 c=true∨qa1 c=true∨c=34∨qb7 c=true∨c=61∨c=33∨c=60∨c=62∨c=38∨c=124∨c=45)→qc6 c=false∧c≠35) (by decide +kernel) c
theorem qz3 {c d:UInt8} (h:qaP c d=true):c=61∨c=33∨c=60∨c=62∨c=38∨c=124∨c=45:=by
 unfold qaP at h;simp only[Bool.or_eq_true,Bool.and_eq_true,beq_iff_eq] at h;rcases h with (((((h|h)|h)|h)|h)|h)|h
 ·exact .inl h.1
 ·exact .inr (.inl h.1)
 ·exact .inr (.inr (.inl h.1))
 ·exact .inr (.inr (.inr (.inl h.1)))
 ·exact .inr (.inr (.inr (.inr (.inl h.1))))
 ·exact .inr (.inr (.inr (.inr (.inr (.inl h.1)))))
 ·exact .inr (.inr (.inr (.inr (.inr (.inr h.1)))))
theorem qzJ {m:List UInt8} (h:qc6 (bAt m 0)=false∧bAt m 0≠35):qb8 false m=0:=by
 cases m with
 | nil=>rfl
 | cons c m =>
  have e:bAt (c :: m) 0=c:=rfl;rw[e] at h;unfold qb8;rw[if_neg (by rw[h.1];simp),if_neg h.2]
def zT (x:Tok × Nat):Tok × Nat:=({ x.1 with at_:=0 },x.2)
theorem qv3:∀ (f:Nat) (l:List UInt8) (i:Nat),∀ x ∈ qjH f l i,x.2≠0∨x.1.kind≠0
 | 0,_,_,x,h=>by cases h
 | f+1,l,i,x,h=>by
  unfold qjH at h;split at h
  ·rename_i he;simp at h;rw[h];exact .inl he
  ·split at h
   ·cases h
   ·rename_i hk;rcases List.mem_cons.1 h with h|h
    ·rw[h];exact .inr hk
    ·exact qv3 f l _ x h
theorem qrB (l:List UInt8) (x:Tok × Nat) (hx:x ∈ qfH l) (h0:x.2=0):∃ A,A<l.length∧x=qaR l A∧x.1.at_=A∧x.1.kind≠0∧0<x.1.size∧A+x.1.size≤l.length∧(qaD l A).1≠0:=by
 unfold qfH at hx;split at hx
 ·simp at hx;rw[hx] at h0;cases h0
 ·have hk:x.1.kind≠0:=by
   rcases qv3 _ _ _ x hx with h|h
   ·exact absurd h0 h
   ·exact h
  obtain⟨j,hj,rfl⟩:=q15 _ l 0 (Nat.zero_le _) x hx;have hA:=qfZ l j hj;refine⟨j+qb8 false (l.drop j),?_⟩;obtain⟨A,hAe⟩:∃ A,A=j+qb8 false (l.drop j):=⟨_,rfl⟩
  have hn:qbV l j=qaR l A:=by rw[hAe];rfl
  rw[← hAe] at hA ⊢;rw[hn] at h0 hk ⊢;rcases qdR l A hA with ⟨h,_⟩|⟨_,h1,h2,h3⟩
  ·exact absurd h0 h
  ·have hk':(qaD l A).1≠0:=by rw[← h2];exact hk
   have hb:=qbJ l A hA;have hpos:=qlJ hA hk';exact⟨by omega,rfl,h1,hk,by omega,by omega,hk'⟩
def joinB (l:List UInt8) (xs:List (Tok × Nat)):List UInt8:=xs.flatMap fun x=>32 :: qa2 l x.1.at_ (x.1.at_+x.1.size)
end Go.Proofs.YtenlhcgpajphhaaGreatDoor
