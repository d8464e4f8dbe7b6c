import Derived.Test.YtenlhcgpajphhaaGreatDoorMQuotePlain
import Derived.Lib.IndexLaws
import Derived.Test.YtenlhcgpajphhaaGreatDoorMWhole
import Derived.RangeFuncNested
namespace Go.Proofs.YtenlhcgpajphhaaGreatDoor
open Go.RowKit
set_option linter.all false
structure Tok where
 kind:Nat
 text:List UInt8
 int:Int
 real:Nat
 at_:Nat
 size:Nat
deriving DecidableEq
def pieceOf (l:List UInt8) (A E:Nat):List UInt8:=(l.drop A).take (E-A)
def baseF (l:List UInt8) (K A E:Nat):List UInt8 × Int × Nat × Nat :=
 if K=1 then (if E-A≤32 then (pieceOf l A E,0,0,0) else ([],0,0,13))
 else if K=2 then (match wholeF (pieceOf l A E) with|some v=>([],v,0,0)|none=>([],0,0,12))
 else if K=3 then (match scaledF (pieceOf l A E) with|some (m,e)=>([],0,realBits m e,0)|none=>([],0,0,12))
 else if K=4 then (match unquoteF (pieceOf l A E) with|some s=>(s,0,0,0)|none=>([],0,0,11))
 else if K=5 then (pieceOf l A E,0,0,0)
 else ([],0,0,if A<l.length then 10 else 0)
def faultF (l:List UInt8) (K A E:Nat):Nat:=if (K=2∨K=3)∧wordB (bAt l E)=true then 12 else (baseF l K A E).2.2.2
def tokAt (l:List UInt8) (A:Nat):Tok × Nat :=
 if faultF l (spanE l A).1 A (spanE l A).2≠0 then (⟨0,[],0,0,A,0⟩,faultF l (spanE l A).1 A (spanE l A).2)
 else (⟨(spanE l A).1,(baseF l (spanE l A).1 A (spanE l A).2).1,(baseF l (spanE l A).1 A (spanE l A).2).2.1,(baseF l (spanE l A).1 A (spanE l A).2).2.2.1,A,(spanE l A).2-A⟩,0)
def nextF (l:List UInt8) (i:Nat):Tok × Nat:=tokAt l (i+skipS false (l.drop i))
theorem skip_le (c:Bool) (l:List UInt8):skipS c l≤l.length:=by
 induction l generalizing c with
 | nil=>simp[skipS]
 | cons x l ih =>
  cases c
  ·unfold skipS;split
   ·have:=ih false;simp;omega
   ·split
    ·have:=ih true;simp;omega
    ·simp
  ·unfold skipS;split
   ·have:=ih false;simp;omega
   ·have:=ih true;simp;omega
theorem spanE_bounds (l:List UInt8) (A:Nat) (hA:A≤l.length):A≤(spanE l A).2∧(spanE l A).2≤l.length∧(spanE l A).1≤5∧((spanE l A).1=4→A<(spanE l A).2):=by
 have lt_of (p:UInt8→Bool) (h0:p 0=false) (h:p (bAt l A)=true):A<l.length:=by
  rcases Nat.lt_or_ge A l.length with h'|h'
  ·exact h'
  ·rw[bAt_ge h',h0] at h;cases h
 unfold spanE;split
 ·rename_i h;have h1:=lt_of letterB letter0 h;have:=tw_le wordB l (A+1);simp only[];omega
 ·split
  ·rename_i h;have h1:=lt_of digitB digit0 h;have h2:=tw_le digitB l (A+1);generalize hd:A+1+tw digitB l (A+1)=d;unfold numEnd;split
   ·simp only[];omega
   ·rename_i h3;have h4:d<l.length:=by
     rcases Nat.lt_or_ge d l.length with h'|h'
     ·exact h'
     ·rw[bAt_ge h'] at h3;exact absurd h3 (by decide)
    split
    ·rename_i h5;have h6:d+1<l.length:=by
      rcases Nat.lt_or_ge (d+1) l.length with h'|h'
      ·exact h'
      ·rw[bAt_ge h'] at h5;exact absurd h5 (by decide)
     have:=tw_le digitB l (d+2);simp only[];omega
    ·have:=tw_le digitB l (d+1);simp only[];omega
  ·split
   ·rename_i h;have h1:A<l.length:=by
     rcases Nat.lt_or_ge A l.length with h'|h'
     ·exact h'
     ·rw[bAt_ge h'] at h;exact absurd h (by decide)
    simp only[];omega
   ·split
    ·have h1:=markLen_le (l.drop A);simp at h1;simp only[];omega
    ·simp only[];omega
theorem bAt_piece {l:List UInt8} {A E k:Nat}:bAt (pieceOf l A E) k=if k<E-A then bAt l (A+k) else 0:=by
 unfold bAt pieceOf;rw[List.getElem?_take];split
 ·rw[List.getElem?_drop]
 ·rfl
theorem bAt_drop {l:List UInt8} {j k:Nat}:bAt (l.drop j) k=bAt l (j+k):=by unfold bAt;rw[List.getElem?_drop]
theorem bAt_take {l:List UInt8} {j k:Nat}:bAt (l.take j) k=if k<j then bAt l k else 0:=by
 unfold bAt;rw[List.getElem?_take];split <;> rfl
theorem wholeF_pos {l:List UInt8} {v:Int} (h:wholeF l=some v) (h0:bAt l 0≠45):0≤v:=by
 unfold wholeF at h;split at h
 ·rename_i u hu;split at h
  ·cases h
  ·injection h with h
   subst h;unfold Lib.parseIntB at hu;cases l with
   | nil=>simp at hu
   | cons c r =>
    have hc:c.toNat≠45:=by
     intro e;apply h0;show c=45;exact UInt8.toNat_inj.1 (by rw[e];rfl)
    simp only at hu;split at hu
    ·cases hu
    ·cases hu
    ·simp[hc] at hu;split at hu
     ·cases hu
     ·injection hu with hu;omega
 ·cases h
theorem tw_in {p:UInt8→Bool} {l:List UInt8} {j k:Nat} (h:k<tw p l j):p (bAt l (j+k))=true:=by
 unfold tw at h;have h1:(l.drop j).takeWhile p <+: l.drop j:=List.takeWhile_prefix p;have h2:((l.drop j).takeWhile p)[k]=(l.drop j)[k]'(Nat.lt_of_lt_of_le h h1.length_le):=List.IsPrefix.getElem h1 h;have h3:=List.all_takeWhile (l:=l.drop j) (p:=p);rw[List.all_eq_true] at h3;have h4:=h3 _ (List.getElem_mem h);rw[h2] at h4;have h5:bAt l (j+k)=(l.drop j)[k]'(Nat.lt_of_lt_of_le h h1.length_le):=by
  rw[← bAt_drop,bAt_lt]
 rw[h5];exact h4
theorem real_shape {l:List UInt8} {A E:Nat} (h:spanE l A=(3,E)):∃ d,A<d∧d<E∧E≤l.length∧(∀ k,A≤k→k<d→digitB (bAt l k)=true)∧bAt l d=112 ∧
  ((bAt l (d+1)=45∧E=d+2+tw digitB l (d+2))∨(bAt l (d+1)≠45∧E=d+1+tw digitB l (d+1))):=by
 have hE:E≤l.length:=by
  rcases Nat.lt_or_ge l.length A with hA|hA
  ·exfalso;have hnil:l.drop A=[]:=List.drop_eq_nil_of_le (by omega);unfold spanE at h;rw[bAt_ge (by omega),letter0,digit0,hnil] at h;simp[markLen] at h
  ·have:=(spanE_bounds l A hA).2.1;rw[h] at this;exact this
 unfold spanE at h;split at h
 ·simp at h
 ·split at h
  ·rename_i hd;generalize hdd:A+1+tw digitB l (A+1)=d at h;unfold numEnd at h;split at h
   ·simp at h
   ·rename_i h3;have hdig:∀ k,A≤k→k<d→digitB (bAt l k)=true:=by
     intro k hk hkd;rcases Nat.eq_or_lt_of_le hk with rfl|hk'
     ·exact hd
     ·have:=tw_in (p:=digitB) (l:=l) (j:=A+1) (k:=k-(A+1)) (by omega)
      rwa [show A+1+(k-(A+1))=k by omega] at this
    split at h
    ·rename_i h4;simp only[Prod.mk.injEq,true_and] at h;exact⟨d,by omega,by omega,hE,hdig,by simpa using h3,.inl ⟨h4,h.symm⟩⟩
    ·rename_i h4;simp only[Prod.mk.injEq,true_and] at h;exact⟨d,by omega,by omega,hE,hdig,by simpa using h3,.inr ⟨h4,h.symm⟩⟩
  ·split at h
   ·simp at h
   ·split at h <;> simp at h
theorem digit_ne {c k:UInt8} (h:digitB c=true) (hk:digitB k=false):c≠k:=by
 intro e;rw[e,hk] at h;cases h
theorem piece_getElem? {l:List UInt8} {A E k:Nat} (hk:k<E-A) (hE:E≤l.length):(pieceOf l A E)[k]?=some (bAt l (A+k)):=by
 unfold pieceOf;rw[List.getElem?_take,if_pos hk,List.getElem?_drop,bAt_lt (by omega)];exact List.getElem?_eq_getElem (by omega)
theorem real_index {l:List UInt8} {A E:Nat} (h:spanE l A=(3,E)):∃ d,A<d∧d<E∧E≤l.length∧digitB (bAt l A)=true∧Lib.indexByte (pieceOf l A E) 112=((d-A:Nat):Int) ∧
  ((bAt l (d+1)=45∧E=d+2+tw digitB l (d+2))∨(bAt l (d+1)≠45∧E=d+1+tw digitB l (d+1))):=by
 obtain⟨d,h1,h2,h3,h4,h5,h6⟩:=real_shape h;refine⟨d,h1,h2,h3,h4 A (Nat.le_refl _) h1,?_,h6⟩;have hge:=Lib.indexByte_ge (pieceOf l A E) 112;have hp:(pieceOf l A E)[d-A]?=some 112:=by rw[piece_getElem? (by omega) h3,show A+(d-A)=d by omega,h5]
 by_cases hm:Lib.indexByte (pieceOf l A E) 112=-1
 ·exact absurd hp (Lib.indexByte_none hm _)
 ·obtain⟨o,ho⟩:∃ o:Nat,Lib.indexByte (pieceOf l A E) 112=o:=⟨(Lib.indexByte (pieceOf l A E) 112).toNat,by omega⟩
  obtain⟨g1,g2⟩:=Lib.indexByte_some ho;rw[ho];have hlt:o≤d-A:=by
   rcases Nat.lt_or_ge (d-A) o with g|g
   ·exact absurd hp (g2 _ g)
   ·exact g
  rcases Nat.eq_or_lt_of_le hlt with g|g
  ·rw[g]
  ·exfalso;rw[piece_getElem? (by omega) h3] at g1;have:=h4 (A+o) (by omega) (by omega);exact digit_ne this (by decide) (Option.some.inj g1)
theorem real_ok {l:List UInt8} {A E:Nat} (h:spanE l A=(3,E)) :
  (∀ m,wholeF (cutAt (pieceOf l A E)).1=some m→0≤m) ∧
  ∀ e,wholeF (if bAt (cutAt (pieceOf l A E)).2 0=45 then (cutAt (pieceOf l A E)).2.drop 1 else (cutAt (pieceOf l A E)).2)=some e→0≤e:=by
 obtain⟨d,h1,h2,h3,h4,h5,h6⟩:=real_index h;have hcut:cutAt (pieceOf l A E)=((pieceOf l A E).take (d-A),(pieceOf l A E).drop (d-A+1)):=by
  unfold cutAt;rw[h5,if_pos (by omega)];simp
 rw[hcut];refine⟨fun m hm=>wholeF_pos hm ?_,fun e he=>?_⟩
 ·rw[bAt_take,if_pos (by omega),bAt_piece,if_pos (by omega)];exact digit_ne h4 (by decide)
 ·by_cases hn:bAt ((pieceOf l A E).drop (d-A+1)) 0=45
  ·rw[if_pos hn] at he;refine wholeF_pos he ?_;rw[bAt_drop,bAt_drop,bAt_piece];split
   ·rename_i hlt;rw[bAt_drop,bAt_piece] at hn;rw[if_pos (by omega),show A+(d-A+1+0)=d+1 by omega] at hn;rcases h6 with ⟨_,h7⟩|⟨h7,_⟩
    ·have:=tw_in (p:=digitB) (l:=l) (j:=d+2) (k:=0) (by omega);rw[show A+(d-A+1+(1+0))=d+2+0 by omega];exact digit_ne this (by decide)
    ·exact absurd hn h7
   ·decide
  ·rw[if_neg hn] at he;exact wholeF_pos he hn
def zeroTok:Tok:=⟨0,[],0,0,0,0⟩
def seqF:Nat→List UInt8→Nat→List (Tok × Nat)
 | 0,_,_=>[]
 | f+1,l,i =>
  if (nextF l i).2≠0 then [nextF l i]
  else if (nextF l i).1.kind=0 then []
  else nextF l i :: seqF f l ((nextF l i).1.at_+(nextF l i).1.size)
def allF (l:List UInt8):List (Tok × Nat):=if 32768<l.length then [(zeroTok,3)] else seqF (l.length+1) l 0
theorem tokAt_cases (l:List UInt8) (A:Nat) (hA:A≤l.length) :
  ((tokAt l A).2≠0∧(tokAt l A).1=⟨0,[],0,0,A,0⟩)∨((tokAt l A).2=0∧(tokAt l A).1.at_=A∧(tokAt l A).1.kind=(spanE l A).1∧(tokAt l A).1.size=(spanE l A).2-A):=by
 unfold tokAt;split
 ·rename_i h;exact .inl ⟨h,rfl⟩
 ·exact .inr ⟨rfl,rfl,rfl,rfl⟩
theorem spanE_pos {l:List UInt8} {A:Nat} (hA:A≤l.length) (h:(spanE l A).1≠0):A<(spanE l A).2:=by
 have hlt:A<l.length:=by
  rcases Nat.lt_or_ge A l.length with h'|h'
  ·exact h'
  ·exfalso;apply h;have hnil:l.drop A=[]:=List.drop_eq_nil_of_le h';unfold spanE;rw[bAt_ge h',letter0,digit0,hnil];rfl
 unfold spanE at h ⊢;split
 ·simp only[];omega
 ·split
  ·unfold numEnd;split
   ·simp only[];omega
   ·split <;> (simp only[];omega)
  ·split
   ·simp only[];omega
   ·split
    ·simp only[];omega
    ·rename_i h1 h2 h3 h4;rw[if_neg h1,if_neg h2,if_neg h3,if_neg h4] at h;exact absurd rfl h
theorem next_place (l:List UInt8) (i:Nat) (hi:i≤l.length):i+skipS false (l.drop i)≤l.length:=by
 have:=skip_le false (l.drop i);simp at this;omega
theorem next_on {l:List UInt8} {i:Nat} (hi:i≤l.length) (he:(nextF l i).2=0) (hk:(nextF l i).1.kind≠0) :
  i<(nextF l i).1.at_+(nextF l i).1.size∧(nextF l i).1.at_+(nextF l i).1.size≤l.length∧i≤(nextF l i).1.at_:=by
 have hp:=next_place l i hi;unfold nextF at *
 rcases tokAt_cases l _ hp with ⟨h,_⟩|⟨_,h1,h2,h3⟩
 ·exact absurd he h
 ·rw[h2] at hk;have h4:=spanE_pos hp hk;have h5:=(spanE_bounds l _ hp).2.1;rw[h1,h3];omega
theorem next_bad_at {l:List UInt8} {i:Nat} (hi:i≤l.length) (he:(nextF l i).2≠0):(nextF l i).1.kind=0:=by
 unfold nextF at *
 rcases tokAt_cases l _ (next_place l i hi) with ⟨_,h⟩|⟨h,_⟩
 ·rw[h]
 ·exact absurd h he
def rowOf (b:Nat) (W:World):Option Nat:=(W.cell? ⟨b,0,none⟩).bind Value.ownBlock
structure Kq (Wr:Nat→Prop) (Ball:Nat) (W W':World):Prop where
 size:W.heap.size≤W'.heap.size
 same:∀ k o,W.heap[k]?=some o→o.isCells=true→¬ Wr k→rowOf Ball W≠some k→W'.heap[k]?=some o
 row:rowOf Ball W'=rowOf Ball W∨∃ g,rowOf Ball W'=some g∧W.heap.size≤g∧g<W'.heap.size
theorem Kq.trans {Wr:Nat→Prop} {Ball:Nat} {A B C:World} (h:Kq Wr Ball A B) (k:Kq Wr Ball B C):Kq Wr Ball A C:=by
 refine⟨Nat.le_trans h.size k.size,fun i o hi ho hw hr=>?_,?_⟩
 ·have hlt:=(Array.getElem?_eq_some_iff.1 hi).1;have h1:=h.same i o hi ho hw hr;refine k.same i o h1 ho hw ?_;rcases h.row with h2|⟨g,h2,h3,_⟩
  ·rw[h2];exact hr
  ·rw[h2];intro e;cases e;omega
 ·rcases k.row with h1|⟨g,h1,h2,h3⟩
  ·rcases h.row with h4|⟨g,h4,h5,h6⟩
   ·exact .inl (h1.trans h4)
   ·exact .inr ⟨g,h1.trans h4,h5,by have:=k.size;omega⟩
  ·exact .inr ⟨g,h1,by have:=h.size;omega,h3⟩
theorem rowOf_same {b:Nat} {W W':World} (h:W'.heap[b]?=W.heap[b]?):rowOf b W'=rowOf b W:=by
 unfold rowOf World.cell?;simp only[h]
theorem Kq.put {Wr:Nat→Prop} {Ball:Nat} {w:World} (hB:Ball<w.heap.size) (W:World) (l:Nat) (o o':Obj) (hl:w.heap.size≤l) (h:W.heap[l]?=some o) (hc:o.isCells=false) (_:o.isWalk=false):Kq Wr Ball W (W.putObj l o'):=by
 refine⟨by simp,fun k x hk hx _ _=>?_,.inl (rowOf_same (World.putObj_heap_other (by omega)))⟩;rw[World.putObj_heap_other ?_]
 ·exact hk
 ·rintro rfl;rw[h] at hk;cases hk;rw[hc] at hx;cases hx
structure ItInv (Ball n₀ nb Bn:Nat) (T:TypeId) (a:Option Addr) (n cap:Nat) (l:List UInt8) (W:World):Prop where
 txt:Txt W a n cap l
 low:∀ x,a=some x→0<n→x.block<n₀
 glob:Glob W
 gs:3<n₀∧4<n₀
 box:Boxed W Bn T (.slice a n cap)
 size:nb≤W.heap.size
 row:∀ g,rowOf Ball W=some g→nb≤g∧g<W.heap.size
theorem cell_of_heap {W W':World} {p:Addr} {v:Value} (h:W.cell? p=some v) (hs:∀ o,W.heap[p.block]?=some o→o.isCells=true→W'.heap[p.block]?=some o):W'.cell? p=some v:=by
 obtain⟨o,ho,hc⟩:=cells_of_cell h;have h2:=hs o ho hc;unfold World.cell? at h ⊢;rw[h2];rw[ho] at h;exact h
theorem add_blk (a:Addr) (i:Nat):(a.add i).block=a.block:=by unfold Addr.add;split <;> rfl
section
variable {Wr:Nat→Prop} {Ball n₀ nb Bn:Nat} {T:TypeId} {a:Option Addr} {n cap:Nat} {l:List UInt8} {W W':World}
theorem ItInv.kq (h:ItInv Ball n₀ nb Bn T a n cap l W) (hk:Kq Wr Ball W W') (hW:∀ k,Wr k→n₀≤k) (hB:¬ Wr Bn) (hn:n₀≤nb) (hBn:Bn<nb):ItInv Ball n₀ nb Bn T a n cap l W':=by
 have hrow:∀ k,k<nb→rowOf Ball W≠some k:=fun k hk e=>by have:=(h.row k e).1;omega
 have hlow:∀ p v,W.cell? p=some v→p.block<n₀→W'.cell? p=some v:=fun p v hc hp =>
  cell_of_heap hc fun o ho hoc=>hk.same _ o ho hoc (fun e=>by have:=hW _ e;omega) (hrow _ (by omega))
 refine⟨?_,h.low,?_,h.gs,hk.same Bn _ h.box rfl hB (hrow _ hBn),Nat.le_trans h.size hk.size,fun g hg=>?_⟩
 ·obtain⟨h1,h2,h3,h4⟩:=h.txt;refine⟨h1,h2,h3,h4.imp id ?_⟩;rintro ⟨x,rfl,hx⟩;exact⟨x,rfl,fun i hi=>hlow _ _ (hx i hi) (by rw[add_blk];exact h.low x rfl (by omega))⟩
 ·obtain⟨⟨t1,p1,g1⟩,t2,p2,g2⟩:=h.glob;exact⟨⟨t1,p1,hlow _ _ g1 h.gs.1⟩,t2,p2,hlow _ _ g2 h.gs.2⟩
 ·rcases hk.row with h1|⟨g',h1,h2,h3⟩
  ·rw[h1] at hg;have:=h.row g hg;have:=hk.size;omega
  ·rw[h1] at hg;cases hg;have:=h.size;omega
theorem ItInv.grow (h:ItInv Ball n₀ nb Bn T a n cap l W) (hb:Below W.heap.size W W') (hBl:Ball<nb) (hBn:Bn<nb):ItInv Ball n₀ nb Bn T a n cap l W':=by
 have hs:=hb.size;have hnb:=h.size;refine⟨h.txt.below hb (Nat.le_refl _),h.low,h.glob.below hb (Nat.le_refl _),h.gs,(hb.block Bn (by omega)).trans h.box,by omega,fun g hg=>?_⟩;rw[rowOf_same (hb.block Ball (by omega))] at hg;have:=h.row g hg;omega
theorem grownBy_of_below (h:Below W.heap.size W W'):W.grownBy W' none:=⟨h.os,h.tape,h.output,h.size,fun k hk _=>h.block k hk⟩
end
end Go.Proofs.YtenlhcgpajphhaaGreatDoor
namespace Go.Proofs.YtenlhcgpajphhaaGreatDoor
set_option linter.all false
theorem hex_back (c:UInt8):∀ v,hexVal c=some v→hexDigit v=c :=
 all_u8 (fun c=>∀ v,hexVal c=some v→hexDigit v=c) (by
  have h:∀ n:Fin 256,(match hexVal (UInt8.ofNat n.val) with|some v=>decide (hexDigit v=UInt8.ofNat n.val)|none=>true)=true:=by decide +kernel
  intro n v hv;have:=h n;rw[hv] at this
  simpa using this) c
theorem hex_on:∀ v,v<16→hexVal (hexDigit v)=some v∧hexDigit v≠34∧hexDigit v≠92:=by decide +kernel
theorem plain_no0:plainB 0=false:=by decide
theorem take_one {r:List UInt8} (h:0<r.length):r.take 1=[bAt r 0]:=by
 cases r with
 | nil=>simp at h
 | cons a r=>simp[bAt]
theorem take_two {r:List UInt8} (h:1<r.length):r.take 2=[bAt r 0,bAt r 1]:=by
 match r with
 | []=>simp at h
 | [a]=>simp at h
 | a :: b :: r=>simp[bAt]
theorem take_four {r:List UInt8} (h:3<r.length):r.take 4=[bAt r 0,bAt r 1,bAt r 2,bAt r 3]:=by
 match r with
 | []=>simp at h
 | [a]=>simp at h
 | [a,b]=>simp at h
 | [a,b,c]=>simp at h
 | a :: b :: c :: d :: r=>simp[bAt]
theorem hex_pos {c:UInt8} {v:Nat} (h:hexVal c=some v):c≠0:=by
 rintro rfl;rw[show hexVal 0=none from by decide] at h;cases h
theorem qp_plain {c:UInt8} (h1:c≠92) (h2:c≠34) (h:plainB c=true):qPart c=[c]:=by
 unfold qPart;rw[if_neg,if_pos]
 ·simpa [plainB] using h
 ·rintro (e|e)
  ·exact h2 (by apply UInt8.toNat_inj.1;simpa using e)
  ·exact h1 (by apply UInt8.toNat_inj.1;simpa using e)
theorem qp_esc {c:UInt8} (h:c=34∨c=92):qPart c=[92,c]:=by
 rcases h with rfl|rfl <;> decide
theorem qp_hex {c:UInt8} (h:plainB c=false):qPart c=[92,120,hexDigit (c.toNat / 16),hexDigit (c.toNat % 16)]:=by
 unfold qPart;have h':¬ (32≤c.toNat∧c.toNat≤126):=by simpa [plainB] using h
 rw[if_neg (by omega),if_neg h']
theorem part_take (r:List UInt8) (h:(partF r).2≠0):r.take (partF r).2=qPart (partF r).1:=by
 unfold partF at h ⊢;split
 ·rename_i hc;obtain⟨h1,h2,h3⟩:=hc;rw[qp_plain h1 h2 h3];exact take_one (bAt_pos (by rintro e;rw[e,plain_no0] at h3;cases h3))
 ·rename_i hn;rw[if_neg hn] at h;split
  ·rename_i hc;obtain⟨h1,h2⟩:=hc;rw[qp_esc h2];have:1<r.length:=bAt_pos (by rintro e;rw[e] at h2;revert h2;decide);rw[take_two this,h1]
  ·rename_i hn2;rw[if_neg hn2] at h;split
   ·rename_i hc;rw[if_pos hc] at h;split
    ·rename_i a b ha hb;rw[ha,hb] at h;simp only at h;split
     ·rename_i hp;rw[if_pos hp] at h;exact absurd rfl h
     ·rename_i hp;have hp':plainB (UInt8.ofNat (16 * a+b))=false:=by simpa using hp
      have a1:=hexVal_lt ha;have b1:=hexVal_lt hb;have e:(UInt8.ofNat (16 * a+b)).toNat=16 * a+b:=by simp;omega
      rw[qp_hex hp',e,show (16 * a+b) / 16=a by omega,show (16 * a+b) % 16=b by omega,hex_back _ _ ha,hex_back _ _ hb];have:3<r.length:=bAt_pos (hex_pos hb);rw[take_four this,hc.1,hc.2]
    ·rename_i hne;exfalso;split at h
     ·rename_i a b ha hb;exact hne a b ha hb
     ·exact h rfl
   ·rename_i hn3;rw[if_neg hn3] at h;exact absurd rfl h
theorem unq_back:∀ (f:Nat) (r s:List UInt8),unqF f r=some s→r=s.flatMap qPart++[34]
 | 0,r,s,h=>by cases h
 | f+1,r,s,h=>by
  unfold unqF at h;split at h
  ·rename_i hr;cases h;simpa using hr
  ·split at h
   ·cases h
   ·rename_i hk;cases hs:unqF f (r.drop (partF r).2) with
    | none=>rw[hs] at h;cases h
    | some t =>
     rw[hs] at h;simp only[Option.map_some,Option.some.injEq] at h;subst h;rw[List.flatMap_cons,List.append_assoc,← unq_back f _ t hs,← part_take r hk,List.take_append_drop]
theorem part_on (c:UInt8) (r:List UInt8):partF (qPart c++r)=(c,(qPart c).length)∧qPart c++r≠[34]∧0<(qPart c).length:=by
 by_cases h1:c=34∨c=92
 ·rw[qp_esc h1];refine⟨?_,by simp,by simp⟩;unfold partF;rw[if_neg (by simp[bAt]),if_pos ⟨by simp[bAt],by simpa [bAt] using h1⟩];simp[bAt]
 ·have h2:c≠34:=fun e=>h1 (.inl e);have h3:c≠92:=fun e=>h1 (.inr e);cases hp:plainB c with
  | true =>
   rw[qp_plain h3 h2 hp];refine⟨?_,by simp[h2],by simp⟩;unfold partF;rw[if_pos ⟨by simpa [bAt] using h3,by simpa [bAt] using h2,by simpa [bAt] using hp⟩];simp[bAt]
  | false =>
   rw[qp_hex hp];have hlt:c.toNat<256:=c.toNat_lt;refine⟨?_,by simp,by simp⟩;obtain⟨a1,_,_⟩:=hex_on (c.toNat / 16) (by omega);obtain⟨b1,_,_⟩:=hex_on (c.toNat % 16) (by omega);unfold partF;rw[if_neg (by simp[bAt]),if_neg (by simp[bAt]),if_pos (by simp[bAt])];have e2:bAt ([92,120,hexDigit (c.toNat / 16),hexDigit (c.toNat % 16)]++r) 2=hexDigit (c.toNat / 16):=by simp[bAt]
   have e3:bAt ([92,120,hexDigit (c.toNat / 16),hexDigit (c.toNat % 16)]++r) 3=hexDigit (c.toNat % 16):=by simp[bAt]
   rw[e2,e3,a1,b1];have e:UInt8.ofNat (16 * (c.toNat / 16)+c.toNat % 16)=c:=by rw[show 16 * (c.toNat / 16)+c.toNat % 16=c.toNat by omega];simp
   simp only[e,hp];simp
theorem unq_on:∀ (s:List UInt8) (f:Nat),(s.flatMap qPart).length<f→unqF f (s.flatMap qPart++[34])=some s
 | [],f,h=>by
  obtain⟨g,rfl⟩:∃ g,f=g+1:=⟨f-1,by simp at h;omega⟩
  simp[unqF]
 | c :: s,f,h=>by
  obtain⟨g,rfl⟩:∃ g,f=g+1:=⟨f-1,by omega⟩
  obtain⟨h1,h2,h3⟩:=part_on c (s.flatMap qPart++[34]);rw[List.flatMap_cons,List.append_assoc];unfold unqF;rw[if_neg h2,h1,if_neg (by simp only;omega)];simp only[List.drop_left];rw[unq_on s g (by rw[List.flatMap_cons,List.length_append] at h;omega)];rfl
theorem quoteLen_part (c:UInt8) (r:List UInt8):quoteLen (qPart c++r)=(qPart c).length+quoteLen r:=by
 by_cases h1:c=34∨c=92
 ·rw[qp_esc h1];simp only[List.cons_append,List.nil_append,List.length_cons,List.length_nil];rw[quoteLen_cons,if_neg (by decide),if_pos rfl]
 ·have h2:c≠34:=fun e=>h1 (.inl e);have h3:c≠92:=fun e=>h1 (.inr e);cases hp:plainB c with
  | true =>
   rw[qp_plain h3 h2 hp];simp only[List.cons_append,List.nil_append,List.length_cons,List.length_nil];rw[quoteLen_cons,if_neg h2,if_neg h3]
  | false =>
   rw[qp_hex hp];have hlt:c.toNat<256:=c.toNat_lt;obtain⟨_,a2,a3⟩:=hex_on (c.toNat / 16) (by omega);obtain⟨_,b2,b3⟩:=hex_on (c.toNat % 16) (by omega);simp only[List.cons_append,List.nil_append,List.length_cons,List.length_nil];rw[quoteLen_cons,if_neg (by decide),if_pos rfl];simp only;rw[quoteLen_cons,if_neg a2,if_neg a3,quoteLen_cons,if_neg b2,if_neg b3];omega
def Behind (c c':UInt8):Prop:=c'=c∨blankB c'=true∨c'=0
def zT (x:Tok × Nat):Tok × Nat:=({ x.1 with at_:=0 },x.2)
def joinB (l:List UInt8) (xs:List (Tok × Nat)):List UInt8:=xs.flatMap fun x=>32 :: pieceOf l x.1.at_ (x.1.at_+x.1.size)
end Go.Proofs.YtenlhcgpajphhaaGreatDoor
