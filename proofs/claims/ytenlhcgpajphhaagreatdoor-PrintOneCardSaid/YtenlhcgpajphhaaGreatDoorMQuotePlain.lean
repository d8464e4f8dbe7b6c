import Derived.WalkKit
import Derived.Lib.BytesEntry
import Derived.Lib.ParseIntB
import Derived.Lib.Bytealg
import Derived.Lib.BitFns
import Derived.Test.YtenlhcgpajphhaaGreatDoorRows
import Derived.Laws.Externs
import Derived.WalkSpells
import Derived.WalkLawsBesides
import Derived.Lib.Hide
namespace Go.Proofs.YtenlhcgpajphhaaGreatDoor
set_option linter.all false
def qb6 (n:Nat):UInt8:=if n<10 then (48+n).toUInt8 else (87+n).toUInt8
def qbI (c:UInt8):List UInt8 :=
 if c.toNat=34∨c.toNat=92 then [92,c] else if 32≤c.toNat∧c.toNat≤126 then [c] else [92,120,qb6 (c.toNat / 16),qb6 (c.toNat % 16)]
def qfQ (l:List UInt8):List UInt8:=34 :: l.flatMap qbI
def qdI (l:List UInt8):List UInt8:=qfQ l++[34]
def u8s (l:List UInt8):List Value:=l.map fun b=>Value.int .u8 b.toNat
theorem qf2 (a b:List UInt8):u8s (a++b)=u8s a++u8s b:=by simp[u8s]
theorem qf1 (a:List UInt8):(u8s a).length=a.length:=by simp[u8s]
theorem qhU (a:List UInt8):∀ u ∈ u8s a,u.oneCell'=true:=by
 intro u hu;simp only[u8s,List.mem_map] at hu;obtain⟨b,_,rfl⟩:=hu;rfl
theorem qxA (l:List UInt8) (c:UInt8):qfQ (l++[c])=qfQ l++qbI c:=by simp[qfQ]
theorem q45 (c:UInt8):(qbI c).length≤4:=by unfold qbI;split <;> (try split) <;> simp
theorem quM (l:List UInt8):(qfQ l).length≤1+4 * l.length:=by
 induction l with
 | nil=>simp[qfQ]
 | cons a l ih=>have:=q45 a;simp[qfQ] at *;omega
theorem qzC (l:List UInt8) (k:Nat) (h:k<l.length):l.take (k+1)=l.take k++[l[k]]:=by
 rw[List.take_succ_eq_append_getElem h]
theorem qqV (c:UInt8) (h:c.toNat=34∨c.toNat=92):qbI c=[92,c]:=by unfold qbI;rw[if_pos h]
theorem qsR (c:UInt8) (h:¬ (c.toNat=34∨c.toNat=92)) (h2:32≤c.toNat∧c.toNat≤126):qbI c=[c]:=by unfold qbI;rw[if_neg h,if_pos h2]
theorem q0E (c:UInt8) (h:¬ (c.toNat=34∨c.toNat=92)) (h2:¬ (32≤c.toNat∧c.toNat≤126)):qbI c=[92,120,qb6 (c.toNat / 16),qb6 (c.toNat % 16)]:=by unfold qbI;rw[if_neg h,if_neg h2]
def jcV:ByteArray:=⟨#[48,49,50,51,52,53,54,55,56,57,97,98,99,100,101,102]⟩
theorem jcX:∀ (n:Nat) (h:n<16),(⟨#[48,49,50,51,52,53,54,55,56,57,97,98,99,100,101,102]⟩:ByteArray)[n]'h=qb6 n:=by decide
theorem jd3:∀ n:Nat,n<256→bits .and .u8 (n:Int) 15=(n:Int) % 16:=by decide +kernel
theorem qvM (z:Int) (n:Nat) (hz:z=(n:Int)) (hn:n<16):∀ h,(⟨#[48,49,50,51,52,53,54,55,56,57,97,98,99,100,101,102]⟩:ByteArray)[z.toNat]'h=qb6 n:=by
 subst hz;intro h;exact jcX n hn
open Go.RowKit
def jb5 (l:List UInt8):Nat→Int
 | 0=>-1
 | k+1=>if l[k]?=some 10 then (k:Int) else jb5 l k
def jcZ (l:List UInt8) (k:Nat):Nat:=(l.take k).count 10
def At (w:World) (a:Addr) (l:List UInt8):Prop:=∀ i (h:i<l.length),w.cell? (a.add i)=some (.int .u8 (l[i].toNat:Int))
def Txt (w:World) (a:Option Addr) (n cap:Nat) (l:List UInt8):Prop :=
 l.length=n∧n≤cap∧cap≤maxLen∧((a=none∧n=0∧cap=0)∨∃ x,a=some x∧At w x l)
theorem At.spot {w:World} {b o:Nat} {s} {l:List UInt8} (h:At w ⟨b,o,s⟩ l) (hl:0<l.length):s=none∧∀ i (h:i<l.length),w.cell? ⟨b,o+i,none⟩=some (.int .u8 (l[i].toNat:Int)):=by
 have h0:=h 0 hl;have hs:s=none:=by simpa [Addr.add] using World.cell?_spot h0
 subst hs;refine⟨rfl,fun i hi=>?_⟩;have:=h i hi;have hadd:(⟨b,o,none⟩:Addr).add i=⟨b,o+i,none⟩:=by unfold Addr.add;split <;> simp_all
 rwa [hadd] at this
theorem At.cells {w:World} {a:Addr} {l:List UInt8} (h:At w a l):∀ j u,(u8s l)[j]?=some u→w.cell? (a.add j)=some u:=by
 intro j u hu;simp only[u8s,List.getElem?_map,Option.map_eq_some_iff] at hu;obtain⟨b,hb,rfl⟩:=hu;obtain⟨hj,rfl⟩:=List.getElem?_eq_some_iff.1 hb;exact h j hj
theorem At.mono {w w':World} {a:Addr} {l:List UInt8} (h:At w a l) (hc:∀ i,i<l.length→w'.cell? (a.add i)=w.cell? (a.add i)):At w' a l:=fun i hi=>(hc i hi).trans (h i hi)
theorem Txt.below {w w':World} {B:Nat} {a:Option Addr} {n cap:Nat} {l:List UInt8} (h:Txt w a n cap l) (hb:Below B w w') (hB:w.heap.size≤B):Txt w' a n cap l:=by
 obtain⟨h1,h2,h3,h4⟩:=h;refine⟨h1,h2,h3,h4.imp id ?_⟩;rintro ⟨x,rfl,hx⟩;refine⟨x,rfl,hx.mono fun i hi=>hb.cell (p:=x.add i) ?_⟩;have:=World.block_lt_of_cell? w _ (hx i hi);omega
theorem At.owned {w:World} {base g cap n e:Nat} {l:List UInt8} (hown:w.ownsRow base e 1 (.slice (some ⟨g,0,none⟩) n cap) n (u8s l)):At w ⟨g,0,none⟩ l :=
 fun j hj=>hown.cells rfl j _ (by simp[u8s,hj])
theorem At.take {w:World} {a:Addr} {l:List UInt8} (h:At w a l) (k:Nat):At w a (l.take k):=fun i hi=>by
 have hi':i<l.length:=by simp at hi;omega
 have:=h i hi'
 simpa using this
def bAt (l:List UInt8) (i:Nat):UInt8:=l[i]?.getD 0
def qc6 (c:UInt8):Bool:=c==32 || c==9 || c==10 || c==13
def qa8 (c:UInt8):Bool:=decide (65≤c.toNat∧c.toNat≤90) || decide (97≤c.toNat∧c.toNat≤122)
def qa1 (c:UInt8):Bool:=decide (48≤c.toNat∧c.toNat≤57)
def qaJ (c:UInt8):Bool:=qa8 c || qa1 c || c==95
theorem qeT {l:List UInt8} {i:Nat} (h:i<l.length):bAt l i=l[i]:=by simp[bAt,List.getElem?_eq_getElem h]
theorem qfG {l:List UInt8} {i:Nat} (h:l.length≤i):bAt l i=0:=by simp[bAt,List.getElem?_eq_none h]
def tw (p:UInt8→Bool) (l:List UInt8) (j:Nat):Nat:=((l.drop j).takeWhile p).length
def qb8:Bool→List UInt8→Nat
 | _,[]=>0
 | true,c :: r=>if c=10 then 1+qb8 false r else 1+qb8 true r
 | false,c :: r=>if qc6 c=true then 1+qb8 false r else if c=35 then 1+qb8 true r else 0
def qcR:List UInt8→Nat
 | []=>0
 | c :: r=>if c=34 then 1 else if c=92 then (match r with|[]=>1|_ :: r'=>2+qcR r') else 1+qcR r
theorem qbH (c:UInt8) (r:List UInt8):qcR (c :: r)=if c=34 then 1 else if c=92 then (match r with|[]=>1|_ :: r'=>2+qcR r') else 1+qcR r:=by
 rw[qcR.eq_def]
def qaP (a b:UInt8):Bool:=(a==61 && b==61) || (a==33 && b==61) || (a==60 && b==61) || (a==62 && b==61) || (a==38 && b==38) || (a==124 && b==124) || (a==45 && b==62)
def qd3:List UInt8:=[40,41,123,125,44,59,58,46,38,43,45,42,47,37,60,62,33,61,95]
def qb7 (c:UInt8):Bool:=qd3.contains c
def qaE:List UInt8→Nat
 | []=>0
 | [c]=>if qb7 c=true then 1 else 0
 | c :: d :: _=>if qaP c d=true then 2 else if qb7 c=true then 1 else 0
theorem qjQ (r:List UInt8):qaE r≤r.length:=by
 match r with
 | []=>simp[qaE]
 | [c]=>simp only[qaE];split <;> simp
 | c :: d :: t=>simp only[qaE,List.length_cons];split <;> (try split) <;> omega
theorem At.drop {w:World} {b o:Nat} {l:List UInt8} (h:At w ⟨b,o,none⟩ l) (k:Nat):At w ⟨b,o+k,none⟩ (l.drop k):=fun i hi=>by
 have hi':k+i<l.length:=by simp at hi;omega
 have:=(h.spot (by omega)).2 (k+i) hi';have hadd:(⟨b,o+k,none⟩:Addr).add i=⟨b,o+(k+i),none⟩:=by unfold Addr.add;split <;> simp_all <;> omega
 rw[hadd,this];simp
def qdT (l:List UInt8) (d:Nat):Nat × Nat :=
 if bAt l d≠112 then (2,d)
 else if bAt l (d+1)=45 then (3,d+2+tw qa1 l (d+2)) else (3,d+1+tw qa1 l (d+1))
def qaD (l:List UInt8) (A:Nat):Nat × Nat :=
 if qa8 (bAt l A)=true then (1,A+1+tw qaJ l (A+1))
 else if qa1 (bAt l A)=true then qdT l (A+1+tw qa1 l (A+1))
 else if bAt l A=34 then (4,min (A+1+qcR (l.drop (A+1))) l.length)
 else if 0<qaE (l.drop A) then (5,A+qaE (l.drop A)) else (0,A)
theorem qbZ {l:List UInt8} {j:Nat} (h:j<l.length):l.drop j=bAt l j :: l.drop (j+1):=by
 rw[qeT h];exact List.drop_eq_getElem_cons h
theorem qqC {p:UInt8→Bool} {l:List UInt8} {j:Nat} (hp:p (bAt l j)=true) (h0:p 0=false):j<l.length∧tw p l j=1+tw p l (j+1):=by
 have hj:j<l.length:=by
  rcases Nat.lt_or_ge j l.length with h|h
  ·exact h
  ·rw[qfG h,h0] at hp;cases hp
 refine⟨hj,?_⟩;unfold tw;rw[qbZ hj,List.takeWhile_cons,if_pos hp,List.length_cons];omega
theorem qz6 {p:UInt8→Bool} {l:List UInt8} {j:Nat} (hp:p (bAt l j)=false):tw p l j=0:=by
 unfold tw;rcases Nat.lt_or_ge j l.length with h|h
 ·rw[qbZ h,List.takeWhile_cons,if_neg (by simp[hp])];rfl
 ·rw[List.drop_eq_nil_of_le h];rfl
theorem ja0:qaJ 0=false:=by decide
theorem qg5:qa1 0=false:=by decide
theorem qjS:qa8 0=false:=by decide
theorem qwR (p:UInt8→Bool) (l:List UInt8) (j:Nat):tw p l j≤l.length-j:=by
 unfold tw;have:=(List.takeWhile_prefix p (l:=l.drop j)).length_le
 simpa using this
def qcN (l:List UInt8) (K A E:Nat) (lab i at_:Nat):Prop :=
 match lab with
 | 0=>i≤l.length∧A=i+qb8 false (l.drop i)∧qaD l A=(K,E)
 | 1=>i<l.length∧A=i+1+qb8 true (l.drop (i+1))∧qaD l A=(K,E)
 | 2=>i<l.length∧at_=A∧K=1∧E=i+1+tw qaJ l (i+1)
 | 3=>i<l.length∧at_=A∧qdT l (i+1+tw qa1 l (i+1))=(K,E)
 | 4=>i≤l.length∧at_=A∧K=4∧E=min (i+1+qcR (l.drop (i+1))) l.length
 | 5=>i<l.length∧at_=A∧K=3∧E=i+1+tw qa1 l (i+1)
 | 6=>i<l.length∧at_=A∧K=4∧E=min (i+2+qcR (l.drop (i+2))) l.length
 | _=>False
section
variable {l:List UInt8} {K A E i at_:Nat}
theorem q6K (h:qcN l K A E 0 i at_) (hi:i=l.length):K=0∧A=i∧E=i:=by
 obtain⟨_,h2,h3⟩:=h;subst hi;have hA:A=l.length:=by rw[h2,List.drop_length];simp[qb8]
 rw[hA] at h3 ⊢;unfold qaD at h3;rw[qfG (Nat.le_refl _),qjS,qg5,List.drop_length] at h3;simp[qaE] at h3;omega
theorem quK (h:qcN l K A E 0 i at_) (hi:i<l.length) (hb:qc6 (bAt l i)=true) (x:Nat):qcN l K A E 0 (i+1) x:=by
 obtain⟨_,h2,h3⟩:=h;refine⟨by omega,?_,h3⟩;rw[qbZ hi,qb8,if_pos hb] at h2;omega
theorem qnA (h:qcN l K A E 0 i at_) (hi:i<l.length) (hb:qc6 (bAt l i)=false) (hc:bAt l i=35) (x:Nat):qcN l K A E 1 i x:=by
 obtain⟨_,h2,h3⟩:=h;refine⟨hi,?_,h3⟩;rw[qbZ hi,qb8,if_neg (by simp[hb]),if_pos hc] at h2;omega
theorem qlN (h:qcN l K A E 0 i at_) (hi:i<l.length) (hb:qc6 (bAt l i)=false) (hc:bAt l i≠35):A=i∧qaD l i=(K,E):=by
 obtain⟨_,h2,h3⟩:=h;rw[qbZ hi,qb8,if_neg (by simp[hb]),if_neg hc] at h2;obtain rfl:A=i:=by omega
 exact⟨rfl,h3⟩
theorem q0A (h:qcN l K A E 0 i at_) (hi:i<l.length) (hb:qc6 (bAt l i)=false) (hc:bAt l i≠35) (hl:qa8 (bAt l i)=true):qcN l K A E 2 i i:=by
 obtain⟨rfl,h3⟩:=qlN h hi hb hc;unfold qaD at h3;rw[if_pos hl] at h3;simp only[Prod.mk.injEq] at h3;exact⟨hi,rfl,h3.1.symm,h3.2.symm⟩
theorem qqU (h:qcN l K A E 0 i at_) (hi:i<l.length) (hb:qc6 (bAt l i)=false) (hc:bAt l i≠35) (hl:qa8 (bAt l i)=false) (hd:qa1 (bAt l i)=true):qcN l K A E 3 i i:=by
 obtain⟨rfl,h3⟩:=qlN h hi hb hc;unfold qaD at h3;rw[if_neg (by simp[hl]),if_pos hd] at h3;exact⟨hi,rfl,h3⟩
theorem qqT (h:qcN l K A E 0 i at_) (hi:i<l.length) (hb:qc6 (bAt l i)=false) (hc:bAt l i≠35) (hl:qa8 (bAt l i)=false) (hd:qa1 (bAt l i)=false) (hq:bAt l i=34):qcN l K A E 4 i i:=by
 obtain⟨rfl,h3⟩:=qlN h hi hb hc;unfold qaD at h3;rw[if_neg (by simp[hl]),if_neg (by simp[hd]),if_pos hq] at h3;simp only[Prod.mk.injEq] at h3;exact⟨by omega,rfl,h3.1.symm,h3.2.symm⟩
theorem q0B (h:qcN l K A E 0 i at_) (hi:i<l.length) (hb:qc6 (bAt l i)=false) (hc:bAt l i≠35) (hl:qa8 (bAt l i)=false) (hd:qa1 (bAt l i)=false) (hq:bAt l i≠34) (hm:0<qaE (l.drop i)):A=i∧K=5∧E=i+qaE (l.drop i):=by
 obtain⟨rfl,h3⟩:=qlN h hi hb hc;unfold qaD at h3;rw[if_neg (by simp[hl]),if_neg (by simp[hd]),if_neg hq,if_pos hm] at h3;simp only[Prod.mk.injEq] at h3;exact⟨rfl,h3.1.symm,h3.2.symm⟩
theorem q09 (h:qcN l K A E 0 i at_) (hi:i<l.length) (hb:qc6 (bAt l i)=false) (hc:bAt l i≠35) (hl:qa8 (bAt l i)=false) (hd:qa1 (bAt l i)=false) (hq:bAt l i≠34) (hm:qaE (l.drop i)=0):A=i∧K=0∧E=i:=by
 obtain⟨rfl,h3⟩:=qlN h hi hb hc;unfold qaD at h3;rw[if_neg (by simp[hl]),if_neg (by simp[hd]),if_neg hq,if_neg (by omega)] at h3;simp only[Prod.mk.injEq] at h3;exact⟨rfl,h3.1.symm,h3.2.symm⟩
theorem jcJ (h:qcN l K A E 1 i at_) (hi:i+1<l.length) (hc:bAt l (i+1)≠10):qcN l K A E 1 (i+1) at_:=by
 obtain⟨_,h2,h3⟩:=h;refine⟨hi,?_,h3⟩;rw[qbZ hi,qb8,if_neg hc] at h2;omega
theorem q6J (h:qcN l K A E 1 i at_) (hi:i+1=l.length∨bAt l (i+1)=10) (x:Nat):qcN l K A E 0 (i+1) x:=by
 obtain⟨h1,h2,h3⟩:=h;refine⟨by omega,?_,h3⟩;rw[h2];rcases Nat.lt_or_ge (i+1) l.length with h4|h4
 ·have h5:bAt l (i+1)=10:=by rcases hi with h|h;omega;exact h
  rw[qbZ h4,qb8,qb8,if_pos h5,if_pos (by rw[h5];decide)]
 ·rw[List.drop_eq_nil_of_le h4];simp[qb8]
theorem jcI (h:qcN l K A E 2 i at_) (hw:qaJ (bAt l (i+1))=true):qcN l K A E 2 (i+1) at_:=by
 obtain⟨h1,h2,h3,h4⟩:=h;obtain⟨h5,h6⟩:=qqC hw ja0;exact⟨h5,h2,h3,by rw[h4,h6];omega⟩
theorem jaJ (h:qcN l K A E 2 i at_) (hw:qaJ (bAt l (i+1))=false):at_=A∧K=1∧E=i+1:=by
 obtain⟨h1,h2,h3,h4⟩:=h;rw[qz6 hw] at h4;exact⟨h2,h3,h4⟩
theorem jcH (h:qcN l K A E 3 i at_) (hw:qa1 (bAt l (i+1))=true):qcN l K A E 3 (i+1) at_:=by
 obtain⟨h1,h2,h3⟩:=h;obtain⟨h5,h6⟩:=qqC hw qg5;exact⟨h5,h2,by rw[← h3,h6];congr 1;omega⟩
theorem jaI (h:qcN l K A E 3 i at_) (hw:qa1 (bAt l (i+1))=false) (hp:bAt l (i+1)≠112):at_=A∧K=2∧E=i+1:=by
 obtain⟨h1,h2,h3⟩:=h;rw[qz6 hw] at h3;unfold qdT at h3;rw[if_pos hp] at h3;simp only[Prod.mk.injEq] at h3;exact⟨h2,h3.1.symm,h3.2.symm⟩
theorem jaH (hp:bAt l (i+1)=112):i+1<l.length:=by
 rcases Nat.lt_or_ge (i+1) l.length with h|h
 ·exact h
 ·rw[qfG h] at hp;exact absurd hp (by decide)
theorem jaG (h:qcN l K A E 3 i at_) (hw:qa1 (bAt l (i+1))=false) (hp:bAt l (i+1)=112) (hm:bAt l (i+1+1)=45):qcN l K A E 5 (i+1+1) at_:=by
 obtain⟨h1,h2,h3⟩:=h;rw[qz6 hw] at h3;unfold qdT at h3;rw[if_neg (by simpa using hp),if_pos hm] at h3;simp only[Prod.mk.injEq] at h3;have hlt:i+1+1<l.length:=by
  rcases Nat.lt_or_ge (i+1+1) l.length with h|h
  ·exact h
  ·rw[qfG h] at hm;exact absurd hm (by decide)
 exact⟨hlt,h2,h3.1.symm,h3.2.symm⟩
theorem jaF (h:qcN l K A E 3 i at_) (hw:qa1 (bAt l (i+1))=false) (hp:bAt l (i+1)=112) (hm:bAt l (i+1+1)≠45):qcN l K A E 5 (i+1) at_:=by
 obtain⟨h1,h2,h3⟩:=h;rw[qz6 hw] at h3;unfold qdT at h3;rw[if_neg (by simpa using hp),if_neg hm] at h3;simp only[Prod.mk.injEq] at h3;exact⟨jaH hp,h2,h3.1.symm,h3.2.symm⟩
theorem q86 (h:qcN l K A E 5 i at_) (hw:qa1 (bAt l (i+1))=true):qcN l K A E 5 (i+1) at_:=by
 obtain⟨h1,h2,h3,h4⟩:=h;obtain⟨h5,h6⟩:=qqC hw qg5;exact⟨h5,h2,h3,by rw[h4,h6];omega⟩
theorem q08 (h:qcN l K A E 5 i at_) (hw:qa1 (bAt l (i+1))=false):at_=A∧K=3∧E=i+1:=by
 obtain⟨h1,h2,h3,h4⟩:=h;rw[qz6 hw] at h4;exact⟨h2,h3,h4⟩
theorem jaE (h:qcN l K A E 4 i at_) (hi:i+1<l.length) (hc:bAt l (i+1)=92):qcN l K A E 6 (i+1) at_:=by
 obtain⟨h1,h2,h3,h4⟩:=h;refine⟨hi,h2,h3,?_⟩;rw[h4,qbZ hi,qbH,if_neg (by rw[hc];decide),if_pos hc];rcases Nat.lt_or_ge (i+1+1) l.length with h5|h5
 ·rw[qbZ h5];simp only[];rw[show i+1+1+1=i+1+2 from rfl]
  congr 1
  omega
 ·rw[List.drop_eq_nil_of_le h5,List.drop_eq_nil_of_le (show l.length≤i+1+2 by omega)];simp only[qcR];omega
theorem jcG (h:qcN l K A E 4 i at_) (hi:i+1<l.length) (hc:bAt l (i+1)≠92) (hq:bAt l (i+1)≠34):qcN l K A E 4 (i+1) at_:=by
 obtain⟨h1,h2,h3,h4⟩:=h;refine⟨by omega,h2,h3,?_⟩;rw[h4,qbZ hi,qbH,if_neg hq,if_neg hc]
 congr 1
 omega
theorem q6I (h:qcN l K A E 4 i at_) (hi:l.length≤i+1∨bAt l (i+1)=34):at_=A∧K=4∧E=min (i+1+1) l.length:=by
 obtain⟨h1,h2,h3,h4⟩:=h;refine⟨h2,h3,?_⟩;rw[h4];rcases Nat.lt_or_ge (i+1) l.length with h5|h5
 ·have hq:bAt l (i+1)=34:=by rcases hi with h|h;omega;exact h
  rw[qbZ h5,qbH,if_pos hq]
 ·rw[List.drop_eq_nil_of_le h5];simp only[qcR];omega
theorem jcF (h:qcN l K A E 6 i at_):qcN l K A E 4 (i+1) at_:=by
 obtain⟨h1,h2,h3,h4⟩:=h;exact⟨by omega,h2,h3,h4⟩
end
def qaK (l:List UInt8):Option Int :=
 match Lib.parseIntB 64 l with
 | .ok v=>if 1<l.length∧bAt l 0=48 then none else some v
 | _=>none
theorem qlT {l:List UInt8} {v:Int} (h:Lib.parseIntB 64 l=.ok v):-9223372036854775808≤v∧v≤9223372036854775807:=by
 unfold Lib.parseIntB at h;cases l with
 | nil=>simp at h
 | cons c r =>
  simp only at h;split at h
  ·cases h
  ·cases h
  ·rename_i u hu;simp only[Nat.add_one_sub_one,Nat.reduceSub,Nat.reducePow] at h;by_cases hn:c.toNat=45
   ·simp[hn] at h;split at h
    ·cases h
    ·injection h with h;omega
   ·simp[hn] at h;split at h
    ·cases h
    ·injection h with h;omega
theorem qk4 {l:List UInt8} {v:Int} (h:qaK l=some v):-9223372036854775808≤v∧v≤9223372036854775807:=by
 unfold qaK at h;split at h
 ·rename_i u hu;split at h
  ·cases h
  ·injection h with h;subst h;exact qlT hu
 ·cases h
def jcW:List UInt8:=[48,49,50,51,52,53,54,55,56,57,97,98,99,100,101,102]
def qeS (c:UInt8):Option Nat :=
 if 48≤c.toNat∧c.toNat≤57 then some (c.toNat-48) else if 97≤c.toNat∧c.toNat≤102 then some (c.toNat-87) else none
def qtE (c:UInt8):Int:=match qeS c with|some v=>(v:Int)|none=>-1
theorem qkF (p:UInt8→Prop) (h:∀ n:Fin 256,p (UInt8.ofNat n.val)) (c:UInt8):p c:=by
 have:=h ⟨c.toNat,c.toNat_lt⟩
 simpa using this
theorem q1V (c:UInt8):Lib.indexByte jcW c=qtE c :=
 qkF (fun c=>Lib.indexByte jcW c=qtE c) (by decide +kernel) c
theorem qh0 {c:UInt8} {v:Nat} (h:qeS c=some v):v<16:=by
 unfold qeS at h;split at h
 ·injection h with h;omega
 ·split at h
  ·injection h with h;omega
  ·cases h
theorem q8T (c:UInt8):-1≤qtE c∧qtE c≤15:=by
 unfold qtE;split
 ·rename_i v h;have:=qh0 h;omega
 ·omega
theorem qpF:qeS 0=none:=by decide
def qfL (c:UInt8):Bool:=decide (32≤c.toNat∧c.toNat≤126)
def qaQ (r:List UInt8):UInt8 × Nat :=
 if bAt r 0≠92∧bAt r 0≠34∧qfL (bAt r 0)=true then (bAt r 0,1)
 else if bAt r 0=92∧(bAt r 1=34∨bAt r 1=92) then (bAt r 1,2)
 else if bAt r 0=92∧bAt r 1=120 then
  match qeS (bAt r 2),qeS (bAt r 3) with
  | some h,some k=>if qfL (UInt8.ofNat (16 * h+k))=true then (0,0) else (UInt8.ofNat (16 * h+k),4)
  | _,_=>(0,0)
 else (0,0)
theorem qi8 {l:List UInt8} {i:Nat} (h:bAt l i≠0):i<l.length:=by
 rcases Nat.lt_or_ge i l.length with h'|h'
 ·exact h'
 ·exact absurd (qfG h') h
theorem quT (r:List UInt8):(qaQ r).2≤r.length∧(qaQ r).2≤4:=by
 unfold qaQ;split
 ·rename_i h;have h0:bAt r 0≠0:=by intro e;rw[e] at h;exact absurd h.2.2 (by decide)
  have:=qi8 h0;simp;omega
 ·split
  ·rename_i h;have h0:bAt r 1≠0:=by intro e;rw[e] at h;exact absurd h.2 (by decide)
   have:=qi8 h0;simp;omega
  ·split
   ·split
    ·rename_i h _ _ a b ha hb;split
     ·simp
     ·have h0:bAt r 3≠0:=by intro e;rw[e,qpF] at hb;cases hb
      have:=qi8 h0;simp;omega
    ·simp
   ·simp
def qu1:Nat→List UInt8→Option (List UInt8)
 | 0,_=>none
 | f+1,r=>if r=[34] then some [] else if (qaQ r).2=0 then none else (qu1 f (r.drop (qaQ r).2)).map ((qaQ r).1 :: ·)
def qbX (l:List UInt8):Option (List UInt8) :=
 match qu1 (l.length+1) (l.drop 1) with
 | some s=>if s.length≤256 then some s else none
 | none=>none
def qaI (m e:Int):Bool :=
 if m=0 then decide (e=0)
 else if m % 2=0∨9007199254740992≤m∨e < -1074∨1023<e then false
 else decide ((Lib.bitLen m.toNat:Int)+e≤1024)
def qcJ (l:List UInt8):List UInt8 × List UInt8 :=
 if 0≤Lib.indexByte l 112 then (l.take (Lib.indexByte l 112).toNat,l.drop ((Lib.indexByte l 112).toNat+1)) else (l,[])
def qcA (l:List UInt8):Option (Int × Int) :=
 match qaK (qcJ l).1,qaK (if bAt (qcJ l).2 0=45 then (qcJ l).2.drop 1 else (qcJ l).2) with
 | some m,some e =>
  if bAt (qcJ l).2 0=45 then (if e=0 then none else if qaI m (-e)=true then some (m,-e) else none)
  else if qaI m e=true then some (m,e) else none
 | _,_=>none
def qaA (m e:Int):Nat:=Ieee.double.nearest false m.toNat e
inductive Lf where
 | int (v:Int)
 | real (b:Nat)
 | text (t:ByteArray)
 | bool (b:Bool)
 | var (t:ByteArray)
inductive Cl where
 | mark (s:List UInt8)
 | leaf (l:Lf)
 | word (k:Nat)
 | no
inductive Ex where
 | lf (l:Lf)
 | un (k:Nat) (a:Ex)
 | bi (k:Nat) (a b:Ex)
inductive Rs where
 | ok (t:Ex) (at_:Nat)
 | bad (at_:Nat)
def opK (s:List UInt8):Nat :=
 if s=[124,124] then 17 else if s=[38,38] then 16 else if s=[61,61] then 10 else if s=[33,61] then 11 else if s=[60] then 12 else if s=[60,61] then 13
 else if s=[62] then 14 else if s=[62,61] then 15 else if s=[43] then 5 else if s=[45] then 6 else if s=[42] then 7 else if s=[47] then 8 else if s=[37] then 9 else 0
def opL (k:Nat):Nat:=if k=17 then 1 else if k=16 then 2 else if 10≤k∧k≤15 then 3 else if k=5∨k=6 then 4 else if 7≤k∧k≤9 then 5 else 0
def clK:Cl→Nat
 | .mark s=>opK s
 | _=>0
def sgK:Cl→Nat
 | .mark s=>if s=[45] then 3 else if s=[33] then 4 else 0
 | _=>0
def wdN (k:Nat):Nat:=if k=21∨k=24∨k=25 then 2 else 1
def isM (c:Cl) (s:List UInt8):Bool :=
 match c with
 | .mark t=>t==s
 | _=>false
inductive Nt where
 | lvl (n:Nat)
 | loop (n:Nat) (a:Ex)
def qjF (o:Option Rs) (k:Ex→Nat→Option Rs):Option Rs :=
 match o with
 | none=>none
 | some (.bad e)=>some (.bad e)
 | some (.ok a e)=>k a e
def rd (g:Nat→Cl):Nat→Nt→Nat→Option Rs
 | 0,_,_=>none
 | f+1,.lvl n,p =>
  if n=7 then
   match g p with
   | .leaf l=>some (.ok (.lf l) (p+1))
   | .mark s=>if s=[40] then qjF (rd g f (.lvl 1) (p+1)) fun a q=>if isM (g q) [41] then some (.ok a (q+1)) else some (.bad q) else some (.bad p)
   | .word k =>
    if isM (g (p+1)) [40] then
     qjF (rd g f (.lvl 1) (p+2)) fun a q =>
      if wdN k=1 then (if isM (g q) [41] then some (.ok (.un k a) (q+1)) else some (.bad q))
      else if isM (g q) [44] then
       qjF (rd g f (.lvl 1) (q+1)) fun b q2=>if isM (g q2) [41] then some (.ok (.bi k a b) (q2+1)) else some (.bad q2)
      else some (.bad q)
    else some (.bad (p+1))
   | .no=>some (.bad p)
  else if n=6 then
   if sgK (g p)=0 then rd g f (.lvl 7) p else qjF (rd g f (.lvl 6) (p+1)) fun a q=>some (.ok (.un (sgK (g p)) a) q)
  else qjF (rd g f (.lvl (n+1)) p) fun a q=>rd g f (.loop n a) q
 | f+1,.loop n a,p =>
  if opL (clK (g p))=n then
   qjF (rd g f (.lvl (n+1)) (p+1)) fun b q=>if n=3 then some (.ok (.bi (clK (g p)) a b) q) else rd g f (.loop n (.bi (clK (g p)) a b)) q
  else some (.ok a p)
theorem qf4 {o o':Option Rs} {k k':Ex→Nat→Option Rs} {r:Rs} (h1:∀ x,o=some x→o'=some x) (h2:∀ a q x,k a q=some x→k' a q=some x) (h:qjF o k=some r):qjF o' k'=some r:=by
 unfold qjF at h ⊢;cases ho:o with
 | none=>rw[ho] at h;cases h
 | some x =>
  rw[h1 x ho];rw[ho] at h;cases x with
  | ok a e=>exact h2 a e r h
  | bad e=>exact h
theorem q84 (g:Nat→Cl):∀ (f:Nat) (X:Nt) (p:Nat) (r:Rs),rd g f X p=some r→rd g (f+1) X p=some r:=by
 intro f
 induction f with
 | zero=>intro X p r h;unfold rd at h;cases h
 | succ f ih =>
  intro X p r h;cases X with
  | lvl n =>
   rw[rd] at h ⊢;split
   ·rename_i hn;rw[if_pos hn] at h;cases hg:g p with
    | leaf l=>rw[hg] at h;exact h
    | mark s =>
     rw[hg] at h;simp only at h ⊢;split
     ·rename_i hs;rw[if_pos hs] at h;exact qf4 (fun x=>ih _ _ x) (fun a q x hx=>hx) h
     ·rename_i hs;rw[if_neg hs] at h;exact h
    | word k =>
     rw[hg] at h;simp only at h ⊢;split
     ·rename_i hs;rw[if_pos hs] at h;refine qf4 (fun x=>ih _ _ x) (fun a q x hx=>?_) h;split
      ·rename_i hw;rw[if_pos hw] at hx;exact hx
      ·rename_i hw;rw[if_neg hw] at hx;split
       ·rename_i hc;rw[if_pos hc] at hx;exact qf4 (fun x=>ih _ _ x) (fun a q x hx=>hx) hx
       ·rename_i hc;rw[if_neg hc] at hx;exact hx
     ·rename_i hs;rw[if_neg hs] at h;exact h
    | no=>rw[hg] at h;exact h
   ·rename_i hn;rw[if_neg hn] at h;split
    ·rename_i h6;rw[if_pos h6] at h;split
     ·rename_i hs;rw[if_pos hs] at h;exact ih _ _ _ h
     ·rename_i hs;rw[if_neg hs] at h;exact qf4 (fun x=>ih _ _ x) (fun a q x hx=>hx) h
    ·rename_i h6;rw[if_neg h6] at h;exact qf4 (fun x=>ih _ _ x) (fun a q x=>ih _ _ x) h
  | loop n a =>
   rw[rd] at h ⊢;split
   ·rename_i hn;rw[if_pos hn] at h;refine qf4 (fun x=>ih _ _ x) (fun b q x hx=>?_) h;split
    ·rename_i h3;rw[if_pos h3] at hx;exact hx
    ·rename_i h3;rw[if_neg h3] at hx;exact ih _ _ _ hx
   ·rename_i hn;rw[if_neg hn] at h;exact h
theorem qmR {g:Nat→Cl} {f f':Nat} {X:Nt} {p:Nat} {r:Rs} (h:rd g f X p=some r) (hf:f≤f'):rd g f' X p=some r:=by
 obtain⟨d,rfl⟩:=Nat.le.dest hf
 induction d with
 | zero=>exact h
 | succ d ih=>exact q84 g _ _ _ _ (ih (by omega))
def Rd (g:Nat→Cl) (X:Nt) (p:Nat) (r:Rs):Prop:=∃ f,rd g f X p=some r
theorem Rd.one {g:Nat→Cl} {X:Nt} {p:Nat} {r r':Rs} (h:Rd g X p r) (h':Rd g X p r'):r=r':=by
 obtain⟨f,hf⟩:=h;obtain⟨f',hf'⟩:=h';have h1:=qmR hf (Nat.le_max_left f f');have h2:=qmR hf' (Nat.le_max_right f f');rw[h1] at h2;exact Option.some.inj h2
def qyJ (g:Nat→Cl) (X:Nt) (p:Nat) (K:Ex→Nat→Rs→Prop) (r:Rs):Prop:=(∃ e,Rd g X p (.bad e)∧r=.bad e)∨∃ a q,Rd g X p (.ok a q)∧K a q r
theorem Rd.lvl {g:Nat→Cl} {n p:Nat} {r:Rs} (h1:1≤n) (h5:n≤5) (h:qyJ g (.lvl (n+1)) p (fun a q r=>Rd g (.loop n a) q r) r):Rd g (.lvl n) p r:=by
 rcases h with ⟨e,⟨f,hf⟩,rfl⟩|⟨a,q,⟨f,hf⟩,f',hf'⟩
 ·refine⟨f+1,?_⟩;rw[rd,if_neg (by omega),if_neg (by omega),hf];rfl
 ·refine⟨max f f'+1,?_⟩;rw[rd,if_neg (by omega),if_neg (by omega),qmR hf (Nat.le_max_left f f')];exact qmR hf' (Nat.le_max_right f f')
theorem Rd.stop {g:Nat→Cl} {n p:Nat} {a:Ex} (h:opL (clK (g p))≠n):Rd g (.loop n a) p (.ok a p):=⟨1,by rw[rd,if_neg h]⟩
theorem Rd.more {g:Nat→Cl} {n p:Nat} {a:Ex} {r:Rs} (h:opL (clK (g p))=n)
  (h2:qyJ g (.lvl (n+1)) (p+1) (fun b q r=>if n=3 then r=.ok (.bi (clK (g p)) a b) q else Rd g (.loop n (.bi (clK (g p)) a b)) q r) r):Rd g (.loop n a) p r:=by
 rcases h2 with ⟨e,⟨f,hf⟩,rfl⟩|⟨b,q,⟨f,hf⟩,h3⟩
 ·exact⟨f+1,by rw[rd,if_pos h,hf];rfl⟩
 ·by_cases hn:n=3
  ·rw[if_pos hn] at h3;exact⟨f+1,by rw[rd,if_pos h,hf,h3];show (if n=3 then _ else _)=_;rw[if_pos hn]⟩
  ·rw[if_neg hn] at h3;obtain⟨f',hf'⟩:=h3;refine⟨max f f'+1,?_⟩;rw[rd,if_pos h,qmR hf (Nat.le_max_left f f')];show (if n=3 then _ else _)=_;rw[if_neg hn];exact qmR hf' (Nat.le_max_right f f')
theorem Rd.sign {g:Nat→Cl} {p:Nat} {r:Rs} (hs:sgK (g p)≠0) (h:qyJ g (.lvl 6) (p+1) (fun a q r=>r=.ok (.un (sgK (g p)) a) q) r):Rd g (.lvl 6) p r:=by
 rcases h with ⟨e,⟨f,hf⟩,rfl⟩|⟨a,q,⟨f,hf⟩,rfl⟩
 ·exact⟨f+1,by rw[rd,if_neg (by decide),if_pos rfl,if_neg hs,hf];rfl⟩
 ·exact⟨f+1,by rw[rd,if_neg (by decide),if_pos rfl,if_neg hs,hf];rfl⟩
theorem Rd.six {g:Nat→Cl} {p:Nat} {r:Rs} (hs:sgK (g p)=0) (h:Rd g (.lvl 7) p r):Rd g (.lvl 6) p r:=by
 obtain⟨f,hf⟩:=h;exact⟨f+1,by rw[rd,if_neg (by decide),if_pos rfl,if_pos hs,hf]⟩
theorem Rd.leaf {g:Nat→Cl} {p:Nat} {l:Lf} (h:g p=.leaf l):Rd g (.lvl 7) p (.ok (.lf l) (p+1)):=⟨1,by rw[rd,if_pos rfl,h]⟩
theorem Rd.no {g:Nat→Cl} {p:Nat} (h:g p=.no):Rd g (.lvl 7) p (.bad p):=⟨1,by rw[rd,if_pos rfl,h]⟩
theorem Rd.mark {g:Nat→Cl} {p:Nat} {s:List UInt8} (h:g p=.mark s) (hs:s≠[40]):Rd g (.lvl 7) p (.bad p):=⟨1,by rw[rd,if_pos rfl,h];exact if_neg hs⟩
theorem Rd.bracket {g:Nat→Cl} {p:Nat} {r:Rs} (h:g p=.mark [40]) (h2:qyJ g (.lvl 1) (p+1) (fun a q r=>r=if isM (g q) [41] then .ok a (q+1) else .bad q) r):Rd g (.lvl 7) p r:=by
 rcases h2 with ⟨e,⟨f,hf⟩,rfl⟩|⟨a,q,⟨f,hf⟩,rfl⟩
 ·refine⟨f+1,?_⟩;rw[rd,if_pos rfl,h];simp only;rw[if_pos trivial,hf];rfl
 ·refine⟨f+1,?_⟩;rw[rd,if_pos rfl,h];simp only;rw[if_pos trivial,hf];show (if isM (g q) [41]=true then _ else _)=_;split <;> rfl
theorem Rd.word {g:Nat→Cl} {p k:Nat} {r:Rs} (h:g p=.word k)
  (h2:if isM (g (p+1)) [40] then
    qyJ g (.lvl 1) (p+2) (fun a q r =>
     if wdN k=1 then r=(if isM (g q) [41] then .ok (.un k a) (q+1) else .bad q)
     else if isM (g q) [44] then qyJ g (.lvl 1) (q+1) (fun b q2 r=>r=if isM (g q2) [41] then .ok (.bi k a b) (q2+1) else .bad q2) r
     else r=.bad q) r
   else r=.bad (p+1)):Rd g (.lvl 7) p r:=by
 by_cases hb:isM (g (p+1)) [40]=true
 ·rw[if_pos hb] at h2;rcases h2 with ⟨e,⟨f,hf⟩,rfl⟩|⟨a,q,⟨f,hf⟩,h3⟩
  ·refine⟨f+1,?_⟩;rw[rd,if_pos rfl,h];simp only;rw[if_pos hb,hf];rfl
  ·by_cases hw:wdN k=1
   ·rw[if_pos hw] at h3;refine⟨f+1,?_⟩;rw[rd,if_pos rfl,h];simp only;rw[if_pos hb,hf];show (if wdN k=1 then _ else _)=_;rw[if_pos hw,h3];split <;> rfl
   ·rw[if_neg hw] at h3;by_cases hc:isM (g q) [44]=true
    ·rw[if_pos hc] at h3;rcases h3 with ⟨e,⟨f',hf'⟩,rfl⟩|⟨b,q2,⟨f',hf'⟩,rfl⟩
     ·refine⟨max f f'+1,?_⟩;rw[rd,if_pos rfl,h];simp only;rw[if_pos hb,qmR hf (Nat.le_max_left f f')];show (if wdN k=1 then _ else _)=_;rw[if_neg hw,if_pos hc,qmR hf' (Nat.le_max_right f f')];rfl
     ·refine⟨max f f'+1,?_⟩;rw[rd,if_pos rfl,h];simp only;rw[if_pos hb,qmR hf (Nat.le_max_left f f')];show (if wdN k=1 then _ else _)=_;rw[if_neg hw,if_pos hc,qmR hf' (Nat.le_max_right f f')];show (if isM (g q2) [41]=true then _ else _)=_;split <;> rfl
    ·rw[if_neg hc] at h3;refine⟨f+1,?_⟩;rw[rd,if_pos rfl,h];simp only;rw[if_pos hb,hf];show (if wdN k=1 then _ else _)=_;rw[if_neg hw,if_neg hc,h3]
 ·rw[if_neg hb] at h2;refine⟨1,?_⟩;rw[rd,if_pos rfl,h];simp only;rw[if_neg hb,h2]
def q7R (on:Nat):Nat:=if on=3 then 2 else min on 5
def qeN (l:Nat) (isB:Bool):Nat:=if isB=true∨l=3 then l+1 else l
def qiC (g:Nat→Cl) (n:Nat):Nat→Ex→Nat→Rs→Prop
 | 0,a,p,r=>r=.ok a p
 | m+1,a,p,r=>if m+1<n then r=.ok a p else qyJ g (.loop (m+1) a) p (fun a1 q r=>qiC g n m a1 q r) r
theorem qj6 {g:Nat→Cl} {n m:Nat} {a:Ex} {p:Nat} {r:Rs} (h:m<n):qiC g n m a p r ↔ r=.ok a p:=by
 cases m with
 | zero=>exact Iff.rfl
 | succ m=>rw[qiC,if_pos h]
theorem qeE {g:Nat→Cl} {n m:Nat} {a:Ex} {p:Nat} {r:Rs} (h:n≤m+1):qiC g n (m+1) a p r ↔ qyJ g (.loop (m+1) a) p (fun a1 q r=>qiC g n m a1 q r) r:=by
 rw[qiC,if_neg (by omega)]
theorem qtJ {g:Nat→Cl} {n:Nat} (h1:1≤n):∀ (m:Nat) (a:Ex) (p:Nat) (r:Rs),n≤m→qiC g n m a p r →
  (∃ e,qiC g (n+1) m a p (.bad e)∧r=.bad e)∨∃ a1 q,qiC g (n+1) m a p (.ok a1 q)∧Rd g (.loop n a1) q r:=by
 intro m
 induction m with
 | zero=>intro a p r h _;omega
 | succ m ih =>
  intro a p r h hc;rw[qeE h] at hc;rcases Nat.lt_or_ge m n with hlt|hge
  ·have hmn:m+1=n:=by omega
   refine .inr ⟨a,p,(qj6 (by omega)).2 rfl,?_⟩;rcases hc with ⟨e,h2,rfl⟩|⟨a1,q,h2,h3⟩
   ·rw[hmn] at h2;exact h2
   ·rw[qj6 (by omega)] at h3;rw[h3,← hmn];exact h2
  ·rcases hc with ⟨e,h2,rfl⟩|⟨a1,q,h2,h3⟩
   ·exact .inl ⟨e,(qeE (by omega)).2 (.inl ⟨e,h2,rfl⟩),rfl⟩
   ·rcases ih a1 q r hge h3 with ⟨e,h4,rfl⟩|⟨a2,q2,h4,h5⟩
    ·exact .inl ⟨e,(qeE (by omega)).2 (.inr ⟨a1,q,h2,h4⟩),rfl⟩
    ·exact .inr ⟨a2,q2,(qeE (by omega)).2 (.inr ⟨a1,q,h2,h4⟩),h5⟩
theorem qs1 {g:Nat→Cl}:∀ (d n p:Nat) (r:Rs),n+d=6→1≤n→qyJ g (.lvl 6) p (fun a q r=>qiC g n 5 a q r) r→Rd g (.lvl n) p r:=by
 intro d
 induction d with
 | zero =>
  intro n p r hn h1 h;obtain rfl:n=6:=by omega
  rcases h with ⟨e,h2,rfl⟩|⟨a,q,h2,h3⟩
  ·exact h2
  ·rw[qj6 (by omega)] at h3;rw[h3];exact h2
 | succ d ih =>
  intro n p r hn h1 h;refine Rd.lvl h1 (by omega) ?_;rcases h with ⟨e,h2,rfl⟩|⟨a,q,h2,h3⟩
  ·exact .inl ⟨e,ih (n+1) p _ (by omega) (by omega) (.inl ⟨e,h2,rfl⟩),rfl⟩
  ·rcases qtJ h1 5 a q r (by omega) h3 with ⟨e,h4,rfl⟩|⟨a1,q1,h4,h5⟩
   ·exact .inl ⟨e,ih (n+1) p _ (by omega) (by omega) (.inr ⟨a,q,h2,h4⟩),rfl⟩
   ·exact .inr ⟨a1,q1,ih (n+1) p _ (by omega) (by omega) (.inr ⟨a,q,h2,h4⟩),h5⟩
theorem qnY {g:Nat→Cl} {n:Nat} {a:Ex} {p:Nat}:∀ s:Nat,¬ (n≤opL (clK (g p))∧opL (clK (g p))≤s)→qiC g n s a p (.ok a p):=by
 intro s
 induction s with
 | zero=>intro _;exact rfl
 | succ s ih =>
  intro h;rcases Nat.lt_or_ge (s+1) n with hlt|hge
  ·exact(qj6 hlt).2 rfl
  ·refine(qeE hge).2 (.inr ⟨a,p,Rd.stop (by omega),ih (by omega)⟩)
theorem qnZ {g:Nat→Cl} {n l:Nat} {a:Ex} {p:Nat} {r:Rs} (hl:opL (clK (g p))=l) (h1:1≤l) (hn:n≤l)
  (h:qyJ g (.lvl (l+1)) (p+1) (fun b q r=>qiC g n (if l=3 then 2 else l) (.bi (clK (g p)) a b) q r) r):∀ s:Nat,l≤s→qiC g n s a p r:=by
 intro s
 induction s with
 | zero=>intro hs;omega
 | succ s ih =>
  intro hs;refine(qeE (by omega)).2 ?_;rcases Nat.lt_or_ge s l with hlt|hge
  ·have hsl:s+1=l:=by omega
   rcases h with ⟨e,h2,rfl⟩|⟨b,q,h2,h3⟩
   ·exact .inl ⟨e,Rd.more (by rw[hsl];exact hl) (.inl ⟨e,by rw[hsl];exact h2,rfl⟩),rfl⟩
   ·by_cases h33:l=3
    ·rw[if_pos h33] at h3;refine .inr ⟨.bi (clK (g p)) a b,q,Rd.more (by rw[hsl];exact hl) (.inr ⟨b,q,by rw[hsl];exact h2,?_⟩),?_⟩
     ·simp only;rw[if_pos (by omega)]
      trivial
     ·rw[show s=2 by omega];exact h3
    ·rw[if_neg h33,← hsl,qeE (by omega)] at h3;rcases h3 with ⟨e,h4,rfl⟩|⟨a1,q1,h4,h5⟩
     ·refine .inl ⟨e,Rd.more (by rw[hsl];exact hl) (.inr ⟨b,q,by rw[hsl];exact h2,?_⟩),rfl⟩;simp only;rw[if_neg (by omega)];exact h4
     ·refine .inr ⟨a1,q1,Rd.more (by rw[hsl];exact hl) (.inr ⟨b,q,by rw[hsl];exact h2,?_⟩),h5⟩;simp only;rw[if_neg (by omega)];exact h4
  ·exact .inr ⟨a,p,Rd.stop (by omega),ih hge⟩
theorem qy3 {n l on:Nat} (h1:1≤n) (hl:l≤5) (ho:1≤on) (ho2:on≤6):(l<n∨on<qeN l false) ↔ ¬ (n≤l∧l≤q7R on):=by
 unfold qeN q7R;simp only[Bool.false_eq_true,false_or];constructor
 ·intro h;split at h <;> split <;> omega
 ·intro h;split at h <;> split <;> omega
theorem jaO (k:Nat):opL k≤5:=by
 unfold opL
 repeat' split
 all_goals omega
structure TokE where
 kd:Int
 tx:ByteArray
 iv:Int
 rl:Nat
 pl:Int
 sz:Int
instance:Inhabited TokE:=⟨⟨0,⟨#[]⟩,0,0,0,0⟩⟩
def qd2 (l:List UInt8):Bool:=decide (0<l.length) && decide (l.length≤32) && qa8 (bAt l 0) && l.all qaJ
def qcX (l:List UInt8):Nat :=
 if l=[114,101] then 18 else if l=[105,109] then 19 else if l=[115,105,122,101,50] then 20 else if l=[99,111,109,112] then 21 else if l=[114,101,97,108] then 22
 else if l=[108,101,110] then 23 else if l=[97,116] then 24 else if l=[99,97,116] then 25 else if l=[115,116,114] then 26 else 0
def clT (t:TokE):Cl :=
 if t.kd=5 then .mark t.tx.data.toList
 else if t.kd=2 then (if 0≤t.iv then .leaf (.int t.iv) else .no)
 else if t.kd=3 then (if t.rl<9218868437227405312 then .leaf (.real t.rl) else .no)
 else if t.kd=4 then (if t.tx.size≤256 then .leaf (.text t.tx) else .no)
 else if t.kd=1 then
  (if qd2 t.tx.data.toList=true then
   (if t.tx.data.toList=[116,114,117,101] then .leaf (.bool true) else if t.tx.data.toList=[102,97,108,115,101] then .leaf (.bool false)
    else if qcX t.tx.data.toList=0 then .leaf (.var t.tx) else .word (qcX t.tx.data.toList))
   else .no)
 else .no
def gL (L:List TokE) (k:Nat):Cl:=if k<L.length then clT (L.getD k default) else .no
def qgX (L:List TokE) (k:Nat):ByteArray:=if k<L.length∧(L.getD k default).kd=5 then (L.getD k default).tx else ⟨#[]⟩
theorem q5N (L:List TokE) (k:Nat):clK (gL L k)=opK (qgX L k).data.toList:=by
 unfold gL qgX;by_cases h:k<L.length
 ·rw[if_pos h];by_cases h5:(L.getD k default).kd=5
  ·rw[if_pos ⟨h,h5⟩];unfold clT;rw[if_pos h5];rfl
  ·rw[if_neg (fun x=>h5 x.2)];unfold clT;rw[if_neg h5];have e:opK (⟨#[]⟩:ByteArray).data.toList=0:=by decide
   rw[e]
   repeat' split
   all_goals rfl
 ·rw[if_neg h,if_neg (fun x=>h x.1)];rfl
theorem ql2 (L:List TokE) (k:Nat) (s:List UInt8) (hs:s≠[]):isM (gL L k) s=((qgX L k).data.toList==s):=by
 unfold gL qgX;have e0:((⟨#[]⟩:ByteArray).data.toList==s)=false:=beq_eq_false_iff_ne.2 (fun h=>hs h.symm);by_cases h:k<L.length
 ·rw[if_pos h];by_cases h5:(L.getD k default).kd=5
  ·rw[if_pos ⟨h,h5⟩];unfold clT;rw[if_pos h5];rfl
  ·rw[if_neg (fun x=>h5 x.2),e0];unfold clT;rw[if_neg h5]
   repeat' split
   all_goals rfl
 ·rw[if_neg h,if_neg (fun x=>h x.1),e0];rfl
def sgM (s:List UInt8):Nat:=if s=[45] then 3 else if s=[33] then 4 else 0
theorem q3W (L:List TokE) (k:Nat):sgK (gL L k)=sgM (qgX L k).data.toList:=by
 unfold gL qgX;by_cases h:k<L.length
 ·rw[if_pos h];by_cases h5:(L.getD k default).kd=5
  ·rw[if_pos ⟨h,h5⟩];unfold clT;rw[if_pos h5];rfl
  ·rw[if_neg (fun x=>h5 x.2)];unfold clT;rw[if_neg h5];have e:sgM (⟨#[]⟩:ByteArray).data.toList=0:=by decide
   rw[e]
   repeat' split
   all_goals rfl
 ·rw[if_neg h,if_neg (fun x=>h x.1)];rfl
def qcF (i:Nat):List UInt8:=[[],[],[],[45],[33],[43],[45],[42],[47],[37],[61,61],[33,61],[60],[60,61],[62],[62,61],[38,38],[124,124],[114,101],[105,109],[115,105,122,101,50],[99,111,109,112],[114,101,97,108],[108,101,110],[97,116],[99,97,116],[115,116,114]].getD i []
def qb3 (i:Nat):Nat:=[0,7,7,6,6,4,4,5,5,5,3,3,3,3,3,3,2,1,7,7,7,7,7,7,7,7,7].getD i 0
def qeJ (i:Nat):Nat:=[0,0,0,1,1,2,2,2,2,2,2,2,2,2,2,2,2,2,1,1,1,2,1,1,2,2,1].getD i 0
theorem qdD {P:Nat→Prop} {c:Prop} [Decidable c] {a b:Nat} (h1:P a) (h2:P b):P (if c then a else b):=by
 by_cases h:c
 ·rw[if_pos h];exact h1
 ·rw[if_neg h];exact h2
theorem q0V (P:Nat→Prop) (h0:P 0) (h:∀ k,5≤k→k≤17→P k) (s:List UInt8):P (opK s):=by
 unfold opK;exact qdD (h 17 (by omega) (by omega)) (qdD (h 16 (by omega) (by omega)) (qdD (h 10 (by omega) (by omega)) (qdD (h 11 (by omega) (by omega)) (qdD (h 12 (by omega) (by omega)) (qdD (h 13 (by omega) (by omega)) (qdD (h 14 (by omega) (by omega))
  (qdD (h 15 (by omega) (by omega)) (qdD (h 5 (by omega) (by omega)) (qdD (h 6 (by omega) (by omega)) (qdD (h 7 (by omega) (by omega)) (qdD (h 8 (by omega) (by omega)) (qdD (h 9 (by omega) (by omega)) h0))))))))))))
theorem q6L (s:List UInt8):opK s<27:=q0V (fun k=>k<27) (by omega) (fun k _ _=>by omega) s
theorem q7Z (s:List UInt8):qb3 (opK s)=opL (opK s):=by
 refine q0V (fun k=>qb3 k=opL k) rfl (fun k h5 h17=>?_) s;have:∀ k:Fin 18,5≤k.val→qb3 k.val=opL k.val:=by decide
 exact this ⟨k,by omega⟩ h5
structure Nd where
 k:Int
 a:Int
 b:Int
 nm:ByteArray
 vk:Int
 vi:Int
 rl:Nat
 re:Nat
 im:Nat
 tx:ByteArray
def qaB (n:Nd):List Value:=[.int .i64 n.k,.int .i64 n.a,.int .i64 n.b,.string n.nm,.int .i64 n.vk,.int .i64 n.vi,.float .f64 n.rl,.complex .f64 n.re n.im,.string n.tx]
def qg3 (ns:List Nd):List Value:=ns.flatMap qaB
def qaG:Lf→Nd
 | .int v=>⟨1,0,0,⟨#[]⟩,1,v,0,0,0,⟨#[]⟩⟩
 | .real b=>⟨1,0,0,⟨#[]⟩,2,0,b,0,0,⟨#[]⟩⟩
 | .text t=>⟨1,0,0,⟨#[]⟩,4,0,0,0,0,t⟩
 | .bool b=>⟨1,0,0,⟨#[]⟩,5,if b then 1 else 0,0,0,0,⟨#[]⟩⟩
 | .var t=>⟨2,0,0,t,0,0,0,0,0,⟨#[]⟩⟩
def qdU (k a b:Int):Nd:=⟨k,a,b,⟨#[]⟩,0,0,0,0,0,⟨#[]⟩⟩
def cnt:Ex→Nat
 | .lf _=>1
 | .un _ a=>cnt a+1
 | .bi _ a b=>cnt a+cnt b+1
def dep:Ex→Nat
 | .lf _=>1
 | .un _ a=>dep a+1
 | .bi _ a b=>max (dep a) (dep b)+1
def lay:Nat→Ex→List Nd
 | _,.lf l=>[qaG l]
 | o,.un k a=>lay o a++[qdU k (o+cnt a-1:Nat) 0]
 | o,.bi k a b=>lay o a++(lay (o+cnt a) b++[qdU k (o+cnt a-1:Nat) (o+cnt a+cnt b-1:Nat)])
theorem qeD (t:Ex):1≤cnt t:=by
 cases t <;> simp[cnt]
theorem qaF:∀ (t:Ex) (o:Nat),(lay o t).length=cnt t:=by
 intro t
 induction t with
 | lf l=>intro o;rfl
 | un k a ih=>intro o;simp[lay,cnt,ih o]
 | bi k a b iha ihb=>intro o;simp[lay,cnt,iha o,ihb (o+cnt a)];omega
def okL:Lf→Bool
 | .int v=>decide (0≤v)
 | .real b=>decide (b<9218868437227405312)
 | .text t=>decide (t.size≤256)
 | .bool _=>true
 | .var t=>qd2 t.data.toList && !(t.data.toList==[116,114,117,101]) && !(t.data.toList==[102,97,108,115,101]) && decide (qcX t.data.toList=0)
def WfT:Ex→Prop
 | .lf l=>okL l=true
 | .un k a=>k<27∧qeJ k=1∧WfT a
 | .bi k a b=>k<27∧qeJ k=2∧WfT a∧WfT b
theorem qb5 {o:Option Rs} {k:Ex→Nat→Option Rs} {t:Ex} {q:Nat} (h:qjF o k=some (.ok t q)):∃ a e,o=some (.ok a e)∧k a e=some (.ok t q):=by
 unfold qjF at h;cases o with
 | none=>cases h
 | some r =>
  cases r with
  | bad e=>cases h
  | ok a e=>exact⟨a,e,rfl,h⟩
theorem jcD {g:Nat→Cl} (hl:∀ k l,g k=.leaf l→okL l=true) (hw:∀ k v,g k=.word v→v<27∧qeJ v=wdN v) :
  ∀ (f:Nat) (X:Nt) (p:Nat) (t:Ex) (q:Nat),(∀ n a,X=.loop n a→WfT a∧1≤n)→(∀ n,X=.lvl n→1≤n)→rd g f X p=some (.ok t q)→WfT t:=by
 intro f
 induction f with
 | zero=>intro X p t q _ _ h;unfold rd at h;cases h
 | succ f ih =>
  intro X p t q hX hX2 h;have ih2:∀ (n p:Nat) (t:Ex) (q:Nat),1≤n→rd g f (.lvl n) p=some (.ok t q)→WfT t:=fun n p t q hn h=>ih (.lvl n) p t q (fun _ _ e=>by cases e) (fun _ e=>by cases e;exact hn) h;cases X with
  | lvl n =>
   rw[rd] at h;split at h
   ·cases hg:g p with
    | leaf l =>
     rw[hg] at h;simp only[Option.some.injEq,Rs.ok.injEq] at h;rw[← h.1];exact hl p l hg
    | mark s =>
     rw[hg] at h;simp only at h;split at h
     ·obtain⟨a,e,h1,h2⟩:=qb5 h;split at h2
      ·simp only[Option.some.injEq,Rs.ok.injEq] at h2;rw[← h2.1];exact ih2 _ _ _ _ (by omega) h1
      ·cases h2
     ·cases h
    | word k =>
     rw[hg] at h;simp only at h;split at h
     ·obtain⟨a,e,h1,h2⟩:=qb5 h;obtain⟨hk,hc⟩:=hw p k hg;split at h2
      ·rename_i hn;split at h2
       ·simp only[Option.some.injEq,Rs.ok.injEq] at h2;rw[← h2.1];exact⟨hk,hc.trans hn,ih2 _ _ _ _ (by omega) h1⟩
       ·cases h2
      ·rename_i hn;split at h2
       ·obtain⟨b,e2,h3,h4⟩:=qb5 h2;split at h4
        ·simp only[Option.some.injEq,Rs.ok.injEq] at h4;rw[← h4.1];refine⟨hk,?_,ih2 _ _ _ _ (by omega) h1,ih2 _ _ _ _ (by omega) h3⟩;rw[hc];unfold wdN at hn ⊢;split
         ·rfl
         ·rename_i h5;rw[if_neg h5] at hn;exact absurd rfl hn
        ·cases h4
       ·cases h2
     ·cases h
    | no=>rw[hg] at h;cases h
   ·split at h
    ·split at h
     ·exact ih2 _ _ _ _ (by omega) h
     ·rename_i hs;obtain⟨a,e,h1,h2⟩:=qb5 h;simp only[Option.some.injEq,Rs.ok.injEq] at h2;rw[← h2.1];have hk:sgK (g p)=3∨sgK (g p)=4:=by
       cases hg:g p with
       | mark s =>
        rw[hg] at hs;unfold sgK at hs ⊢;simp only at hs ⊢;split
        ·exact .inl rfl
        ·rename_i h3;rw[if_neg h3] at hs;split
         ·exact .inr rfl
         ·rename_i h4;rw[if_neg h4] at hs;exact absurd rfl hs
       | leaf l=>rw[hg] at hs;exact absurd rfl hs
       | word k=>rw[hg] at hs;exact absurd rfl hs
       | no=>rw[hg] at hs;exact absurd rfl hs
      rcases hk with hk|hk <;> rw[hk] <;> exact⟨by omega,rfl,ih2 _ _ _ _ (by omega) h1⟩
    ·rename_i h7 h6;obtain⟨a,e,h1,h2⟩:=qb5 h;have hn:=hX2 n rfl;exact ih _ _ _ _ (fun n' a' he=>by cases he;exact⟨ih2 _ _ _ _ (by omega) h1,hn⟩) (fun _ e=>by cases e) h2
  | loop n a =>
   obtain⟨ha,hn1⟩:=hX n a rfl;rw[rd] at h;split at h
   ·rename_i hop;obtain⟨b,e,h1,h2⟩:=qb5 h;have hb:=ih2 _ _ _ _ (by omega) h1;have hk:clK (g p)<27∧qeJ (clK (g p))=2:=by
     cases hg:g p with
     | mark s =>
      rw[hg] at hop;show opK s<27∧qeJ (opK s)=2;refine⟨q6L s,?_⟩;have h0:opK s≠0:=fun h0=>by
       have:opL (opK s)=n:=hop;rw[h0] at this;have e0:opL 0=0:=by decide
       omega
      exact q0V (fun k=>k≠0→qeJ k=2) (fun h=>absurd rfl h) (fun k h5 h17 _=>by
       have:∀ k:Fin 18,5≤k.val→qeJ k.val=2:=by decide
       exact this ⟨k,by omega⟩ h5) s h0
     | leaf l=>rw[hg] at hop;have e0:opL (clK (.leaf l))=0:=rfl;omega
     | word k=>rw[hg] at hop;have e0:opL (clK (.word k))=0:=rfl;omega
     | no=>rw[hg] at hop;have e0:opL (clK .no)=0:=rfl;omega
    have hnew:WfT (.bi (clK (g p)) a b):=⟨hk.1,hk.2,ha,hb⟩
    split at h2
    ·simp only[Option.some.injEq,Rs.ok.injEq] at h2;rw[← h2.1];exact hnew
    ·exact ih _ _ _ _ (fun n' a' he=>by cases he;exact⟨hnew,hn1⟩) (fun _ e=>by cases e) h2
   ·simp only[Option.some.injEq,Rs.ok.injEq] at h;rw[← h.1];exact ha
theorem qtV (P:Nat→Prop) (h0:P 0) (h:∀ k,18≤k→k≤26→P k) (s:List UInt8):P (qcX s):=by
 unfold qcX;exact qdD (h 18 (by omega) (by omega)) (qdD (h 19 (by omega) (by omega)) (qdD (h 20 (by omega) (by omega)) (qdD (h 21 (by omega) (by omega)) (qdD (h 22 (by omega) (by omega)) (qdD (h 23 (by omega) (by omega)) (qdD (h 24 (by omega) (by omega))
  (qdD (h 25 (by omega) (by omega)) (qdD (h 26 (by omega) (by omega)) h0))))))))
theorem qkM (s:List UInt8):qcX s<27:=qtV (fun k=>k<27) (by omega) (fun k _ _=>by omega) s
theorem qtW (s:List UInt8):qcX s≠0→qeJ (qcX s)=wdN (qcX s) :=
 qtV (fun k=>k≠0→qeJ k=wdN k) (fun h=>absurd rfl h) (fun k h18 h26 _=>by
  have:∀ k:Fin 27,18≤k.val→qeJ k.val=wdN k.val:=by decide
  exact this ⟨k,by omega⟩ h18) s
theorem qvT {t:TokE} {l:Lf} (h:clT t=.leaf l):okL l=true:=by
 unfold clT at h;split at h
 ·cases h
 split at h
 ·split at h
  ·rename_i h1;cases h;exact decide_eq_true h1
  ·cases h
 split at h
 ·split at h
  ·rename_i h1;cases h;exact decide_eq_true h1
  ·cases h
 split at h
 ·split at h
  ·rename_i h1;cases h;exact decide_eq_true h1
  ·cases h
 split at h
 ·split at h
  ·rename_i h1;split at h
   ·cases h;rfl
   ·rename_i h2;split at h
    ·cases h;rfl
    ·rename_i h3;split at h
     ·rename_i h4;cases h;show (qd2 t.tx.data.toList && !(t.tx.data.toList==[116,114,117,101]) && !(t.tx.data.toList==[102,97,108,115,101]) && decide (qcX t.tx.data.toList=0))=true;rw[h1,beq_eq_false_iff_ne.2 h2,beq_eq_false_iff_ne.2 h3,decide_eq_true h4];rfl
     ·cases h
  ·cases h
 ·cases h
theorem q5M {t:TokE} {v:Nat} (h:clT t=.word v):v<27∧qeJ v=wdN v:=by
 unfold clT at h;split at h
 ·cases h
 split at h
 ·split at h <;> cases h
 split at h
 ·split at h <;> cases h
 split at h
 ·split at h <;> cases h
 split at h
 ·split at h
  ·split at h
   ·cases h
   ·split at h
    ·cases h
    ·split at h
     ·cases h
     ·rename_i h4;cases h;exact⟨qkM _,qtW _ h4⟩
  ·cases h
 ·cases h
theorem Rd.wf {L:List TokE} {n p:Nat} {t:Ex} {q:Nat} (hn:1≤n) (h:Rd (gL L) (.lvl n) p (.ok t q)):WfT t:=by
 obtain⟨f,hf⟩:=h;refine jcD (g:=gL L) (fun k l hk=>?_) (fun k v hk=>?_) f (.lvl n) p t q (fun _ _ e=>by cases e) (fun _ e=>by cases e;exact hn) hf
 ·unfold gL at hk;split at hk
  ·exact qvT hk
  ·cases hk
 ·unfold gL at hk;split at hk
  ·exact q5M hk
  ·cases hk
def qmM:Nat→Ex→List Nat
 | o,.lf _=>[o]
 | o,.un _ a=>qmM o a++[o]
 | o,.bi _ a b=>qmM o a++(qmM (o+cnt a) b++[o])
def qjY:Ex→List Nat
 | .lf _=>[1]
 | .un _ a=>qjY a++[dep a+1]
 | .bi _ a b=>qjY a++(qjY b++[max (dep a) (dep b)+1])
theorem qeG:∀ (t:Ex) (o:Nat),(qmM o t).length=cnt t:=by
 intro t
 induction t with
 | lf l=>intro o;rfl
 | un k a ih=>intro o;simp[qmM,cnt,ih o]
 | bi k a b iha ihb=>intro o;simp[qmM,cnt,iha o,ihb (o+cnt a)];omega
theorem qeH:∀ (t:Ex),(qjY t).length=cnt t:=by
 intro t
 induction t with
 | lf l=>rfl
 | un k a ih=>simp[qjY,cnt,ih]
 | bi k a b iha ihb=>simp[qjY,cnt,iha,ihb];omega
theorem qiY {α:Type} {xs ys:List α} {d:α} {j:Nat} (h:j<xs.length):(xs++ys).getD j d=xs.getD j d:=by
 rw[List.getD_eq_getElem?_getD,List.getD_eq_getElem?_getD,List.getElem?_append_left h]
theorem qe6 {α:Type} {xs ys:List α} {d:α} {n j:Nat} (hn:xs.length=n) (h:n≤j):(xs++ys).getD j d=ys.getD (j-n) d:=by
 rw[List.getD_eq_getElem?_getD,List.getD_eq_getElem?_getD,List.getElem?_append_right (by omega),hn]
theorem ql4:∀ (t:Ex) (o:Nat),(qmM o t).getD (cnt t-1) 0=o:=by
 intro t o;cases t with
 | lf l=>rfl
 | un k a=>show (qmM o a++[o]).getD (cnt a+1-1) 0=o;rw[qe6 (qeG a o) (by omega),show cnt a+1-1-cnt a=0 by omega];rfl
 | bi k a b =>
  show (qmM o a++(qmM (o+cnt a) b++[o])).getD (cnt a+cnt b+1-1) 0=o;rw[qe6 (qeG a o) (by omega),qe6 (qeG b _) (by omega),show cnt a+cnt b+1-1-cnt a-cnt b=0 by omega];rfl
theorem ql8:∀ (t:Ex),(qjY t).getD (cnt t-1) 0=dep t:=by
 intro t;cases t with
 | lf l=>rfl
 | un k a=>show (qjY a++[dep a+1]).getD (cnt a+1-1) 0=_;rw[qe6 (qeH a) (by omega),show cnt a+1-1-cnt a=0 by omega];rfl
 | bi k a b =>
  show (qjY a++(qjY b++[max (dep a) (dep b)+1])).getD (cnt a+cnt b+1-1) 0=_;rw[qe6 (qeH a) (by omega),qe6 (qeH b) (by omega),show cnt a+cnt b+1-1-cnt a-cnt b=0 by omega];rfl
inductive StepN (F D:Nat→Nat) (i:Nat) (n:Nd):Prop
 | leaf (l:Lf) (hl:okL l=true) (hn:n=qaG l) (hF:F i=i) (hD:D i=1)
 | un (k:Nat) (hk:k<27) (hc:qeJ k=1) (hi:1≤i) (hn:n=qdU k (i-1:Nat) 0) (hF:F i=F (i-1)) (hD:D i=D (i-1)+1)
 | bi (k m:Nat) (hk:k<27) (hc:qeJ k=2) (hi:m+2≤i) (hm:F (i-1)=m+1) (hn:n=qdU k (m:Nat) (i-1:Nat)) (hF:F i=F m) (hD:D i=max (D m) (D (i-1))+1)
instance:Inhabited Nd:=⟨qdU 0 0 0⟩
theorem jcB (F D:Nat→Nat):∀ (t:Ex) (o:Nat),WfT t→(∀ j,j<cnt t→F (o+j)=(qmM o t).getD j 0)→(∀ j,j<cnt t→D (o+j)=(qjY t).getD j 0) →
  ∀ j,j<cnt t→StepN F D (o+j) ((lay o t).getD j default):=by
 intro t
 induction t with
 | lf l =>
  intro o hw hF hD j hj;have hj0:j=0:=by have:j<1:=hj;omega
  subst hj0;exact .leaf l hw rfl (hF 0 hj) (hD 0 hj)
 | un k a ih =>
  intro o hw hF hD j hj;obtain⟨hk,hc,ha⟩:=hw;have hcn:cnt (.un k a)=cnt a+1:=rfl;have hp:=qeD a;have hFa:∀ j,j<cnt a→F (o+j)=(qmM o a).getD j 0:=fun j h=>(hF j (by omega)).trans (qiY (by rw[qeG];exact h));have hDa:∀ j,j<cnt a→D (o+j)=(qjY a).getD j 0:=fun j h=>(hD j (by omega)).trans (qiY (by rw[qeH];exact h));rcases Nat.lt_or_ge j (cnt a) with h1|h1
  ·have:=ih o ha hFa hDa j h1;rw[show (lay o (.un k a)).getD j default=(lay o a).getD j default from qiY (by rw[qaF];exact h1)];exact this
  ·have hje:j=cnt a:=by omega
   subst hje;have e1:(lay o (.un k a)).getD (cnt a) default=qdU k (o+cnt a-1:Nat) 0:=by
    show (lay o a++[qdU k (o+cnt a-1:Nat) 0]).getD (cnt a) default=_;rw[qe6 (qaF a o) (Nat.le_refl _),Nat.sub_self];rfl
   have e2:=hF (cnt a) (by omega);have e3:=hD (cnt a) (by omega);rw[show (qmM o (.un k a)).getD (cnt a) 0=o by show (qmM o a++[o]).getD (cnt a) 0=o;rw[qe6 (qeG a o) (Nat.le_refl _),Nat.sub_self];rfl] at e2;rw[show (qjY (.un k a)).getD (cnt a) 0=dep a+1 by show (qjY a++[dep a+1]).getD (cnt a) 0=_;rw[qe6 (qeH a) (Nat.le_refl _),Nat.sub_self];rfl] at e3;have e4:=hFa (cnt a-1) (by omega);have e5:=hDa (cnt a-1) (by omega);rw[ql4] at e4;rw[ql8] at e5;have e6:o+cnt a-1=o+(cnt a-1):=by omega
   rw[e1];exact .un k hk hc (by omega) rfl (by rw[e6,e4];exact e2) (by rw[e6,e5];exact e3)
 | bi k a b iha ihb =>
  intro o hw hF hD j hj;obtain⟨hk,hc,ha,hb⟩:=hw;have hcn:cnt (.bi k a b)=cnt a+cnt b+1:=rfl;have hp:=qeD a;have hpb:=qeD b;have hFa:∀ j,j<cnt a→F (o+j)=(qmM o a).getD j 0:=fun j h=>(hF j (by omega)).trans (qiY (by rw[qeG];exact h));have hDa:∀ j,j<cnt a→D (o+j)=(qjY a).getD j 0:=fun j h=>(hD j (by omega)).trans (qiY (by rw[qeH];exact h));have hFb:∀ j,j<cnt b→F (o+cnt a+j)=(qmM (o+cnt a) b).getD j 0:=fun j h=>by
   have:=hF (cnt a+j) (by omega);rw[← Nat.add_assoc] at this;rw[this];show (qmM o a++(qmM (o+cnt a) b++[o])).getD (cnt a+j) 0=_;rw[qe6 (qeG a o) (by omega),qiY (by rw[qeG];omega),Nat.add_sub_cancel_left]
  have hDb:∀ j,j<cnt b→D (o+cnt a+j)=(qjY b).getD j 0:=fun j h=>by
   have:=hD (cnt a+j) (by omega);rw[← Nat.add_assoc] at this;rw[this];show (qjY a++(qjY b++[max (dep a) (dep b)+1])).getD (cnt a+j) 0=_;rw[qe6 (qeH a) (by omega),qiY (by rw[qeH];omega),Nat.add_sub_cancel_left]
  rcases Nat.lt_or_ge j (cnt a) with h1|h1
  ·have:=iha o ha hFa hDa j h1;rw[show (lay o (.bi k a b)).getD j default=(lay o a).getD j default from qiY (by rw[qaF];exact h1)];exact this
  rcases Nat.lt_or_ge j (cnt a+cnt b) with h2|h2
  ·have:=ihb (o+cnt a) hb hFb hDb (j-cnt a) (by omega);rw[show o+cnt a+(j-cnt a)=o+j by omega] at this;rw[show (lay o (.bi k a b)).getD j default=(lay (o+cnt a) b).getD (j-cnt a) default by
    show (lay o a++(lay (o+cnt a) b++_)).getD j default=_;rw[qe6 (qaF a o) h1,qiY (by rw[qaF];omega)]]
   exact this
  ·have hje:j=cnt a+cnt b:=by omega
   subst hje;have e1:(lay o (.bi k a b)).getD (cnt a+cnt b) default=qdU k (o+cnt a-1:Nat) (o+cnt a+cnt b-1:Nat):=by
    show (lay o a++(lay (o+cnt a) b++[qdU k (o+cnt a-1:Nat) (o+cnt a+cnt b-1:Nat)])).getD (cnt a+cnt b) default=_;rw[qe6 (qaF a o) (by omega),qe6 (qaF b _) (by omega),show cnt a+cnt b-cnt a-cnt b=0 by omega];rfl
   have e2:=hF (cnt a+cnt b) (by omega);have e3:=hD (cnt a+cnt b) (by omega);rw[show (qmM o (.bi k a b)).getD (cnt a+cnt b) 0=o by
    show (qmM o a++(qmM (o+cnt a) b++[o])).getD (cnt a+cnt b) 0=o;rw[qe6 (qeG a o) (by omega),qe6 (qeG b _) (by omega),show cnt a+cnt b-cnt a-cnt b=0 by omega];rfl] at e2
   rw[show (qjY (.bi k a b)).getD (cnt a+cnt b) 0=max (dep a) (dep b)+1 by
    show (qjY a++(qjY b++[max (dep a) (dep b)+1])).getD (cnt a+cnt b) 0=_;rw[qe6 (qeH a) (by omega),qe6 (qeH b) (by omega),show cnt a+cnt b-cnt a-cnt b=0 by omega];rfl] at e3
   have e4:=hFa (cnt a-1) (by omega);have e5:=hDa (cnt a-1) (by omega);rw[ql4] at e4;rw[ql8] at e5;have e7:=hFb (cnt b-1) (by omega);have e8:=hDb (cnt b-1) (by omega);rw[ql4] at e7;rw[ql8] at e8;have e6:o+cnt a-1=o+(cnt a-1):=by omega
   have e9:o+(cnt a+cnt b)-1=o+cnt a+(cnt b-1):=by omega
   rw[e1];refine .bi k (o+cnt a-1) hk hc (by omega) (by rw[e9,e7];omega) ?_ (by rw[e6,e4];exact e2) (by rw[e9,e6,e5,e8];exact e3);rw[show o+(cnt a+cnt b)-1=o+cnt a+cnt b-1 by omega]
set_option maxRecDepth 100000
theorem qpK (b:Nat) (w:World):(callFunc 228 #[.float .f64 b]).run Tryz.prog w=.ok (.value (.int .u64 b)) w:=by
 rw[run_callFunc_extern Tryz.func228 (by kernel_rfl) (by kernel_rfl) (by kernel_rfl) (e:=Extern.MathFloatBits.float64bits) (by kernel_rfl)];rfl
theorem q26 (n:Int) (w:World):(callFunc 231 #[.int .u64 n]).run Tryz.prog w=.ok (.value (.float .f64 n.toNat)) w:=by
 rw[run_callFunc_extern Tryz.func231 (by kernel_rfl) (by kernel_rfl) (by kernel_rfl) (e:=Extern.MathFloatBits.float64frombits) (by kernel_rfl)];rfl
def q5Z (b:Nat):Nat:=(bits .andNot .u64 (b:Int) 9223372036854775808).toNat
def gtB (a b:Nat):Bool:=FloatKind.f64.format.order a b==some Ordering.gt
def ltB (a b:Nat):Bool:=FloatKind.f64.format.order a b==some Ordering.lt
def eqB (a b:Nat):Bool:=FloatKind.f64.format.order a b==some Ordering.eq
theorem q30 (b:Nat) (w:World):Calls Tryz.prog 253 #[.float .f64 b] w fun e w'=>e=.returned (.float .f64 (q5Z b))∧w=w':=by
 have h1:=qpK b;have h2:=q26;go_enter Tryz.func253,Tryz.ntmps253;go_wp2;go_ret;exact⟨rfl,rfl⟩
theorem qrK (b:Nat) (w:World):Calls Tryz.prog 226 #[.float .f64 b,.int .i64 0] w fun e w'=>e=.returned (.bool (gtB (q5Z b) 9218868437227405311))∧w=w':=by
 go_enter Tryz.func226,Tryz.ntmps226;go_wp2_with (go_at_call 253;refine(q30 b _).mono ?_;rintro e w' ⟨rfl,rfl⟩);go_ret;exact⟨rfl,rfl⟩
theorem qiW (b:Nat) (w:World):Calls Tryz.prog 210 #[.float .f64 b] w fun e w'=>e=.returned (.bool (!eqB b b))∧w=w':=by
 go_enter Tryz.func210,Tryz.ntmps210;go_wp2;go_ret;exact⟨rfl,rfl⟩
theorem qk9 (b:Nat) (w:World) (h:ltB (q5Z b) 4503599627370496=false):Calls Tryz.prog 227 #[.float .f64 b] w fun e w'=>e=.returned (.tuple #[.float .f64 b,.int .i64 0])∧w=w':=by
 have h':(FloatKind.f64.format.order (q5Z b) 4503599627370496==some Ordering.lt)=false:=h;clear h;go_enter Tryz.func227,Tryz.ntmps227;go_wp2_with (go_at_call 253;refine(q30 b _).mono ?_;rintro e w' ⟨rfl,rfl⟩)
 go_ret2
 exact⟨rfl,rfl⟩
theorem qxM (b:Nat) (x:Int) (w:World) (h:eqB b 0=true):Calls Tryz.prog 200 #[.float .f64 b,.int .i64 x] w fun e w'=>e=.returned (.float .f64 b)∧w=w':=by
 have h':(FloatKind.f64.format.order b 0==some Ordering.eq)=true:=h;clear h;go_enter Tryz.func200,Tryz.ntmps200;go_wp2;go_ret;exact⟨rfl,rfl⟩
end Go.Proofs.YtenlhcgpajphhaaGreatDoor
namespace Go.Proofs.YtenlhcgpajphhaaGreatDoor
set_option linter.all false
def qbU (b:Nat):Nat:=b % 9223372036854775808
def qiQ (b:Nat):Bool:=b / 9223372036854775808 % 2==1
def qnM (b:Nat):Bool:=decide (9218868437227405312<qbU b)
def qkA (b:Nat):Int:=if qiQ b then -(qbU b:Int) else (qbU b:Int)
theorem oS:Ieee.double.signWeight=9223372036854775808:=by decide
theorem oB:Ieee.double.binade=4503599627370496:=by decide
theorem oI:Ieee.double.infRung=9218868437227405312:=by decide
theorem oL:Ieee.double.leastPlace=-1074:=by decide
def qyI (r:Nat):Nat:=if r<4503599627370496 then r else (4503599627370496+r % 4503599627370496) * 2 ^ (r / 4503599627370496-1)
theorem qq9 (r:Nat):qyI r<qyI (r+1):=by
 unfold qyI;split
 ·split
  ·omega
  ·have e1:(r+1) % 4503599627370496=0:=by omega
   have e2:(r+1) / 4503599627370496=1:=by omega
   rw[e1,e2];omega
 ·rw[if_neg (by omega)];rcases Nat.lt_or_ge (r % 4503599627370496+1) 4503599627370496 with h|h
  ·have e1:(r+1) % 4503599627370496=r % 4503599627370496+1:=by omega
   have e2:(r+1) / 4503599627370496=r / 4503599627370496:=by omega
   rw[e1,e2];exact Nat.mul_lt_mul_of_pos_right (by omega) (Nat.two_pow_pos _)
  ·have e1:(r+1) % 4503599627370496=0:=by omega
   have e2:(r+1) / 4503599627370496-1=(r / 4503599627370496-1)+1:=by omega
   have e3:r % 4503599627370496=4503599627370495:=by omega
   rw[e1,e2,e3,Nat.pow_succ];have:=Nat.two_pow_pos (r / 4503599627370496-1);omega
theorem q3F (r d:Nat):qyI r<qyI (r+d+1):=by
 induction d with
 | zero=>exact qq9 r
 | succ d ih=>exact Nat.lt_trans ih (qq9 _)
theorem qoB {r s:Nat} (h:r<s):qyI r<qyI s:=by
 obtain⟨d,rfl⟩:∃ d,s=r+d+1:=⟨s-r-1,by omega⟩
 exact q3F r d
theorem qq8:qyI 0=0:=by decide
theorem qnS {a b x y:Int} (h1:a<b→x<y) (h2:b<a→y<x) (h3:a=b→x=y):compare x y=compare a b:=by
 rcases Int.lt_trichotomy a b with h|h|h
 ·rw[Int.compare_eq_lt.2 h,Int.compare_eq_lt.2 (h1 h)]
 ·rw[Int.compare_eq_eq.2 h,Int.compare_eq_eq.2 (h3 h)]
 ·rw[Int.compare_eq_gt.2 h,Int.compare_eq_gt.2 (h2 h)]
def sv (b:Nat):Int:=if qiQ b then -(qyI (qbU b):Int) else (qyI (qbU b):Int)
theorem ja9 {a b:Nat} (h:qkA a<qkA b):sv a<sv b:=by
 unfold qkA at h;unfold sv;have z:=qq8;by_cases ha:qiQ a <;> by_cases hb:qiQ b <;> simp only[ha,hb,if_true,Bool.false_eq_true,if_false] at h ⊢
 ·have:=qoB (r:=qbU b) (s:=qbU a) (by omega);omega
 ·rcases Nat.eq_zero_or_pos (qbU a) with h0|h0
  ·rw[h0] at h ⊢;have:=qoB (r:=0) (s:=qbU b) (by omega);omega
  ·have:=qoB h0;omega
 ·omega
 ·have:=qoB (r:=qbU a) (s:=qbU b) (by omega);omega
theorem jcA {a b:Nat} (h:qkA a=qkA b):sv a=sv b:=by
 unfold qkA at h;unfold sv;have z:=qq8;by_cases ha:qiQ a <;> by_cases hb:qiQ b <;> simp only[ha,hb,if_true,Bool.false_eq_true,if_false] at h ⊢
 ·rw[show qbU a=qbU b by omega]
 ·rw[show qbU a=0 by omega,show qbU b=0 by omega,z];rfl
 ·rw[show qbU a=0 by omega,show qbU b=0 by omega,z];rfl
 ·rw[show qbU a=qbU b by omega]
theorem qwV (a b:Nat):compare (sv a) (sv b)=compare (qkA a) (qkA b):=qnS ja9 ja9 jcA
theorem qkT (b:Nat) (h:qbU b<9218868437227405312):∃ (m:Nat) (p:Int),Ieee.double.read b=.number (qiQ b) m p∧-1074≤p∧m * 2 ^ (p+1074).toNat=qyI (qbU b):=by
 unfold Ieee.Format.read;rw[oS,oB,oI,oL];show ∃ m p,(if qbU b<_ then Ieee.Datum.number (qiQ b) (qbU b) _ else if qbU b<_ then Ieee.Datum.number (qiQ b) (4503599627370496+qbU b % 4503599627370496) (-1074+((qbU b / 4503599627370496-1:Nat):Int)) else _)=_∧_;rw[if_pos h];unfold qyI;split
 ·exact⟨_,_,rfl,by omega,by simp⟩
 ·refine⟨_,_,rfl,by omega,?_⟩;rw[show (-1074+((qbU b / 4503599627370496-1:Nat):Int)+1074).toNat=qbU b / 4503599627370496-1 by omega]
theorem qkS (b:Nat) (h:qbU b=9218868437227405312):Ieee.double.read b=.infinity (qiQ b):=by
 unfold Ieee.Format.read;rw[oS,oB,oI,oL];show (if qbU b<_ then _ else if qbU b<_ then _ else if qbU b=_ then Ieee.Datum.infinity (qiQ b) else _)=_;rw[if_neg (by omega),if_neg (by omega),if_pos h]
theorem q42 (b:Nat) (h:9218868437227405312<qbU b):∃ n,Ieee.double.read b=.nan (qiQ b) n:=by
 unfold Ieee.Format.read;rw[oS,oB,oI,oL];show ∃ n,(if qbU b<_ then _ else if qbU b<_ then _ else if qbU b=_ then _ else Ieee.Datum.nan (qiQ b) (qbU b-9218868437227405312))=_;rw[if_neg (by omega),if_neg (by omega),if_neg (by omega)];exact⟨_,rfl⟩
theorem qsY (a b:Nat) (h:qnM a=true):Ieee.double.order a b=none:=by
 obtain⟨n,hn⟩:=q42 a (by simpa [qnM] using h);unfold Ieee.Format.order;rw[hn];unfold Ieee.Datum.order;cases Ieee.double.read b <;> rfl
theorem qk8 (s:Bool) (m u B:Nat):Ieee.signed s m u * ((2 ^ B:Nat):Int)=if s then -((m * 2 ^ (u+B):Nat):Int) else ((m * 2 ^ (u+B):Nat):Int):=by
 unfold Ieee.signed;rw[Nat.shiftLeft_eq,Nat.pow_add,← Nat.mul_assoc];cases s
 ·simp only[Bool.false_eq_true,if_false,Int.natCast_mul]
 ·simp only[if_true,Int.natCast_mul,Int.neg_mul]
theorem qf9 (a b:Nat) (ha:qnM a=false) (hb:qnM b=false):Ieee.double.order a b=some (compare (qkA a) (qkA b)):=by
 have ha':qbU a≤9218868437227405312:=by simpa [qnM] using ha
 have hb':qbU b≤9218868437227405312:=by simpa [qnM] using hb
 unfold Ieee.Format.order;rcases Nat.lt_or_ge (qbU a) 9218868437227405312 with h1|h1 <;> rcases Nat.lt_or_ge (qbU b) 9218868437227405312 with h2|h2
 ·obtain⟨m,p,e1,p1,v1⟩:=qkT a h1;obtain⟨n,q,e2,q1,v2⟩:=qkT b h2;rw[e1,e2];unfold Ieee.Datum.order;simp only[Option.some.injEq];rw[← qwV];obtain⟨B,hB⟩:∃ B:Nat,min p q+1074=B:=⟨(min p q+1074).toNat,by omega⟩
  have s1:=qk8 (qiQ a) m (p-min p q).toNat B;have s2:=qk8 (qiQ b) n (q-min p q).toNat B;rw[show (p-min p q).toNat+B=(p+1074).toNat by omega,v1] at s1;rw[show (q-min p q).toNat+B=(q+1074).toNat by omega,v2] at s2;have g1:Ieee.signed (qiQ a) m (p-min p q).toNat * ((2 ^ B:Nat):Int)=sv a:=s1;have g2:Ieee.signed (qiQ b) n (q-min p q).toNat * ((2 ^ B:Nat):Int)=sv b:=s2;have hpos:(0:Int)<((2 ^ B:Nat):Int):=Int.ofNat_lt.2 (Nat.two_pow_pos B);refine(qnS (fun h=>?_) (fun h=>?_) (fun h=>?_)).symm
  ·rw[← g1,← g2];exact Int.mul_lt_mul_of_pos_right h hpos
  ·rw[← g1,← g2];exact Int.mul_lt_mul_of_pos_right h hpos
  ·rw[← g1,← g2,h]
 ·obtain⟨m,p,e1,p1,v1⟩:=qkT a h1;rw[e1,qkS b (by omega)];unfold Ieee.Datum.order;unfold qkA;by_cases x:qiQ a <;> by_cases y:qiQ b <;> simp only[x,y,if_true,Bool.false_eq_true,if_false,Option.some.injEq] <;> first|exact(Int.compare_eq_gt.2 (by omega)).symm|exact(Int.compare_eq_lt.2 (by omega)).symm
 ·obtain⟨m,p,e1,p1,v1⟩:=qkT b h2;rw[e1,qkS a (by omega)];unfold Ieee.Datum.order;unfold qkA;by_cases x:qiQ a <;> by_cases y:qiQ b <;> simp only[x,y,if_true,Bool.false_eq_true,if_false,Option.some.injEq] <;> first|exact(Int.compare_eq_gt.2 (by omega)).symm|exact(Int.compare_eq_lt.2 (by omega)).symm
 ·rw[qkS a (by omega),qkS b (by omega)];unfold Ieee.Datum.order;unfold qkA;by_cases x:qiQ a <;> by_cases y:qiQ b <;> simp only[x,y,if_true,Bool.false_eq_true,if_false,Option.some.injEq] <;> first|exact(Int.compare_eq_gt.2 (by omega)).symm|exact(Int.compare_eq_lt.2 (by omega)).symm|exact(Int.compare_eq_eq.2 (by omega)).symm
end Go.Proofs.YtenlhcgpajphhaaGreatDoor
