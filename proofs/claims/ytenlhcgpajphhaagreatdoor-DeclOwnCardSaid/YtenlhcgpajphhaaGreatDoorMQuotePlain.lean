import Derived.WalkKit
import Derived.Lib.BytesEntry
import Derived.Lib.ParseIntB
import Derived.Lib.Bytealg
import Derived.Lib.BitFns
import Derived.Test.YtenlhcgpajphhaaGreatDoorRows
import Derived.Laws.Externs
import Derived.WalkSpells
import Derived.WalkLawsBesides
import Derived.Lib.Hide
namespace Go.Proofs.YtenlhcgpajphhaaGreatDoor
set_option linter.all false
def hexDigit (n:Nat):UInt8:=if n<10 then (48+n).toUInt8 else (87+n).toUInt8
def qPart (c:UInt8):List UInt8 :=
 if c.toNat=34∨c.toNat=92 then [92,c] else if 32≤c.toNat∧c.toNat≤126 then [c] else [92,120,hexDigit (c.toNat / 16),hexDigit (c.toNat % 16)]
def qHead (l:List UInt8):List UInt8:=34 :: l.flatMap qPart
def quoted (l:List UInt8):List UInt8:=qHead l++[34]
def u8s (l:List UInt8):List Value:=l.map fun b=>Value.int .u8 b.toNat
theorem u8s_append (a b:List UInt8):u8s (a++b)=u8s a++u8s b:=by simp[u8s]
theorem u8s_length (a:List UInt8):(u8s a).length=a.length:=by simp[u8s]
theorem u8s_one (a:List UInt8):∀ u ∈ u8s a,u.oneCell'=true:=by
 intro u hu;simp only[u8s,List.mem_map] at hu;obtain⟨b,_,rfl⟩:=hu;rfl
def hexText:ByteArray:=⟨#[48,49,50,51,52,53,54,55,56,57,97,98,99,100,101,102]⟩
open Go.RowKit
def lastTo (l:List UInt8):Nat→Int
 | 0=>-1
 | k+1=>if l[k]?=some 10 then (k:Int) else lastTo l k
def countTo (l:List UInt8) (k:Nat):Nat:=(l.take k).count 10
def At (w:World) (a:Addr) (l:List UInt8):Prop:=∀ i (h:i<l.length),w.cell? (a.add i)=some (.int .u8 (l[i].toNat:Int))
def Txt (w:World) (a:Option Addr) (n cap:Nat) (l:List UInt8):Prop :=
 l.length=n∧n≤cap∧cap≤maxLen∧((a=none∧n=0∧cap=0)∨∃ x,a=some x∧At w x l)
theorem At.spot {w:World} {b o:Nat} {s} {l:List UInt8} (h:At w ⟨b,o,s⟩ l) (hl:0<l.length):s=none∧∀ i (h:i<l.length),w.cell? ⟨b,o+i,none⟩=some (.int .u8 (l[i].toNat:Int)):=by
 have h0:=h 0 hl;have hs:s=none:=by simpa [Addr.add] using World.cell?_spot h0
 subst hs;refine⟨rfl,fun i hi=>?_⟩;have:=h i hi;have hadd:(⟨b,o,none⟩:Addr).add i=⟨b,o+i,none⟩:=by unfold Addr.add;split <;> simp_all
 rwa [hadd] at this
theorem At.cells {w:World} {a:Addr} {l:List UInt8} (h:At w a l):∀ j u,(u8s l)[j]?=some u→w.cell? (a.add j)=some u:=by
 intro j u hu;simp only[u8s,List.getElem?_map,Option.map_eq_some_iff] at hu;obtain⟨b,hb,rfl⟩:=hu;obtain⟨hj,rfl⟩:=List.getElem?_eq_some_iff.1 hb;exact h j hj
theorem At.mono {w w':World} {a:Addr} {l:List UInt8} (h:At w a l) (hc:∀ i,i<l.length→w'.cell? (a.add i)=w.cell? (a.add i)):At w' a l:=fun i hi=>(hc i hi).trans (h i hi)
theorem Txt.below {w w':World} {B:Nat} {a:Option Addr} {n cap:Nat} {l:List UInt8} (h:Txt w a n cap l) (hb:Below B w w') (hB:w.heap.size≤B):Txt w' a n cap l:=by
 obtain⟨h1,h2,h3,h4⟩:=h;refine⟨h1,h2,h3,h4.imp id ?_⟩;rintro ⟨x,rfl,hx⟩;refine⟨x,rfl,hx.mono fun i hi=>hb.cell (p:=x.add i) ?_⟩;have:=World.block_lt_of_cell? w _ (hx i hi);omega
theorem At.owned {w:World} {base g cap n e:Nat} {l:List UInt8} (hown:w.ownsRow base e 1 (.slice (some ⟨g,0,none⟩) n cap) n (u8s l)):At w ⟨g,0,none⟩ l :=
 fun j hj=>hown.cells rfl j _ (by simp[u8s,hj])
theorem At.take {w:World} {a:Addr} {l:List UInt8} (h:At w a l) (k:Nat):At w a (l.take k):=fun i hi=>by
 have hi':i<l.length:=by simp at hi;omega
 have:=h i hi'
 simpa using this
def bAt (l:List UInt8) (i:Nat):UInt8:=l[i]?.getD 0
def blankB (c:UInt8):Bool:=c==32 || c==9 || c==10 || c==13
def letterB (c:UInt8):Bool:=decide (65≤c.toNat∧c.toNat≤90) || decide (97≤c.toNat∧c.toNat≤122)
def digitB (c:UInt8):Bool:=decide (48≤c.toNat∧c.toNat≤57)
def wordB (c:UInt8):Bool:=letterB c || digitB c || c==95
theorem bAt_lt {l:List UInt8} {i:Nat} (h:i<l.length):bAt l i=l[i]:=by simp[bAt,List.getElem?_eq_getElem h]
theorem bAt_ge {l:List UInt8} {i:Nat} (h:l.length≤i):bAt l i=0:=by simp[bAt,List.getElem?_eq_none h]
def tw (p:UInt8→Bool) (l:List UInt8) (j:Nat):Nat:=((l.drop j).takeWhile p).length
def skipS:Bool→List UInt8→Nat
 | _,[]=>0
 | true,c :: r=>if c=10 then 1+skipS false r else 1+skipS true r
 | false,c :: r=>if blankB c=true then 1+skipS false r else if c=35 then 1+skipS true r else 0
def quoteLen:List UInt8→Nat
 | []=>0
 | c :: r=>if c=34 then 1 else if c=92 then (match r with|[]=>1|_ :: r'=>2+quoteLen r') else 1+quoteLen r
theorem quoteLen_cons (c:UInt8) (r:List UInt8):quoteLen (c :: r)=if c=34 then 1 else if c=92 then (match r with|[]=>1|_ :: r'=>2+quoteLen r') else 1+quoteLen r:=by
 rw[quoteLen.eq_def]
def twoMark (a b:UInt8):Bool:=(a==61 && b==61) || (a==33 && b==61) || (a==60 && b==61) || (a==62 && b==61) || (a==38 && b==38) || (a==124 && b==124) || (a==45 && b==62)
def marksText:List UInt8:=[40,41,123,125,44,59,58,46,38,43,45,42,47,37,60,62,33,61,95]
def oneMark (c:UInt8):Bool:=marksText.contains c
def markLen:List UInt8→Nat
 | []=>0
 | [c]=>if oneMark c=true then 1 else 0
 | c :: d :: _=>if twoMark c d=true then 2 else if oneMark c=true then 1 else 0
theorem markLen_le (r:List UInt8):markLen r≤r.length:=by
 match r with
 | []=>simp[markLen]
 | [c]=>simp only[markLen];split <;> simp
 | c :: d :: t=>simp only[markLen,List.length_cons];split <;> (try split) <;> omega
theorem At.drop {w:World} {b o:Nat} {l:List UInt8} (h:At w ⟨b,o,none⟩ l) (k:Nat):At w ⟨b,o+k,none⟩ (l.drop k):=fun i hi=>by
 have hi':k+i<l.length:=by simp at hi;omega
 have:=(h.spot (by omega)).2 (k+i) hi';have hadd:(⟨b,o+k,none⟩:Addr).add i=⟨b,o+(k+i),none⟩:=by unfold Addr.add;split <;> simp_all <;> omega
 rw[hadd,this];simp
def numEnd (l:List UInt8) (d:Nat):Nat × Nat :=
 if bAt l d≠112 then (2,d)
 else if bAt l (d+1)=45 then (3,d+2+tw digitB l (d+2)) else (3,d+1+tw digitB l (d+1))
def spanE (l:List UInt8) (A:Nat):Nat × Nat :=
 if letterB (bAt l A)=true then (1,A+1+tw wordB l (A+1))
 else if digitB (bAt l A)=true then numEnd l (A+1+tw digitB l (A+1))
 else if bAt l A=34 then (4,min (A+1+quoteLen (l.drop (A+1))) l.length)
 else if 0<markLen (l.drop A) then (5,A+markLen (l.drop A)) else (0,A)
theorem drop_bAt {l:List UInt8} {j:Nat} (h:j<l.length):l.drop j=bAt l j :: l.drop (j+1):=by
 rw[bAt_lt h];exact List.drop_eq_getElem_cons h
theorem tw_yes {p:UInt8→Bool} {l:List UInt8} {j:Nat} (hp:p (bAt l j)=true) (h0:p 0=false):j<l.length∧tw p l j=1+tw p l (j+1):=by
 have hj:j<l.length:=by
  rcases Nat.lt_or_ge j l.length with h|h
  ·exact h
  ·rw[bAt_ge h,h0] at hp;cases hp
 refine⟨hj,?_⟩;unfold tw;rw[drop_bAt hj,List.takeWhile_cons,if_pos hp,List.length_cons];omega
theorem tw_no {p:UInt8→Bool} {l:List UInt8} {j:Nat} (hp:p (bAt l j)=false):tw p l j=0:=by
 unfold tw;rcases Nat.lt_or_ge j l.length with h|h
 ·rw[drop_bAt h,List.takeWhile_cons,if_neg (by simp[hp])];rfl
 ·rw[List.drop_eq_nil_of_le h];rfl
theorem word0:wordB 0=false:=by decide
theorem digit0:digitB 0=false:=by decide
theorem letter0:letterB 0=false:=by decide
theorem tw_le (p:UInt8→Bool) (l:List UInt8) (j:Nat):tw p l j≤l.length-j:=by
 unfold tw;have:=(List.takeWhile_prefix p (l:=l.drop j)).length_le
 simpa using this
def SpanR (l:List UInt8) (K A E:Nat) (lab i at_:Nat):Prop :=
 match lab with
 | 0=>i≤l.length∧A=i+skipS false (l.drop i)∧spanE l A=(K,E)
 | 1=>i<l.length∧A=i+1+skipS true (l.drop (i+1))∧spanE l A=(K,E)
 | 2=>i<l.length∧at_=A∧K=1∧E=i+1+tw wordB l (i+1)
 | 3=>i<l.length∧at_=A∧numEnd l (i+1+tw digitB l (i+1))=(K,E)
 | 4=>i≤l.length∧at_=A∧K=4∧E=min (i+1+quoteLen (l.drop (i+1))) l.length
 | 5=>i<l.length∧at_=A∧K=3∧E=i+1+tw digitB l (i+1)
 | 6=>i<l.length∧at_=A∧K=4∧E=min (i+2+quoteLen (l.drop (i+2))) l.length
 | _=>False
section
variable {l:List UInt8} {K A E i at_:Nat}
theorem r0_end (h:SpanR l K A E 0 i at_) (hi:i=l.length):K=0∧A=i∧E=i:=by
 obtain⟨_,h2,h3⟩:=h;subst hi;have hA:A=l.length:=by rw[h2,List.drop_length];simp[skipS]
 rw[hA] at h3 ⊢;unfold spanE at h3;rw[bAt_ge (Nat.le_refl _),letter0,digit0,List.drop_length] at h3;simp[markLen] at h3;omega
theorem r0_blank (h:SpanR l K A E 0 i at_) (hi:i<l.length) (hb:blankB (bAt l i)=true) (x:Nat):SpanR l K A E 0 (i+1) x:=by
 obtain⟨_,h2,h3⟩:=h;refine⟨by omega,?_,h3⟩;rw[drop_bAt hi,skipS,if_pos hb] at h2;omega
theorem r0_comment (h:SpanR l K A E 0 i at_) (hi:i<l.length) (hb:blankB (bAt l i)=false) (hc:bAt l i=35) (x:Nat):SpanR l K A E 1 i x:=by
 obtain⟨_,h2,h3⟩:=h;refine⟨hi,?_,h3⟩;rw[drop_bAt hi,skipS,if_neg (by simp[hb]),if_pos hc] at h2;omega
theorem r0_here (h:SpanR l K A E 0 i at_) (hi:i<l.length) (hb:blankB (bAt l i)=false) (hc:bAt l i≠35):A=i∧spanE l i=(K,E):=by
 obtain⟨_,h2,h3⟩:=h;rw[drop_bAt hi,skipS,if_neg (by simp[hb]),if_neg hc] at h2;obtain rfl:A=i:=by omega
 exact⟨rfl,h3⟩
theorem r0_name (h:SpanR l K A E 0 i at_) (hi:i<l.length) (hb:blankB (bAt l i)=false) (hc:bAt l i≠35) (hl:letterB (bAt l i)=true):SpanR l K A E 2 i i:=by
 obtain⟨rfl,h3⟩:=r0_here h hi hb hc;unfold spanE at h3;rw[if_pos hl] at h3;simp only[Prod.mk.injEq] at h3;exact⟨hi,rfl,h3.1.symm,h3.2.symm⟩
theorem r0_number (h:SpanR l K A E 0 i at_) (hi:i<l.length) (hb:blankB (bAt l i)=false) (hc:bAt l i≠35) (hl:letterB (bAt l i)=false) (hd:digitB (bAt l i)=true):SpanR l K A E 3 i i:=by
 obtain⟨rfl,h3⟩:=r0_here h hi hb hc;unfold spanE at h3;rw[if_neg (by simp[hl]),if_pos hd] at h3;exact⟨hi,rfl,h3⟩
theorem r0_quoted (h:SpanR l K A E 0 i at_) (hi:i<l.length) (hb:blankB (bAt l i)=false) (hc:bAt l i≠35) (hl:letterB (bAt l i)=false) (hd:digitB (bAt l i)=false) (hq:bAt l i=34):SpanR l K A E 4 i i:=by
 obtain⟨rfl,h3⟩:=r0_here h hi hb hc;unfold spanE at h3;rw[if_neg (by simp[hl]),if_neg (by simp[hd]),if_pos hq] at h3;simp only[Prod.mk.injEq] at h3;exact⟨by omega,rfl,h3.1.symm,h3.2.symm⟩
theorem r0_mark (h:SpanR l K A E 0 i at_) (hi:i<l.length) (hb:blankB (bAt l i)=false) (hc:bAt l i≠35) (hl:letterB (bAt l i)=false) (hd:digitB (bAt l i)=false) (hq:bAt l i≠34) (hm:0<markLen (l.drop i)):A=i∧K=5∧E=i+markLen (l.drop i):=by
 obtain⟨rfl,h3⟩:=r0_here h hi hb hc;unfold spanE at h3;rw[if_neg (by simp[hl]),if_neg (by simp[hd]),if_neg hq,if_pos hm] at h3;simp only[Prod.mk.injEq] at h3;exact⟨rfl,h3.1.symm,h3.2.symm⟩
theorem r0_none (h:SpanR l K A E 0 i at_) (hi:i<l.length) (hb:blankB (bAt l i)=false) (hc:bAt l i≠35) (hl:letterB (bAt l i)=false) (hd:digitB (bAt l i)=false) (hq:bAt l i≠34) (hm:markLen (l.drop i)=0):A=i∧K=0∧E=i:=by
 obtain⟨rfl,h3⟩:=r0_here h hi hb hc;unfold spanE at h3;rw[if_neg (by simp[hl]),if_neg (by simp[hd]),if_neg hq,if_neg (by omega)] at h3;simp only[Prod.mk.injEq] at h3;exact⟨rfl,h3.1.symm,h3.2.symm⟩
theorem r1_on (h:SpanR l K A E 1 i at_) (hi:i+1<l.length) (hc:bAt l (i+1)≠10):SpanR l K A E 1 (i+1) at_:=by
 obtain⟨_,h2,h3⟩:=h;refine⟨hi,?_,h3⟩;rw[drop_bAt hi,skipS,if_neg hc] at h2;omega
theorem r1_off (h:SpanR l K A E 1 i at_) (hi:i+1=l.length∨bAt l (i+1)=10) (x:Nat):SpanR l K A E 0 (i+1) x:=by
 obtain⟨h1,h2,h3⟩:=h;refine⟨by omega,?_,h3⟩;rw[h2];rcases Nat.lt_or_ge (i+1) l.length with h4|h4
 ·have h5:bAt l (i+1)=10:=by rcases hi with h|h;omega;exact h
  rw[drop_bAt h4,skipS,skipS,if_pos h5,if_pos (by rw[h5];decide)]
 ·rw[List.drop_eq_nil_of_le h4];simp[skipS]
theorem r2_on (h:SpanR l K A E 2 i at_) (hw:wordB (bAt l (i+1))=true):SpanR l K A E 2 (i+1) at_:=by
 obtain⟨h1,h2,h3,h4⟩:=h;obtain⟨h5,h6⟩:=tw_yes hw word0;exact⟨h5,h2,h3,by rw[h4,h6];omega⟩
theorem r2_off (h:SpanR l K A E 2 i at_) (hw:wordB (bAt l (i+1))=false):at_=A∧K=1∧E=i+1:=by
 obtain⟨h1,h2,h3,h4⟩:=h;rw[tw_no hw] at h4;exact⟨h2,h3,h4⟩
theorem r3_on (h:SpanR l K A E 3 i at_) (hw:digitB (bAt l (i+1))=true):SpanR l K A E 3 (i+1) at_:=by
 obtain⟨h1,h2,h3⟩:=h;obtain⟨h5,h6⟩:=tw_yes hw digit0;exact⟨h5,h2,by rw[← h3,h6];congr 1;omega⟩
theorem r3_int (h:SpanR l K A E 3 i at_) (hw:digitB (bAt l (i+1))=false) (hp:bAt l (i+1)≠112):at_=A∧K=2∧E=i+1:=by
 obtain⟨h1,h2,h3⟩:=h;rw[tw_no hw] at h3;unfold numEnd at h3;rw[if_pos hp] at h3;simp only[Prod.mk.injEq] at h3;exact⟨h2,h3.1.symm,h3.2.symm⟩
theorem r3_lt (hp:bAt l (i+1)=112):i+1<l.length:=by
 rcases Nat.lt_or_ge (i+1) l.length with h|h
 ·exact h
 ·rw[bAt_ge h] at hp;exact absurd hp (by decide)
theorem r3_neg (h:SpanR l K A E 3 i at_) (hw:digitB (bAt l (i+1))=false) (hp:bAt l (i+1)=112) (hm:bAt l (i+1+1)=45):SpanR l K A E 5 (i+1+1) at_:=by
 obtain⟨h1,h2,h3⟩:=h;rw[tw_no hw] at h3;unfold numEnd at h3;rw[if_neg (by simpa using hp),if_pos hm] at h3;simp only[Prod.mk.injEq] at h3;have hlt:i+1+1<l.length:=by
  rcases Nat.lt_or_ge (i+1+1) l.length with h|h
  ·exact h
  ·rw[bAt_ge h] at hm;exact absurd hm (by decide)
 exact⟨hlt,h2,h3.1.symm,h3.2.symm⟩
theorem r3_pos (h:SpanR l K A E 3 i at_) (hw:digitB (bAt l (i+1))=false) (hp:bAt l (i+1)=112) (hm:bAt l (i+1+1)≠45):SpanR l K A E 5 (i+1) at_:=by
 obtain⟨h1,h2,h3⟩:=h;rw[tw_no hw] at h3;unfold numEnd at h3;rw[if_neg (by simpa using hp),if_neg hm] at h3;simp only[Prod.mk.injEq] at h3;exact⟨r3_lt hp,h2,h3.1.symm,h3.2.symm⟩
theorem r5_on (h:SpanR l K A E 5 i at_) (hw:digitB (bAt l (i+1))=true):SpanR l K A E 5 (i+1) at_:=by
 obtain⟨h1,h2,h3,h4⟩:=h;obtain⟨h5,h6⟩:=tw_yes hw digit0;exact⟨h5,h2,h3,by rw[h4,h6];omega⟩
theorem r5_off (h:SpanR l K A E 5 i at_) (hw:digitB (bAt l (i+1))=false):at_=A∧K=3∧E=i+1:=by
 obtain⟨h1,h2,h3,h4⟩:=h;rw[tw_no hw] at h4;exact⟨h2,h3,h4⟩
theorem r4_esc (h:SpanR l K A E 4 i at_) (hi:i+1<l.length) (hc:bAt l (i+1)=92):SpanR l K A E 6 (i+1) at_:=by
 obtain⟨h1,h2,h3,h4⟩:=h;refine⟨hi,h2,h3,?_⟩;rw[h4,drop_bAt hi,quoteLen_cons,if_neg (by rw[hc];decide),if_pos hc];rcases Nat.lt_or_ge (i+1+1) l.length with h5|h5
 ·rw[drop_bAt h5];simp only[];rw[show i+1+1+1=i+1+2 from rfl]
  congr 1
  omega
 ·rw[List.drop_eq_nil_of_le h5,List.drop_eq_nil_of_le (show l.length≤i+1+2 by omega)];simp only[quoteLen];omega
theorem r4_on (h:SpanR l K A E 4 i at_) (hi:i+1<l.length) (hc:bAt l (i+1)≠92) (hq:bAt l (i+1)≠34):SpanR l K A E 4 (i+1) at_:=by
 obtain⟨h1,h2,h3,h4⟩:=h;refine⟨by omega,h2,h3,?_⟩;rw[h4,drop_bAt hi,quoteLen_cons,if_neg hq,if_neg hc]
 congr 1
 omega
theorem r4_off (h:SpanR l K A E 4 i at_) (hi:l.length≤i+1∨bAt l (i+1)=34):at_=A∧K=4∧E=min (i+1+1) l.length:=by
 obtain⟨h1,h2,h3,h4⟩:=h;refine⟨h2,h3,?_⟩;rw[h4];rcases Nat.lt_or_ge (i+1) l.length with h5|h5
 ·have hq:bAt l (i+1)=34:=by rcases hi with h|h;omega;exact h
  rw[drop_bAt h5,quoteLen_cons,if_pos hq]
 ·rw[List.drop_eq_nil_of_le h5];simp only[quoteLen];omega
theorem r6_on (h:SpanR l K A E 6 i at_):SpanR l K A E 4 (i+1) at_:=by
 obtain⟨h1,h2,h3,h4⟩:=h;exact⟨by omega,h2,h3,h4⟩
end
def wholeF (l:List UInt8):Option Int :=
 match Lib.parseIntB 64 l with
 | .ok v=>if 1<l.length∧bAt l 0=48 then none else some v
 | _=>none
theorem parse_range {l:List UInt8} {v:Int} (h:Lib.parseIntB 64 l=.ok v):-9223372036854775808≤v∧v≤9223372036854775807:=by
 unfold Lib.parseIntB at h;cases l with
 | nil=>simp at h
 | cons c r =>
  simp only at h;split at h
  ·cases h
  ·cases h
  ·rename_i u hu;simp only[Nat.add_one_sub_one,Nat.reduceSub,Nat.reducePow] at h;by_cases hn:c.toNat=45
   ·simp[hn] at h;split at h
    ·cases h
    ·injection h with h;omega
   ·simp[hn] at h;split at h
    ·cases h
    ·injection h with h;omega
theorem wholeF_range {l:List UInt8} {v:Int} (h:wholeF l=some v):-9223372036854775808≤v∧v≤9223372036854775807:=by
 unfold wholeF at h;split at h
 ·rename_i u hu;split at h
  ·cases h
  ·injection h with h;subst h;exact parse_range hu
 ·cases h
def hexL:List UInt8:=[48,49,50,51,52,53,54,55,56,57,97,98,99,100,101,102]
def hexVal (c:UInt8):Option Nat :=
 if 48≤c.toNat∧c.toNat≤57 then some (c.toNat-48) else if 97≤c.toNat∧c.toNat≤102 then some (c.toNat-87) else none
def hexI (c:UInt8):Int:=match hexVal c with|some v=>(v:Int)|none=>-1
theorem all_u8 (p:UInt8→Prop) (h:∀ n:Fin 256,p (UInt8.ofNat n.val)) (c:UInt8):p c:=by
 have:=h ⟨c.toNat,c.toNat_lt⟩
 simpa using this
theorem hex_index (c:UInt8):Lib.indexByte hexL c=hexI c :=
 all_u8 (fun c=>Lib.indexByte hexL c=hexI c) (by decide +kernel) c
theorem hexVal_lt {c:UInt8} {v:Nat} (h:hexVal c=some v):v<16:=by
 unfold hexVal at h;split at h
 ·injection h with h;omega
 ·split at h
  ·injection h with h;omega
  ·cases h
theorem hexI_lo (c:UInt8):-1≤hexI c∧hexI c≤15:=by
 unfold hexI;split
 ·rename_i v h;have:=hexVal_lt h;omega
 ·omega
theorem hex0:hexVal 0=none:=by decide
def plainB (c:UInt8):Bool:=decide (32≤c.toNat∧c.toNat≤126)
def partF (r:List UInt8):UInt8 × Nat :=
 if bAt r 0≠92∧bAt r 0≠34∧plainB (bAt r 0)=true then (bAt r 0,1)
 else if bAt r 0=92∧(bAt r 1=34∨bAt r 1=92) then (bAt r 1,2)
 else if bAt r 0=92∧bAt r 1=120 then
  match hexVal (bAt r 2),hexVal (bAt r 3) with
  | some h,some k=>if plainB (UInt8.ofNat (16 * h+k))=true then (0,0) else (UInt8.ofNat (16 * h+k),4)
  | _,_=>(0,0)
 else (0,0)
theorem bAt_pos {l:List UInt8} {i:Nat} (h:bAt l i≠0):i<l.length:=by
 rcases Nat.lt_or_ge i l.length with h'|h'
 ·exact h'
 ·exact absurd (bAt_ge h') h
theorem partF_le (r:List UInt8):(partF r).2≤r.length∧(partF r).2≤4:=by
 unfold partF;split
 ·rename_i h;have h0:bAt r 0≠0:=by intro e;rw[e] at h;exact absurd h.2.2 (by decide)
  have:=bAt_pos h0;simp;omega
 ·split
  ·rename_i h;have h0:bAt r 1≠0:=by intro e;rw[e] at h;exact absurd h.2 (by decide)
   have:=bAt_pos h0;simp;omega
  ·split
   ·split
    ·rename_i h _ _ a b ha hb;split
     ·simp
     ·have h0:bAt r 3≠0:=by intro e;rw[e,hex0] at hb;cases hb
      have:=bAt_pos h0;simp;omega
    ·simp
   ·simp
def unqF:Nat→List UInt8→Option (List UInt8)
 | 0,_=>none
 | f+1,r=>if r=[34] then some [] else if (partF r).2=0 then none else (unqF f (r.drop (partF r).2)).map ((partF r).1 :: ·)
def unquoteF (l:List UInt8):Option (List UInt8) :=
 match unqF (l.length+1) (l.drop 1) with
 | some s=>if s.length≤256 then some s else none
 | none=>none
def oneFormB (m e:Int):Bool :=
 if m=0 then decide (e=0)
 else if m % 2=0∨9007199254740992≤m∨e < -1074∨1023<e then false
 else decide ((Lib.bitLen m.toNat:Int)+e≤1024)
def cutAt (l:List UInt8):List UInt8 × List UInt8 :=
 if 0≤Lib.indexByte l 112 then (l.take (Lib.indexByte l 112).toNat,l.drop ((Lib.indexByte l 112).toNat+1)) else (l,[])
def scaledF (l:List UInt8):Option (Int × Int) :=
 match wholeF (cutAt l).1,wholeF (if bAt (cutAt l).2 0=45 then (cutAt l).2.drop 1 else (cutAt l).2) with
 | some m,some e =>
  if bAt (cutAt l).2 0=45 then (if e=0 then none else if oneFormB m (-e)=true then some (m,-e) else none)
  else if oneFormB m e=true then some (m,e) else none
 | _,_=>none
def realBits (m e:Int):Nat:=Ieee.double.nearest false m.toNat e
set_option maxRecDepth 100000
theorem f64bits (b:Nat) (w:World):(callFunc 228 #[.float .f64 b]).run Tryz.prog w=.ok (.value (.int .u64 b)) w:=by
 rw[run_callFunc_extern Tryz.func228 (by kernel_rfl) (by kernel_rfl) (by kernel_rfl) (e:=Extern.MathFloatBits.float64bits) (by kernel_rfl)];rfl
theorem f64from (n:Int) (w:World):(callFunc 231 #[.int .u64 n]).run Tryz.prog w=.ok (.value (.float .f64 n.toNat)) w:=by
 rw[run_callFunc_extern Tryz.func231 (by kernel_rfl) (by kernel_rfl) (by kernel_rfl) (e:=Extern.MathFloatBits.float64frombits) (by kernel_rfl)];rfl
def absF (b:Nat):Nat:=(bits .andNot .u64 (b:Int) 9223372036854775808).toNat
def gtB (a b:Nat):Bool:=FloatKind.f64.format.order a b==some Ordering.gt
def ltB (a b:Nat):Bool:=FloatKind.f64.format.order a b==some Ordering.lt
def eqB (a b:Nat):Bool:=FloatKind.f64.format.order a b==some Ordering.eq
theorem abs_any (b:Nat) (w:World):Calls Tryz.prog 253 #[.float .f64 b] w fun e w'=>e=.returned (.float .f64 (absF b))∧w=w':=by
 have h1:=f64bits b;have h2:=f64from;go_enter Tryz.func253,Tryz.ntmps253;go_wp2;go_ret;exact⟨rfl,rfl⟩
theorem isInf_any (b:Nat) (w:World):Calls Tryz.prog 226 #[.float .f64 b,.int .i64 0] w fun e w'=>e=.returned (.bool (gtB (absF b) 9218868437227405311))∧w=w':=by
 go_enter Tryz.func226,Tryz.ntmps226;go_wp2_with (go_at_call 253;refine(abs_any b _).mono ?_;rintro e w' ⟨rfl,rfl⟩);go_ret;exact⟨rfl,rfl⟩
theorem isNaN_any (b:Nat) (w:World):Calls Tryz.prog 210 #[.float .f64 b] w fun e w'=>e=.returned (.bool (!eqB b b))∧w=w':=by
 go_enter Tryz.func210,Tryz.ntmps210;go_wp2;go_ret;exact⟨rfl,rfl⟩
theorem normalize_no (b:Nat) (w:World) (h:ltB (absF b) 4503599627370496=false):Calls Tryz.prog 227 #[.float .f64 b] w fun e w'=>e=.returned (.tuple #[.float .f64 b,.int .i64 0])∧w=w':=by
 have h':(FloatKind.f64.format.order (absF b) 4503599627370496==some Ordering.lt)=false:=h;clear h;go_enter Tryz.func227,Tryz.ntmps227;go_wp2_with (go_at_call 253;refine(abs_any b _).mono ?_;rintro e w' ⟨rfl,rfl⟩)
 go_ret2
 exact⟨rfl,rfl⟩
theorem ldexp_zero (b:Nat) (x:Int) (w:World) (h:eqB b 0=true):Calls Tryz.prog 200 #[.float .f64 b,.int .i64 x] w fun e w'=>e=.returned (.float .f64 b)∧w=w':=by
 have h':(FloatKind.f64.format.order b 0==some Ordering.eq)=true:=h;clear h;go_enter Tryz.func200,Tryz.ntmps200;go_wp2;go_ret;exact⟨rfl,rfl⟩
end Go.Proofs.YtenlhcgpajphhaaGreatDoor
namespace Go.Proofs.YtenlhcgpajphhaaGreatDoor
set_option linter.all false
def rungB (b:Nat):Nat:=b % 9223372036854775808
def negB (b:Nat):Bool:=b / 9223372036854775808 % 2==1
def nanB (b:Nat):Bool:=decide (9218868437227405312<rungB b)
def keyI (b:Nat):Int:=if negB b then -(rungB b:Int) else (rungB b:Int)
theorem oS:Ieee.double.signWeight=9223372036854775808:=by decide
theorem oB:Ieee.double.binade=4503599627370496:=by decide
theorem oI:Ieee.double.infRung=9218868437227405312:=by decide
theorem oL:Ieee.double.leastPlace=-1074:=by decide
def valN (r:Nat):Nat:=if r<4503599627370496 then r else (4503599627370496+r % 4503599627370496) * 2 ^ (r / 4503599627370496-1)
theorem valN_succ (r:Nat):valN r<valN (r+1):=by
 unfold valN;split
 ·split
  ·omega
  ·have e1:(r+1) % 4503599627370496=0:=by omega
   have e2:(r+1) / 4503599627370496=1:=by omega
   rw[e1,e2];omega
 ·rw[if_neg (by omega)];rcases Nat.lt_or_ge (r % 4503599627370496+1) 4503599627370496 with h|h
  ·have e1:(r+1) % 4503599627370496=r % 4503599627370496+1:=by omega
   have e2:(r+1) / 4503599627370496=r / 4503599627370496:=by omega
   rw[e1,e2];exact Nat.mul_lt_mul_of_pos_right (by omega) (Nat.two_pow_pos _)
  ·have e1:(r+1) % 4503599627370496=0:=by omega
   have e2:(r+1) / 4503599627370496-1=(r / 4503599627370496-1)+1:=by omega
   have e3:r % 4503599627370496=4503599627370495:=by omega
   rw[e1,e2,e3,Nat.pow_succ];have:=Nat.two_pow_pos (r / 4503599627370496-1);omega
theorem valN_add (r d:Nat):valN r<valN (r+d+1):=by
 induction d with
 | zero=>exact valN_succ r
 | succ d ih=>exact Nat.lt_trans ih (valN_succ _)
theorem valN_lt {r s:Nat} (h:r<s):valN r<valN s:=by
 obtain⟨d,rfl⟩:∃ d,s=r+d+1:=⟨s-r-1,by omega⟩
 exact valN_add r d
theorem valN_zero:valN 0=0:=by decide
theorem compare_of {a b x y:Int} (h1:a<b→x<y) (h2:b<a→y<x) (h3:a=b→x=y):compare x y=compare a b:=by
 rcases Int.lt_trichotomy a b with h|h|h
 ·rw[Int.compare_eq_lt.2 h,Int.compare_eq_lt.2 (h1 h)]
 ·rw[Int.compare_eq_eq.2 h,Int.compare_eq_eq.2 (h3 h)]
 ·rw[Int.compare_eq_gt.2 h,Int.compare_eq_gt.2 (h2 h)]
def sv (b:Nat):Int:=if negB b then -(valN (rungB b):Int) else (valN (rungB b):Int)
theorem sv_lt {a b:Nat} (h:keyI a<keyI b):sv a<sv b:=by
 unfold keyI at h;unfold sv;have z:=valN_zero;by_cases ha:negB a <;> by_cases hb:negB b <;> simp only[ha,hb,if_true,Bool.false_eq_true,if_false] at h ⊢
 ·have:=valN_lt (r:=rungB b) (s:=rungB a) (by omega);omega
 ·rcases Nat.eq_zero_or_pos (rungB a) with h0|h0
  ·rw[h0] at h ⊢;have:=valN_lt (r:=0) (s:=rungB b) (by omega);omega
  ·have:=valN_lt h0;omega
 ·omega
 ·have:=valN_lt (r:=rungB a) (s:=rungB b) (by omega);omega
theorem sv_eq {a b:Nat} (h:keyI a=keyI b):sv a=sv b:=by
 unfold keyI at h;unfold sv;have z:=valN_zero;by_cases ha:negB a <;> by_cases hb:negB b <;> simp only[ha,hb,if_true,Bool.false_eq_true,if_false] at h ⊢
 ·rw[show rungB a=rungB b by omega]
 ·rw[show rungB a=0 by omega,show rungB b=0 by omega,z];rfl
 ·rw[show rungB a=0 by omega,show rungB b=0 by omega,z];rfl
 ·rw[show rungB a=rungB b by omega]
theorem sv_compare (a b:Nat):compare (sv a) (sv b)=compare (keyI a) (keyI b):=compare_of sv_lt sv_lt sv_eq
theorem read_fin (b:Nat) (h:rungB b<9218868437227405312):∃ (m:Nat) (p:Int),Ieee.double.read b=.number (negB b) m p∧-1074≤p∧m * 2 ^ (p+1074).toNat=valN (rungB b):=by
 unfold Ieee.Format.read;rw[oS,oB,oI,oL];show ∃ m p,(if rungB b<_ then Ieee.Datum.number (negB b) (rungB b) _ else if rungB b<_ then Ieee.Datum.number (negB b) (4503599627370496+rungB b % 4503599627370496) (-1074+((rungB b / 4503599627370496-1:Nat):Int)) else _)=_∧_;rw[if_pos h];unfold valN;split
 ·exact⟨_,_,rfl,by omega,by simp⟩
 ·refine⟨_,_,rfl,by omega,?_⟩;rw[show (-1074+((rungB b / 4503599627370496-1:Nat):Int)+1074).toNat=rungB b / 4503599627370496-1 by omega]
theorem read_inf (b:Nat) (h:rungB b=9218868437227405312):Ieee.double.read b=.infinity (negB b):=by
 unfold Ieee.Format.read;rw[oS,oB,oI,oL];show (if rungB b<_ then _ else if rungB b<_ then _ else if rungB b=_ then Ieee.Datum.infinity (negB b) else _)=_;rw[if_neg (by omega),if_neg (by omega),if_pos h]
theorem read_nan (b:Nat) (h:9218868437227405312<rungB b):∃ n,Ieee.double.read b=.nan (negB b) n:=by
 unfold Ieee.Format.read;rw[oS,oB,oI,oL];show ∃ n,(if rungB b<_ then _ else if rungB b<_ then _ else if rungB b=_ then _ else Ieee.Datum.nan (negB b) (rungB b-9218868437227405312))=_;rw[if_neg (by omega),if_neg (by omega),if_neg (by omega)];exact⟨_,rfl⟩
theorem order_nan_l (a b:Nat) (h:nanB a=true):Ieee.double.order a b=none:=by
 obtain⟨n,hn⟩:=read_nan a (by simpa [nanB] using h);unfold Ieee.Format.order;rw[hn];unfold Ieee.Datum.order;cases Ieee.double.read b <;> rfl
theorem signed_scale (s:Bool) (m u B:Nat):Ieee.signed s m u * ((2 ^ B:Nat):Int)=if s then -((m * 2 ^ (u+B):Nat):Int) else ((m * 2 ^ (u+B):Nat):Int):=by
 unfold Ieee.signed;rw[Nat.shiftLeft_eq,Nat.pow_add,← Nat.mul_assoc];cases s
 ·simp only[Bool.false_eq_true,if_false,Int.natCast_mul]
 ·simp only[if_true,Int.natCast_mul,Int.neg_mul]
theorem order_key (a b:Nat) (ha:nanB a=false) (hb:nanB b=false):Ieee.double.order a b=some (compare (keyI a) (keyI b)):=by
 have ha':rungB a≤9218868437227405312:=by simpa [nanB] using ha
 have hb':rungB b≤9218868437227405312:=by simpa [nanB] using hb
 unfold Ieee.Format.order;rcases Nat.lt_or_ge (rungB a) 9218868437227405312 with h1|h1 <;> rcases Nat.lt_or_ge (rungB b) 9218868437227405312 with h2|h2
 ·obtain⟨m,p,e1,p1,v1⟩:=read_fin a h1;obtain⟨n,q,e2,q1,v2⟩:=read_fin b h2;rw[e1,e2];unfold Ieee.Datum.order;simp only[Option.some.injEq];rw[← sv_compare];obtain⟨B,hB⟩:∃ B:Nat,min p q+1074=B:=⟨(min p q+1074).toNat,by omega⟩
  have s1:=signed_scale (negB a) m (p-min p q).toNat B;have s2:=signed_scale (negB b) n (q-min p q).toNat B;rw[show (p-min p q).toNat+B=(p+1074).toNat by omega,v1] at s1;rw[show (q-min p q).toNat+B=(q+1074).toNat by omega,v2] at s2;have g1:Ieee.signed (negB a) m (p-min p q).toNat * ((2 ^ B:Nat):Int)=sv a:=s1;have g2:Ieee.signed (negB b) n (q-min p q).toNat * ((2 ^ B:Nat):Int)=sv b:=s2;have hpos:(0:Int)<((2 ^ B:Nat):Int):=Int.ofNat_lt.2 (Nat.two_pow_pos B);refine(compare_of (fun h=>?_) (fun h=>?_) (fun h=>?_)).symm
  ·rw[← g1,← g2];exact Int.mul_lt_mul_of_pos_right h hpos
  ·rw[← g1,← g2];exact Int.mul_lt_mul_of_pos_right h hpos
  ·rw[← g1,← g2,h]
 ·obtain⟨m,p,e1,p1,v1⟩:=read_fin a h1;rw[e1,read_inf b (by omega)];unfold Ieee.Datum.order;unfold keyI;by_cases x:negB a <;> by_cases y:negB b <;> simp only[x,y,if_true,Bool.false_eq_true,if_false,Option.some.injEq] <;> first|exact(Int.compare_eq_gt.2 (by omega)).symm|exact(Int.compare_eq_lt.2 (by omega)).symm
 ·obtain⟨m,p,e1,p1,v1⟩:=read_fin b h2;rw[e1,read_inf a (by omega)];unfold Ieee.Datum.order;unfold keyI;by_cases x:negB a <;> by_cases y:negB b <;> simp only[x,y,if_true,Bool.false_eq_true,if_false,Option.some.injEq] <;> first|exact(Int.compare_eq_gt.2 (by omega)).symm|exact(Int.compare_eq_lt.2 (by omega)).symm
 ·rw[read_inf a (by omega),read_inf b (by omega)];unfold Ieee.Datum.order;unfold keyI;by_cases x:negB a <;> by_cases y:negB b <;> simp only[x,y,if_true,Bool.false_eq_true,if_false,Option.some.injEq] <;> first|exact(Int.compare_eq_gt.2 (by omega)).symm|exact(Int.compare_eq_lt.2 (by omega)).symm|exact(Int.compare_eq_eq.2 (by omega)).symm
end Go.Proofs.YtenlhcgpajphhaaGreatDoor
