import Derived.Test.YtkpboalccpancaaGreatDoorJMNextPlain
import Derived.Test.YtkpboalccpancaaGreatDoorJMEpScan
namespace Go.Proofs.YtkpboalccpancaaGreatDoor
open Go.RowKit
set_option linter.all false
def shT (m:Nat) (x:Tok × Nat):Tok × Nat:=({ x.1 with at_:=m+x.1.at_ },x.2)
section
variable {T l:List UInt8} {m:Nat} (hd:T.drop m=l) (hm:m≤T.length)
include hd
theorem drop_sh (j:Nat):T.drop (m+j)=l.drop j:=by rw[← hd,List.drop_drop]
theorem bAt_sh (j:Nat):bAt T (m+j)=bAt l j:=by rw[← hd,bAt_drop]
theorem tw_sh (p:UInt8→Bool) (j:Nat):tw p T (m+j)=tw p l j:=by unfold tw;rw[drop_sh hd]
theorem piece_sh (A E:Nat):pieceOf T (m+A) (m+E)=pieceOf l A E:=by
 unfold pieceOf;rw[drop_sh hd,show m+E-(m+A)=E-A by omega]
theorem numEnd_sh (d:Nat):numEnd T (m+d)=((numEnd l d).1,m+(numEnd l d).2):=by
 unfold numEnd;rw[show m+d+1=m+(d+1) from rfl,show m+d+2=m+(d+2) from rfl,bAt_sh hd,bAt_sh hd,tw_sh hd,tw_sh hd];split
 ·rfl
 ·split
  ·simp only[Nat.add_assoc]
  ·simp only[Nat.add_assoc]
include hm
theorem len_sh:T.length=m+l.length:=by rw[← hd];simp;omega
theorem span_sh (A:Nat):spanE T (m+A)=((spanE l A).1,m+(spanE l A).2):=by
 have hl:=len_sh hd hm;unfold spanE;rw[bAt_sh hd,show m+A+1=m+(A+1) from rfl,tw_sh hd,tw_sh hd,drop_sh hd,drop_sh hd];split
 ·simp only[Nat.add_assoc]
 ·split
  ·rw[show m+(A+1)+tw digitB l (A+1)=m+(A+1+tw digitB l (A+1)) by omega,numEnd_sh hd]
  ·split
   ·rw[hl]
    congr 1
    omega
   ·split
    ·simp only[Nat.add_assoc]
    ·rfl
theorem base_sh (K A E:Nat):baseF T K (m+A) (m+E)=baseF l K A E:=by
 have hl:=len_sh hd hm;unfold baseF;rw[piece_sh hd,show m+E-(m+A)=E-A by omega];have e:(if m+A<T.length then 10 else 0)=(if A<l.length then 10 else 0):=by
  by_cases h:A<l.length
  ·rw[if_pos h,if_pos (by omega)]
  ·rw[if_neg h,if_neg (by omega)]
 rw[e]
theorem fault_sh (K A E:Nat):faultF T K (m+A) (m+E)=faultF l K A E:=by
 unfold faultF;rw[bAt_sh hd,base_sh hd hm]
theorem tok_sh (A:Nat):tokAt T (m+A)=shT m (tokAt l A):=by
 unfold tokAt;rw[span_sh hd hm];simp only;rw[fault_sh hd hm,base_sh hd hm];split
 ·rfl
 ·rw[show m+(spanE l A).2-(m+A)=(spanE l A).2-A by omega];rfl
theorem nextF_sh (i:Nat):nextF T (m+i)=shT m (nextF l i):=by
 unfold nextF;rw[drop_sh hd,Nat.add_assoc,tok_sh hd hm]
theorem seq_sh:∀ (f i:Nat),seqF f T (m+i)=(seqF f l i).map (shT m)
 | 0,_=>rfl
 | f+1,i=>by
  rw[seqF,seqF,nextF_sh hd hm];by_cases h1:(nextF l i).2≠0
  ·rw[if_pos h1,if_pos (show (shT m (nextF l i)).2≠0 from h1)];rfl
  ·rw[if_neg h1,if_neg (show ¬ (shT m (nextF l i)).2≠0 from h1)];by_cases h2:(nextF l i).1.kind=0
   ·rw[if_pos h2,if_pos (show (shT m (nextF l i)).1.kind=0 from h2)];rfl
   ·rw[if_neg h2,if_neg (show ¬ (shT m (nextF l i)).1.kind=0 from h2)];rw[List.map_cons,show (shT m (nextF l i)).1.at_+(shT m (nextF l i)).1.size=m+((nextF l i).1.at_+(nextF l i).1.size) from Nat.add_assoc _ _ _,seq_sh f]
end
theorem seq_fuel (l:List UInt8):∀ (f f' i:Nat),i≤l.length→l.length-i<f→l.length-i<f'→seqF f l i=seqF f' l i:=by
 intro f
 induction f with
 | zero=>intro f' i _ h;omega
 | succ f ih =>
  intro f' i hi h h';obtain⟨g,rfl⟩:∃ g,f'=g+1:=⟨f'-1,by omega⟩
  rw[seqF,seqF];split
  ·rfl
  ·rename_i h1;split
   ·rfl
   ·rename_i h2;have hn:=next_on hi (by simpa using h1) h2;rw[ih g _ hn.2.1 (by omega) (by omega)]
theorem skip_on:∀ (l:List UInt8) (b:Bool) (r:List UInt8),skipS b l<l.length→skipS b (l++r)=skipS b l
 | [],b,r,h=>by simp at h
 | c :: l,true,r,h=>by
  rw[List.cons_append,skipS,skipS];rw[skipS] at h;split
  ·rename_i hc;rw[if_pos hc] at h;rw[skip_on l false r (by simp at h;omega)]
  ·rename_i hc;rw[if_neg hc] at h;rw[skip_on l true r (by simp at h;omega)]
 | c :: l,false,r,h=>by
  rw[List.cons_append,skipS,skipS];rw[skipS] at h;split
  ·rename_i hc;rw[if_pos hc] at h;rw[skip_on l false r (by simp at h;omega)]
  ·rename_i hc;rw[if_neg hc] at h;split
   ·rename_i h35;rw[if_pos h35] at h;rw[skip_on l true r (by simp at h;omega)]
   ·rfl
theorem skip_over:∀ (l:List UInt8) (b:Bool) (r:List UInt8),skipS b l=l.length→skipS b (l++10 :: r)=l.length+1+skipS false r
 | [],true,r,_=>by
  show skipS true (10 :: r)=_;rw[skipS,if_pos rfl];simp
 | [],false,r,_=>by
  show skipS false (10 :: r)=_;rw[skipS,if_pos (by decide)];simp
 | c :: l,true,r,h=>by
  rw[List.cons_append,skipS];rw[skipS] at h;split
  ·rename_i hc;rw[if_pos hc] at h;rw[skip_over l false r (by simp at h;omega)];simp;omega
  ·rename_i hc;rw[if_neg hc] at h;rw[skip_over l true r (by simp at h;omega)];simp;omega
 | c :: l,false,r,h=>by
  rw[List.cons_append,skipS];rw[skipS] at h;split
  ·rename_i hc;rw[if_pos hc] at h;rw[skip_over l false r (by simp at h;omega)];simp;omega
  ·rename_i hc;rw[if_neg hc] at h;split
   ·rename_i h35;rw[if_pos h35] at h;rw[skip_over l true r (by simp at h;omega)];simp;omega
   ·rename_i h35;rw[if_neg h35] at h;simp at h
theorem quoted_ten (t:List UInt8):∀ b ∈ quoted t,b≠10:=by
 have hq:∀ c:UInt8,∀ b ∈ qPart c,b≠10:=fun c=>all_u8 (fun c=>∀ b ∈ qPart c,b≠10) (by decide +kernel) c;intro b hb;unfold quoted qHead at hb;simp only[List.mem_append,List.mem_cons,List.mem_flatMap,List.not_mem_nil,or_false] at hb;rcases hb with (rfl|⟨c,_,hc⟩)|rfl
 ·decide
 ·exact hq c b hc
 ·decide
theorem word_ten {c:UInt8} (h:wordB c=true):c≠10:=fun e=>by rw[e] at h;revert h;decide
theorem digit_ten {c:UInt8} (h:digitB c=true):c≠10:=fun e=>by rw[e] at h;revert h;decide
theorem letter_ten {c:UInt8} (h:letterB c=true):c≠10:=fun e=>by rw[e] at h;revert h;decide
theorem digits_ten {l:List UInt8} {j i:Nat} (h:i<tw digitB l j):bAt l (j+i)≠10:=digit_ten ((tw_facts (p:=digitB) (by decide) (l:=l) (l.length-j) j (Nat.le_refl _)).1 i h)
theorem words_ten {l:List UInt8} {j i:Nat} (h:i<tw wordB l j):bAt l (j+i)≠10:=word_ten ((tw_facts (p:=wordB) (by decide) (l:=l) (l.length-j) j (Nat.le_refl _)).1 i h)
theorem tok_quoted {l:List UInt8} {A:Nat} (hA:A<l.length) (h0:(tokAt l A).2=0) (h4:(spanE l A).1=4):∃ t,pieceOf l A (spanE l A).2=quoted t:=by
 have hpos:=spanE_pos (Nat.le_of_lt hA) (by rw[h4];decide);have hf0:faultF l (spanE l A).1 A (spanE l A).2=0:=by
  unfold tokAt at h0;split at h0
  ·rename_i hf;exact absurd h0 hf
  ·rename_i hf;simpa using hf
 have hbase0:(baseF l (spanE l A).1 A (spanE l A).2).2.2.2=0:=by
  unfold faultF at hf0;split at hf0
  ·cases hf0
  ·exact hf0
 rw[h4] at hbase0;have hq34:bAt l A=34:=by
  unfold spanE at h4;split at h4
  ·simp at h4
  ·split at h4
   ·unfold numEnd at h4;split at h4
    ·simp at h4
    ·split at h4 <;> simp at h4
   ·split at h4
    ·assumption
    ·split at h4 <;> simp at h4
 unfold baseF at hbase0;rw[if_neg (by decide),if_neg (by decide),if_neg (by decide),if_pos rfl] at hbase0;cases hu:unquoteF (pieceOf l A (spanE l A).2) with
 | none=>rw[hu] at hbase0;cases hbase0
 | some t =>
  unfold unquoteF at hu;split at hu
  ·rename_i t' ht';have hd:=unq_back _ _ _ ht';refine⟨t',?_⟩;have hhead:pieceOf l A (spanE l A).2=34 :: (pieceOf l A (spanE l A).2).drop 1:=by
    unfold pieceOf;rw[drop_bAt hA,hq34,show (spanE l A).2-A=((spanE l A).2-A-1)+1 by omega,List.take_succ_cons];rfl
   rw[hhead,hd];rfl
  ·cases hu
theorem no_ten {l:List UInt8} {A:Nat} (hA:A<l.length) (h0:(tokAt l A).2=0):∀ i,A+i<(spanE l A).2→bAt l (A+i)≠10:=by
 intro i hi;have hq:=tok_quoted hA h0;have hbd:=spanE_bounds l A (Nat.le_of_lt hA);unfold spanE at hi hq;split at hi
 ·rename_i hc;simp only at hi;rcases Nat.eq_zero_or_pos i with rfl|hp
  ·exact letter_ten hc
  ·have:=words_ten (l:=l) (j:=A+1) (i:=i-1) (by omega);rw[show A+1+(i-1)=A+i by omega] at this;exact this
 ·rename_i hc;rw[if_neg hc] at hq;split at hi
  ·rename_i hdg;have hdig:∀ k,k≤tw digitB l (A+1)→bAt l (A+k)≠10:=fun k hk=>by
    rcases Nat.eq_zero_or_pos k with rfl|hp
    ·exact digit_ten hdg
    ·have:=digits_ten (l:=l) (j:=A+1) (i:=k-1) (by omega);rw[show A+1+(k-1)=A+k by omega] at this;exact this
   unfold numEnd at hi;split at hi
   ·simp only at hi;exact hdig i (by omega)
   ·rename_i h112;have h112:bAt l (A+1+tw digitB l (A+1))=112:=by simpa using h112
    split at hi
    ·rename_i h45;simp only at hi;rcases Nat.lt_or_ge (tw digitB l (A+1)) i with h|h
     ·rcases Nat.lt_or_ge i (tw digitB l (A+1)+1+1) with h2|h2
      ·rw[show A+i=A+1+tw digitB l (A+1) by omega,h112];decide
      ·rcases Nat.lt_or_ge i (tw digitB l (A+1)+1+2) with h3|h3
       ·rw[show A+i=A+1+tw digitB l (A+1)+1 by omega,h45];decide
       ·have:=digits_ten (l:=l) (j:=A+1+tw digitB l (A+1)+2) (i:=i-(tw digitB l (A+1)+3)) (by omega);rw[show A+1+tw digitB l (A+1)+2+(i-(tw digitB l (A+1)+3))=A+i by omega] at this;exact this
     ·exact hdig i h
    ·simp only at hi;rcases Nat.lt_or_ge (tw digitB l (A+1)) i with h|h
     ·rcases Nat.lt_or_ge i (tw digitB l (A+1)+1+1) with h2|h2
      ·rw[show A+i=A+1+tw digitB l (A+1) by omega,h112];decide
      ·have:=digits_ten (l:=l) (j:=A+1+tw digitB l (A+1)+1) (i:=i-(tw digitB l (A+1)+2)) (by omega);rw[show A+1+tw digitB l (A+1)+1+(i-(tw digitB l (A+1)+2))=A+i by omega] at this;exact this
     ·exact hdig i h
  ·rename_i hdg;rw[if_neg hdg] at hq;split at hi
   ·rename_i h34;rw[if_pos h34] at hq;obtain⟨t,ht⟩:=hq rfl;simp only at hi ht;have hmem:bAt l (A+i) ∈ quoted t:=by
     rw[← ht];unfold pieceOf;rw[← bAt_drop,← bAt_tk (l.drop A) (min (A+1+quoteLen (l.drop (A+1))) l.length-A) i (by omega)];rw[bAt_lt (by simp;omega)];exact List.getElem_mem _
    exact quoted_ten t _ hmem
   ·split at hi
    ·rename_i hmk;simp only at hi;rw[mark_bytes] at hi hmk;split at hi
     ·rename_i h2;rw[bAt_drop,bAt_drop] at h2;have hcase:i=0∨i=1:=by omega
      rcases hcase with rfl|rfl
      ·intro e;rw[show A+0=A from rfl] at e;rw[show A+0=A from rfl,e] at h2;rcases two_first h2 with h|h|h|h|h|h|h <;> revert h <;> decide
      ·intro e;rw[e] at h2;have:=two_blank (bAt l (A+0)) 10 (.inl (by decide));rw[this] at h2;cases h2
     ·split at hi
      ·rename_i h1;obtain rfl:i=0:=by omega
       intro e;rw[bAt_drop,e] at h1
       revert h1;decide
      ·omega
    ·simp only at hi;omega
def both (a b:List UInt8):List UInt8:=a++10 :: b
section
variable {a b:List UInt8}
theorem both_len:(both a b).length=a.length+1+b.length:=by unfold both;simp;omega
theorem both_drop:(both a b).drop (a.length+1)=b:=by
 unfold both;rw[← List.drop_drop,List.drop_left];rfl
theorem both_drop2 {i:Nat} (h:i≤a.length):(both a b).drop i=a.drop i++10 :: b:=by
 unfold both;rw[List.drop_append_of_le_length h]
theorem both_bAt {i:Nat} (h:i<a.length):bAt (both a b) i=bAt a i:=by
 have h1:bAt ((both a b).drop 0) i=bAt (both a b) i:=by rw[List.drop_zero]
 unfold both bAt;rw[List.getElem?_append_left h]
theorem both_ten:bAt (both a b) a.length=10:=by
 unfold both bAt;rw[List.getElem?_append_right (Nat.le_refl _)];simp
theorem next_over {i:Nat} (hi:i≤a.length) (h:skipS false (a.drop i)=(a.drop i).length):nextF (both a b) i=nextF (both a b) (a.length+1):=by
 unfold nextF;rw[both_drop2 hi,skip_over _ _ _ h,both_drop]
 congr 1
 simp;omega
theorem next_in {i:Nat} (hi:i≤a.length) (h:skipS false (a.drop i)<(a.drop i).length):nextF (both a b) i=tokAt (both a b) (i+skipS false (a.drop i)):=by
 unfold nextF;rw[both_drop2 hi,skip_on _ _ _ h]
theorem piece_both {P s:Nat} (h:P+s≤a.length):((both a b).drop P).take s=(a.drop P).take s:=by
 rw[both_drop2 (by omega),List.take_append_of_le_length (by simp;omega)]
theorem tok_both {P:Nat} (hP:P<a.length) (h0:(tokAt a P).2=0):tokAt (both a b) P=tokAt a P:=by
 have hk:=tok_kind hP h0;have hbd:=spanE_bounds a P (Nat.le_of_lt hP);have hps:=spanE_pos (Nat.le_of_lt hP) hk.1;have hbl:=both_len (a:=a) (b:=b);have hE:P+(tokAt a P).1.size≤a.length:=by rw[hk.2.2.2];omega
 have h:=tok_local (l:=a) (r:=both a b) (A:=P) (B:=P) (s:=(tokAt a P).1.size) (Nat.le_of_lt hP) h0 (by rw[hk.2.2.1];exact hk.1) rfl (piece_both hE) (by omega) (by
  rcases Nat.lt_or_ge (P+(tokAt a P).1.size) a.length with h|h
  ·exact .inl (both_bAt h)
  ·refine .inr (.inl ?_);rw[show P+(tokAt a P).1.size=a.length by omega,both_ten]
   decide)
 rw[h];have e:({ (tokAt a P).1 with at_:=P }:Tok)=(tokAt a P).1:=by
  have:=hk.2.1;cases hx:(tokAt a P).1;rw[hx] at this;simp only at this;rw[this]
 rw[e,← h0]
theorem tok_first {P:Nat} (hP:P<a.length) (h0:(tokAt (both a b) P).2=0):tokAt a P=tokAt (both a b) P∧P+(tokAt (both a b) P).1.size≤a.length:=by
 have hbl:=both_len (a:=a) (b:=b);have hPb:P<(both a b).length:=by omega
 have hk:=tok_kind hPb h0;have hbd:=spanE_bounds (both a b) P (Nat.le_of_lt hPb);have hps:=spanE_pos (Nat.le_of_lt hPb) hk.1;have hE:P+(tokAt (both a b) P).1.size≤a.length:=by
  rcases Nat.lt_or_ge a.length (P+(tokAt (both a b) P).1.size) with h|h
  ·have:=no_ten hPb h0 (a.length-P) (by rw[hk.2.2.2] at h;omega);rw[show P+(a.length-P)=a.length by omega,both_ten] at this;exact absurd rfl this
  ·exact h
 refine⟨?_,hE⟩;have h:=tok_local (l:=both a b) (r:=a) (A:=P) (B:=P) (s:=(tokAt (both a b) P).1.size) (Nat.le_of_lt hPb) h0 (by rw[hk.2.2.1];exact hk.1) rfl (piece_both hE).symm (by omega) (by
  rcases Nat.lt_or_ge (P+(tokAt (both a b) P).1.size) a.length with h|h
  ·exact .inl (both_bAt h).symm
  ·exact .inr (.inr (bAt_ge h)))
 rw[h];have e:({ (tokAt (both a b) P).1 with at_:=P }:Tok)=(tokAt (both a b) P).1:=by
  have:=hk.2.1;cases hx:(tokAt (both a b) P).1;rw[hx] at this;simp only at this;rw[this]
 rw[e,← h0]
theorem skip_ways (i:Nat):skipS false (a.drop i)=(a.drop i).length∨skipS false (a.drop i)<(a.drop i).length:=by
 have:=skip_le false (a.drop i);omega
theorem next_out {i:Nat} (hi:i≤a.length) (h:skipS false (a.drop i)=(a.drop i).length):nextF a i=(⟨0,[],0,0,a.length,0⟩,0):=by
 unfold nextF;rw[h,List.length_drop,show i+(a.length-i)=a.length by omega,tok_last]
theorem seq_two:seqF (b.length+1) (both a b) (a.length+1)=(seqF (b.length+1) b 0).map (shT (a.length+1)):=by
 have:=seq_sh (T:=both a b) (l:=b) (m:=a.length+1) both_drop (by have:=both_len (a:=a) (b:=b);omega) (b.length+1) 0;rw[Nat.add_zero] at this;exact this
theorem seq_join:∀ (f i:Nat),i≤a.length→a.length-i<f→(∀ x ∈ seqF f a i,x.2=0)→∀ f',(both a b).length-i<f'→seqF f' (both a b) i=seqF f a i++(seqF (b.length+1) b 0).map (shT (a.length+1)):=by
 have hbl:=both_len (a:=a) (b:=b);intro f
 induction f with
 | zero=>intro i _ h;omega
 | succ f ih =>
  intro i hi hf hz f' hf';obtain⟨g,rfl⟩:∃ g,f'=g+1:=⟨f'-1,by omega⟩
  rcases skip_ways (a:=a) i with h|h
  ·have he:=next_out hi h;have e1:seqF (f+1) a i=[]:=by rw[seqF,he,if_neg (by simp),if_pos rfl]
   have e2:seqF (g+1) (both a b) i=seqF (g+1) (both a b) (a.length+1):=by rw[seqF,seqF,next_over hi h]
   rw[e1,e2,List.nil_append,← seq_two];exact seq_fuel _ _ _ _ (by omega) (by omega) (by omega)
  ·have hP:i+skipS false (a.drop i)<a.length:=by rw[List.length_drop] at h;omega
   have hn:nextF a i=tokAt a (i+skipS false (a.drop i)):=rfl;have h0:(tokAt a (i+skipS false (a.drop i))).2=0:=by
    by_cases h0:(tokAt a (i+skipS false (a.drop i))).2=0
    ·exact h0
    ·exfalso;have:=hz (nextF a i) (by rw[seqF,if_pos (by rw[hn];exact h0)];simp);rw[hn] at this;exact h0 this
   have hk:=tok_kind hP h0;have hkd:(nextF a i).1.kind≠0:=by rw[hn,hk.2.2.1];exact hk.1
   have hnx:=next_on hi (by rw[hn];exact h0) hkd;have e1:seqF (f+1) a i=nextF a i :: seqF f a ((nextF a i).1.at_+(nextF a i).1.size):=by rw[seqF,if_neg (by rw[hn,h0];simp),if_neg hkd]
   have e0:nextF (both a b) i=nextF a i:=by rw[next_in hi h,tok_both hP h0,hn]
   have e2:seqF (g+1) (both a b) i=nextF a i :: seqF g (both a b) ((nextF a i).1.at_+(nextF a i).1.size):=by rw[seqF,e0,if_neg (by rw[hn,h0];simp),if_neg hkd]
   rw[e1] at hz;rw[e1,e2,ih _ hnx.2.1 (by omega) (fun x hx=>hz x (List.mem_cons_of_mem _ hx)) g (by omega)];rfl
theorem seq_first:∀ (f i:Nat),i≤a.length→(∀ x ∈ seqF f (both a b) i,x.2=0)→∀ x ∈ seqF f a i,x.2=0:=by
 intro f
 induction f with
 | zero=>intro i _ _ x hx;cases hx
 | succ f ih =>
  intro i hi hz x hx;rcases skip_ways (a:=a) i with h|h
  ·have he:=next_out hi h;rw[seqF,he,if_neg (by simp),if_pos rfl] at hx;cases hx
  ·have hP:i+skipS false (a.drop i)<a.length:=by rw[List.length_drop] at h;omega
   have hbl:=both_len (a:=a) (b:=b);have hn:nextF (both a b) i=tokAt (both a b) (i+skipS false (a.drop i)):=next_in hi h;have h0:(tokAt (both a b) (i+skipS false (a.drop i))).2=0:=by
    by_cases h0:(tokAt (both a b) (i+skipS false (a.drop i))).2=0
    ·exact h0
    ·exfalso;have:=hz (nextF (both a b) i) (by rw[seqF,if_pos (by rw[hn];exact h0)];simp);rw[hn] at this;exact h0 this
   obtain⟨e,hE⟩:=tok_first hP h0;have hk:=tok_kind (show i+skipS false (a.drop i)<(both a b).length by omega) h0;have hkd:(nextF (both a b) i).1.kind≠0:=by rw[hn,hk.2.2.1];exact hk.1
   have ea:nextF a i=nextF (both a b) i:=by rw[hn,← e];rfl
   have e1:seqF (f+1) (both a b) i=nextF (both a b) i :: seqF f (both a b) ((nextF (both a b) i).1.at_+(nextF (both a b) i).1.size):=by rw[seqF,if_neg (by rw[hn,h0];simp),if_neg hkd]
   have e2:seqF (f+1) a i=nextF (both a b) i :: seqF f a ((nextF (both a b) i).1.at_+(nextF (both a b) i).1.size):=by rw[seqF,ea,if_neg (by rw[hn,h0];simp),if_neg hkd]
   rw[e1] at hz;rw[e2] at hx;have hat:(nextF (both a b) i).1.at_+(nextF (both a b) i).1.size≤a.length:=by
    rw[hn,hk.2.1];exact hE
   rcases List.mem_cons.1 hx with rfl|hx
   ·rw[hn];exact h0
   ·exact ih _ hat (fun y hy=>hz y (List.mem_cons_of_mem _ hy)) x hx
end
theorem all_zero2 {l:List UInt8} (h0:(allR l).2.2=0):allF l=(allR l).1.map (fun t=>(t,0)):=by
 have e:=same_all l;unfold toldR at e;rw[if_pos h0,List.append_nil] at e;exact e
theorem all_both {a b:List UInt8} (ha:(allR a).2.2=0) (hT:(both a b).length≤32768):allF (both a b)=allF a++(allF b).map (shT (a.length+1)):=by
 have hbl:=both_len (a:=a) (b:=b);have hz:∀ x ∈ allF a,x.2=0:=by rw[all_zero2 ha];exact map_zero
 unfold allF at hz ⊢;rw[if_neg (by omega)] at hz;rw[if_neg (by omega),if_neg (by omega),if_neg (by omega)];exact seq_join (a.length+1) 0 (Nat.zero_le _) (by omega) hz _ (by omega)
theorem all_wrong {a b:List UInt8} (ha:(allR a).2.2≠0) (hT:(both a b).length≤32768):(allR (both a b)).2.2≠0:=by
 intro h;have hbl:=both_len (a:=a) (b:=b);have hz:∀ x ∈ allF (both a b),x.2=0:=by rw[all_zero2 h];exact map_zero
 unfold allF at hz;rw[if_neg (by omega)] at hz;have hza:=seq_first ((both a b).length+1) 0 (Nat.zero_le _) hz;have h2:∀ x ∈ allF a,x.2=0:=by
  unfold allF;rw[if_neg (by omega),seq_fuel a (a.length+1) ((both a b).length+1) 0 (Nat.zero_le _) (by omega) (by omega)];exact hza
 exact ha (all_ok h2).2.1
theorem toks_both {a b:List UInt8} (ha:(allR a).2.2=0) (hb:(allR b).2.2=0) (hT:(both a b).length≤32768):(allR (both a b)).2.2=0∧toksL (both a b)=toksL a++(toksL b).map (fun t=>{ t with pl:=t.pl+((a.length+1:Nat):Int) }):=by
 have h:=all_both ha hT;have hz:∀ x ∈ allF (both a b),x.2=0:=by
  rw[h,all_zero2 ha,all_zero2 hb];intro x hx;rcases List.mem_append.1 hx with hx|hx
  ·exact map_zero x hx
  ·obtain⟨y,hy,rfl⟩:=List.mem_map.1 hx;exact map_zero y hy
 obtain⟨_,q2,q3⟩:=all_ok hz;refine⟨q2,?_⟩;rw[q3,all_zero2 ha,all_zero2 hb,List.map_map] at h;have h2:=congrArg (List.map fun x:Tok × Nat=>tokE x.1) h;rw[List.map_append,List.map_map,List.map_map,List.map_map] at h2;unfold toksL;refine h2.trans ?_
 congr 1
 rw[List.map_map];apply List.map_congr_left;intro t _;show tokE { t with at_:=a.length+1+t.at_ }=_;unfold tokE;simp only[Function.comp]
 congr 1
 omega
theorem wrong_two {a b:List UInt8} (ha:(allR a).2.2=0) (hb:(allR b).2.2≠0) (hT:(both a b).length≤32768):(allR (both a b)).2.2=(allR b).2.2∧(allR (both a b)).2.1=a.length+1+(allR b).2.1:=by
 have h:=all_both ha hT;have e:=same_all b;unfold toldR at e;rw[if_neg hb] at e;rw[e,all_zero2 ha,List.map_append] at h;have h':allF (both a b)=((allR a).1.map (fun t=>(t,0))++((allR b).1.map (fun t=>(t,0))).map (shT (a.length+1)))++(shT (a.length+1) (⟨0,[],0,0,(allR b).2.1,0⟩,(allR b).2.2)) :: []:=by
  rw[h,List.append_assoc];rfl
 have:=all_bad h' (fun y hy=>by
  rcases List.mem_append.1 hy with hy|hy
  ·exact map_zero y hy
  ·obtain⟨z,hz,rfl⟩:=List.mem_map.1 hy;exact map_zero z hz) hb
 exact⟨this.2,this.1⟩
end Go.Proofs.YtkpboalccpancaaGreatDoor
