import Derived.Test.YtenlhcgpajphhaaGreatDoorMRefText
import Derived.Test.YtenlhcgpajphhaaGreatDoorMNextPlain
namespace Go.Proofs.YtenlhcgpajphhaaGreatDoor
open Go.RowKit
set_option linter.all false
def SameT (t u:Tok × Nat):Prop:=t.2=u.2∧(t.2=0→t.1=u.1)
theorem two_one (c:UInt8):isMarkB [c]=oneMark c:=all_u8 (fun c=>isMarkB [c]=oneMark c) (by decide +kernel) c
theorem two_two (c d:UInt8):isMarkB [c,d]=twoMark c d:=by
 unfold isMarkB twoMark;simp[Bool.or_assoc]
theorem same_name {l:List UInt8} {A:Nat} (h:letterB (bAt l A)=true):SameT (tokAt l A) (refName l A):=by
 have hs:spanE l A=(1,A+1+tw wordB l (A+1)):=by unfold spanE;rw[if_pos h]
 have e:A+1+tw wordB l (A+1)-A=1+tw wordB l (A+1):=by omega
 unfold tokAt faultF refName;rw[hs];simp only[baseF,pieceOf,e];by_cases h32:1+tw wordB l (A+1)≤32
 ·have h33:¬ 32<1+tw wordB l (A+1):=by omega
  simp[h32,h33,SameT]
 ·have h33:32<1+tw wordB l (A+1):=by omega
  simp[h32,h33,SameT]
theorem tok_five {l:List UInt8} {A m:Nat} (hs:spanE l A=(5,A+m)):tokAt l A=(⟨5,(l.drop A).take m,0,0,A,m⟩,0):=by
 unfold tokAt faultF;rw[hs];simp[baseF,pieceOf]
theorem tok_none {l:List UInt8} {A:Nat} (hs:spanE l A=(0,A)) (hA:A<l.length):tokAt l A=(⟨0,[],0,0,A,0⟩,10):=by
 unfold tokAt faultF;rw[hs];simp[baseF,hA]
theorem same_mark {l:List UInt8} {A:Nat} (hA:A<l.length) (h:letterB (bAt l A)=false) (hd:digitB (bAt l A)=false) (hq:bAt l A≠34):SameT (tokAt l A) (refMarkT l A):=by
 have hs:spanE l A=if 0<markLen (l.drop A) then (5,A+markLen (l.drop A)) else (0,A):=by
  unfold spanE;rw[if_neg (by simp[h]),if_neg (by simp[hd]),if_neg hq]
 have hdr:=drop_bAt hA;have hlen:(l.drop A).length=l.length-A:=List.length_drop;unfold refMarkT;generalize bAt l A=c at *
 rcases hr:l.drop (A+1) with _|⟨d,r⟩
 ·rw[hr] at hdr;have h2:¬ A+2≤l.length:=by rw[hdr] at hlen;simp at hlen;omega
  have hm:markLen (l.drop A)=if oneMark c=true then 1 else 0:=by rw[hdr];rfl
  have t1:isMarkB ((l.drop A).take 1)=oneMark c:=by rw[hdr];exact two_one c
  rw[if_neg (fun h=>h2 h.1),t1];cases ho:oneMark c
  ·rw[hm,ho] at hs;rw[tok_none (by simpa using hs) hA];simp[SameT]
  ·rw[hm,ho] at hs;rw[tok_five (m:=1) (by simpa using hs)];simp[SameT]
 ·rw[hr] at hdr;have h2:A+2≤l.length:=by rw[hdr] at hlen;simp at hlen;omega
  have hm:markLen (l.drop A)=if twoMark c d=true then 2 else if oneMark c=true then 1 else 0:=by rw[hdr];rfl
  have t1:isMarkB ((l.drop A).take 1)=oneMark c:=by rw[hdr];exact two_one c
  have t2:isMarkB ((l.drop A).take 2)=twoMark c d:=by rw[hdr];exact two_two c d
  rw[t1,t2];cases ht:twoMark c d
  ·cases ho:oneMark c
   ·rw[hm,ht,ho] at hs;rw[tok_none (by simpa using hs) hA];simp[SameT]
   ·rw[hm,ht,ho] at hs;rw[tok_five (m:=1) (by simpa using hs)];simp[SameT]
  ·rw[hm,ht] at hs;rw[tok_five (m:=2) (by simpa using hs)];simp[SameT,h2]
theorem parts_back:∀ (f:Nat) (l:List UInt8) (i:Nat),i≤l.length→l.length+1≤f+i →
  i≤(partsF f l i).2∧(partsF f l i).2≤l.length∧l.drop i=(partsF f l i).1.flatMap qPart++l.drop (partsF f l i).2
 | 0,l,i,h,hf=>by omega
 | f+1,l,i,h,hf=>by
  have hle:=(partF_le (l.drop i)).1;rw[List.length_drop] at hle;unfold partsF;by_cases h0:(partF (l.drop i)).2=0
  ·rw[if_pos h0];exact⟨Nat.le_refl _,h,by simp⟩
  ·rw[if_neg h0];obtain⟨h1,h2,h3⟩:=parts_back f l (i+(partF (l.drop i)).2) (by omega) (by omega);refine⟨by simp only;omega,h2,?_⟩;simp only[List.flatMap_cons,List.append_assoc];rw[← h3,← part_take _ h0,← List.drop_drop,List.take_append_drop]
theorem part_end (t:List UInt8):(partF (34 :: t)).2=0:=by
 unfold partF;simp[bAt]
theorem parts_on:∀ (s:List UInt8) (f:Nat) (l:List UInt8) (i:Nat) (t:List UInt8),i≤l.length→l.length+1≤f+i→l.drop i=s.flatMap qPart++34 :: t →
  partsF f l i=(s,i+(s.flatMap qPart).length)
 | [],f,l,i,t,h,hf,e=>by
  obtain⟨g,rfl⟩:∃ g,f=g+1:=⟨f-1,by omega⟩
  unfold partsF;rw[e];simp[part_end]
 | c :: s,f,l,i,t,h,hf,e=>by
  obtain⟨g,rfl⟩:∃ g,f=g+1:=⟨f-1,by omega⟩
  obtain⟨h1,_,h3⟩:=part_on c (s.flatMap qPart++34 :: t);rw[List.flatMap_cons,List.append_assoc] at e;have hlen:(l.drop i).length=l.length-i:=List.length_drop;rw[e,List.length_append] at hlen;unfold partsF;rw[e,h1];simp only;rw[if_neg (by omega),parts_on s g l (i+(qPart c).length) t (by omega) (by omega) (by rw[← List.drop_drop,e,List.drop_left])];simp only[List.flatMap_cons,List.length_append];rw[Nat.add_assoc]
theorem quoteLen_parts:∀ (s t:List UInt8),quoteLen (s.flatMap qPart++34 :: t)=(s.flatMap qPart).length+1
 | [],t=>by simp[quoteLen_cons]
 | c :: s,t=>by
  rw[List.flatMap_cons,List.append_assoc,quoteLen_part,quoteLen_parts s t,List.length_append];omega
theorem tok_text {l:List UInt8} {A:Nat} {s t:List UInt8} (hA:A<l.length) (h:bAt l A=34) (e:l.drop (A+1)=s.flatMap qPart++34 :: t) :
  tokAt l A=if s.length≤256 then (⟨4,s,0,0,A,(s.flatMap qPart).length+2⟩,0) else (⟨0,[],0,0,A,0⟩,11):=by
 have hlen:(l.drop (A+1)).length=l.length-(A+1):=List.length_drop;rw[e,List.length_append,List.length_cons] at hlen;have hs:spanE l A=(4,A+((s.flatMap qPart).length+2)):=by
  unfold spanE;rw[h,if_neg (by decide),if_neg (by decide),if_pos rfl,e,quoteLen_parts,Nat.min_eq_left (by omega)]
  congr 1
  omega
 have hp:pieceOf l A (A+((s.flatMap qPart).length+2))=34 :: (s.flatMap qPart++[34]):=by
  unfold pieceOf;rw[drop_bAt hA,h,e,Nat.add_sub_cancel_left,List.take_succ_cons,List.take_append,List.take_of_length_le (by omega),
   show (s.flatMap qPart).length+1-(s.flatMap qPart).length=1 by omega]
  rfl
 have hu:unquoteF (34 :: (s.flatMap qPart++[34]))=if s.length≤256 then some s else none:=by
  unfold unquoteF;rw[List.drop_succ_cons,List.drop_zero,unq_on s _ (by simp;omega)]
 unfold tokAt faultF;rw[hs];simp only[baseF,hp,hu];by_cases hl:s.length≤256
 ·simp[hl]
 ·simp[hl]
theorem same_text {l:List UInt8} {A:Nat} (hA:A<l.length) (h:bAt l A=34):SameT (tokAt l A) (refText l A):=by
 obtain⟨h1,h2,h3⟩:=parts_back (l.length+1) l (A+1) hA (by omega);by_cases hk:(partsF (l.length+1) l (A+1)).2<l.length∧bAt l (partsF (l.length+1) l (A+1)).2=34
 ·unfold refText;generalize partsF (l.length+1) l (A+1)=p at *
  obtain⟨s,k⟩:=p;simp only at *
  rw[drop_bAt hk.1,hk.2] at h3;have hlen:=congrArg List.length h3;simp only[List.length_drop,List.length_append,List.length_cons] at hlen;rw[tok_text hA h h3];by_cases hl:s.length≤256
  ·rw[if_pos hl,if_pos ⟨hk.1,hk.2,hl⟩,show (s.flatMap qPart).length+2=k+1-A by omega];exact⟨rfl,fun _=>rfl⟩
  ·rw[if_neg hl,if_neg (fun h=>hl h.2.2)];exact⟨rfl,fun h=>by cases h⟩
 ·have hr:refText l A=(zeroTok,11):=by
   unfold refText;rw[if_neg (fun h=>hk ⟨h.1,h.2.1⟩)]
  have hE:(spanE l A).1=4:=by
   unfold spanE;rw[h,if_neg (by decide),if_neg (by decide),if_pos rfl]
  have hb:=spanE_bounds l A (Nat.le_of_lt hA);have hAE:=hb.2.2.2 hE;have hu:unquoteF (pieceOf l A (spanE l A).2)=none:=by
   cases hu:unquoteF (pieceOf l A (spanE l A).2) with
   | none=>rfl
   | some s =>
    exfalso;unfold unquoteF at hu;cases ht:unqF ((pieceOf l A (spanE l A).2).length+1) ((pieceOf l A (spanE l A).2).drop 1) with
    | none=>rw[ht] at hu;cases hu
    | some t =>
     have hd:=unq_back _ _ _ ht;have hp:(pieceOf l A (spanE l A).2).drop 1=(l.drop (A+1)).take ((spanE l A).2-(A+1)):=by
      unfold pieceOf;rw[List.drop_take,List.drop_drop,Nat.sub_sub]
     have e:l.drop (A+1)=t.flatMap qPart++34 :: (l.drop (A+1)).drop ((spanE l A).2-(A+1)):=by
      conv=>lhs;rw[← List.take_append_drop ((spanE l A).2-(A+1)) (l.drop (A+1)),← hp,hd,List.append_assoc]
      rfl
     have hlen:=congrArg List.length e;simp only[List.length_drop,List.length_append,List.length_cons] at hlen;have hon:=parts_on t (l.length+1) l (A+1) _ hA (by omega) e;rw[hon] at hk;have hlt:A+1+(t.flatMap qPart).length<l.length:=by omega
     refine hk ⟨hlt,?_⟩;simp only;have:bAt (l.drop (A+1)) (t.flatMap qPart).length=34:=by
      rw[e];unfold bAt;simp
     rwa [bAt_drop] at this
  rw[hr];have hf:faultF l (spanE l A).1 A (spanE l A).2=11:=by
   unfold faultF;rw[hE];simp[baseF,hu]
  unfold tokAt;rw[if_pos (by rw[hf];decide),hf];exact⟨rfl,fun h=>by cases h⟩
set_option maxRecDepth 100000
theorem parse_great:∀ (l:List UInt8) (acc:Nat),(∀ c ∈ l,48≤c.toNat∧c.toNat≤57)→acc≤18446744073709551615→18446744073709551615<valD acc l→Lib.parseUintM 18446744073709551615 acc l=.range
 | [],acc,_,h,hv=>by
  have:valD acc []=acc:=rfl;omega
 | c :: r,acc,hd,h,hv=>by
  have h1:=hd c (by simp);have h3:valD acc (c :: r)=valD (acc * 10+(c.toNat-48)) r:=rfl;rw[h3] at hv;unfold Lib.parseUintM;rw[if_pos h1];by_cases g1:1844674407370955162≤acc
  ·rw[if_pos g1]
  ·rw[if_neg g1];by_cases g2:18446744073709551615<acc * 10+(c.toNat-48)
   ·rw[if_pos g2]
   ·rw[if_neg g2];exact parse_great r _ (fun x hx=>hd x (List.mem_cons_of_mem _ hx)) (by omega) hv
theorem whole_nil:wholeF []=none:=rfl
theorem whole_digits {D:List UInt8} (hd:∀ c ∈ D,48≤c.toNat∧c.toNat≤57) (hne:D≠[]) :
  wholeF D=if 1<D.length∧bAt D 0=48 then none else Option.map (fun v:Nat=>(v:Int)) (refW D):=by
 have hu:Lib.parseUintB 64 D=if valD 0 D≤18446744073709551615 then .ok (valD 0 D) else .range:=by
  unfold Lib.parseUintB;rw[if_neg hne];by_cases hv:valD 0 D≤18446744073709551615
  ·rw[if_pos hv];exact parse_digits D 0 hd hv
  ·rw[if_neg hv];exact parse_great D 0 hd (by omega) (by omega)
 obtain⟨c,r,hcr⟩:∃ c r,D=c :: r:=by
  cases D with
  | nil=>exact absurd rfl hne
  | cons c r=>exact⟨c,r,rfl⟩
 have hc:=hd c (by rw[hcr];simp);have hp:Lib.parseIntB 64 D=if valD 0 D≤9223372036854775807 then .ok ((valD 0 D:Nat):Int) else .range:=by
  generalize valD 0 D=v at *
  rw[hcr] at hu ⊢;unfold Lib.parseIntB;simp only;rw[if_neg (by omega),hu];have hn:¬ (c.toNat=45):=by omega
  by_cases hv:v≤18446744073709551615
  ·rw[if_pos hv];simp only[hn,not_false_eq_true,true_and,false_and,if_false];by_cases hlt:v≤9223372036854775807
   ·rw[if_neg (by omega),if_pos hlt]
   ·rw[if_pos (by omega),if_neg hlt]
  ·rw[if_neg hv,if_neg (by omega)]
 unfold wholeF refW;rw[hp];by_cases hlt:valD 0 D≤9223372036854775807
 ·rw[if_pos hlt,if_pos hlt];rfl
 ·rw[if_neg hlt,if_neg hlt];simp
theorem form_down (m x:Nat):(if (x:Int)=0 then none else if oneFormB (m:Int) (-(x:Int))=true then some (realBits m (-(x:Int))) else none)=realC m x true:=by
 unfold realC oneFormB;by_cases hx:x=0
 ·subst hx;simp
 ·rw[if_neg (by omega)];by_cases hm:m=0
  ·subst hm;simp[hx]
  ·rw[if_neg (show ¬ ((m:Int)=0) by omega)];by_cases hc:(m:Int) % 2=0∨9007199254740992≤(m:Int)∨-(x:Int) < -1074∨1023 < -(x:Int)
   ·rw[if_pos hc,if_neg (by simp),if_pos];rcases hc with h|h|h|h
    ·exact .inr (.inr (.inl ⟨by omega,hm⟩))
    ·exact .inl (by omega)
    ·exact .inr (.inl (by simp;omega))
    ·omega
   ·have hb:=bitLen_log2 m (by omega) (by omega);have hl:=log2_le (m:=m) (by omega) (by omega);rw[if_neg hc,Int.toNat_natCast,hb,if_pos (by simp;omega),if_neg,if_pos rfl];rintro (h|h|h|h|h)
    ·omega
    ·simp at h;omega
    ·omega
    ·omega
    ·omega
theorem form_up (m x:Nat):(if oneFormB (m:Int) (x:Int)=true then some (realBits m (x:Int)) else none)=realC m x false:=by
 unfold realC oneFormB;by_cases hm:m=0
 ·subst hm;by_cases hx:x=0
  ·subst hx;simp
  ·simp[hx]
 ·rw[if_neg (show ¬ ((m:Int)=0) by omega)];by_cases hc:(m:Int) % 2=0∨9007199254740992≤(m:Int)∨(x:Int) < -1074∨1023<(x:Int)
  ·rw[if_pos hc,if_neg (by simp),if_pos];rcases hc with h|h|h|h
   ·exact .inr (.inr (.inl ⟨by omega,hm⟩))
   ·exact .inl (by omega)
   ·omega
   ·exact .inr (.inl (by simp;omega))
  ·have hb:=bitLen_log2 m (by omega) (by omega);have hn:¬ (9007199254740992≤m∨(if (false=true) then 1074 else 1023)<x∨(m % 2=0∧m≠0)∨(m=0∧x≠0)∨(false=true∧x=0)):=by
    rintro (h|h|h|h|h)
    ·omega
    ·rw[if_neg (by decide)] at h;omega
    ·omega
    ·omega
    ·exact absurd h.1 (by decide)
   rw[if_neg hc,Int.toNat_natCast,hb];by_cases hf:(m.log2:Int)+1+x≤1024
   ·have hL:decide (((m.log2+1:Nat):Int)+(x:Int)≤1024)=true:=by rw[decide_eq_true_iff];omega
    rw[hL,if_pos rfl,if_neg hn,if_neg (by decide),if_pos (.inr hf)]
   ·have hL:decide (((m.log2+1:Nat):Int)+(x:Int)≤1024)=false:=by rw[decide_eq_false_iff_not];omega
    rw[hL,if_neg (by decide),if_neg hn,if_neg (by decide),if_neg (by rintro (h|h);exact hm h;exact hf h)]
theorem scaled_down {D1 D2:List UInt8} (h1:∀ c ∈ D1,48≤c.toNat∧c.toNat≤57):scaledF (D1++112 :: 45 :: D2)=match wholeF D1,wholeF D2 with
  | some m,some e=>if e=0 then none else if oneFormB m (-e)=true then some (m,-e) else none
  | _,_=>none:=by
 unfold scaledF;rw[cut_digits _ _ h1];simp only;have e0:bAt (45 :: D2) 0=45:=rfl;rw[if_pos e0,List.drop_one,List.tail_cons];simp only[if_pos e0];cases wholeF D1 <;> cases wholeF D2 <;> rfl
theorem scaled_up {D1 D2:List UInt8} (h1:∀ c ∈ D1,48≤c.toNat∧c.toNat≤57) (h2:bAt D2 0≠45):scaledF (D1++112 :: D2)=match wholeF D1,wholeF D2 with
  | some m,some e=>if oneFormB m e=true then some (m,e) else none
  | _,_=>none:=by
 unfold scaledF;rw[cut_digits _ _ h1];simp only[if_neg h2];cases wholeF D1 <;> cases wholeF D2 <;> rfl
theorem tok_whole {l:List UInt8} {A E:Nat} (hs:spanE l A=(2,E)):tokAt l A=if wordB (bAt l E)=true then (⟨0,[],0,0,A,0⟩,12) else
  match wholeF (pieceOf l A E) with|some v=>(⟨2,[],v,0,A,E-A⟩,0)|none=>(⟨0,[],0,0,A,0⟩,12):=by
 unfold tokAt faultF;rw[hs];simp only[baseF];cases hw:wordB (bAt l E)
 ·cases wholeF (pieceOf l A E) <;> simp
 ·simp
theorem tok_real {l:List UInt8} {A E:Nat} (hs:spanE l A=(3,E)):tokAt l A=if wordB (bAt l E)=true then (⟨0,[],0,0,A,0⟩,12) else
  match scaledF (pieceOf l A E) with|some (m,e)=>(⟨3,[],0,realBits m e,A,E-A⟩,0)|none=>(⟨0,[],0,0,A,0⟩,12):=by
 unfold tokAt faultF;rw[hs];simp only[baseF];cases hw:wordB (bAt l E)
 ·cases scaledF (pieceOf l A E) <;> simp
 ·simp
theorem same12 (t u:Tok):SameT (t,12) (u,12):=⟨rfl,fun h=>by cases h⟩
theorem same_real {D1 D2:List UInt8} {A N M:Nat} {below:Bool} (h1:∀ c ∈ D1,48≤c.toNat∧c.toNat≤57) (h2:∀ c ∈ D2,48≤c.toNat∧c.toNat≤57) (n1:D1≠[]) (n2:D2≠[]) :
  SameT (match scaledF (D1++112 :: (if below=true then 45 :: D2 else D2)) with|some (m,e)=>(⟨3,[],0,realBits m e,A,N+M⟩,0)|none=>(⟨0,[],0,0,A,0⟩,12))
   (if (1<D1.length∧bAt D1 0=48)∨(1<D2.length∧bAt D2 0=48) then (zeroTok,12) else realT A N M D1 D2 below):=by
 have hb2:bAt D2 0≠45:=by
  cases D2 with
  | nil=>exact absurd rfl n2
  | cons c r =>
   have:=h2 c (by simp);show c≠45;rintro rfl;have h45:(45:UInt8).toNat=45:=rfl;omega
 have w1:=whole_digits h1 n1;have w2:=whole_digits h2 n2;have hs:scaledF (D1++112 :: (if below=true then 45 :: D2 else D2))=if (1<D1.length∧bAt D1 0=48)∨(1<D2.length∧bAt D2 0=48) then none else
   match refW D1,refW D2 with
   | some m,some x=>if below=true then (if (x:Int)=0 then none else if oneFormB (m:Int) (-(x:Int))=true then some ((m:Int),-(x:Int)) else none) else (if oneFormB (m:Int) (x:Int)=true then some ((m:Int),(x:Int)) else none)
   | _,_=>none:=by
  cases below
  ·rw[if_neg (by decide),scaled_up h1 hb2,w1,w2];by_cases g1:1<D1.length∧bAt D1 0=48
   ·rw[if_pos g1,if_pos (show (1<D1.length∧bAt D1 0=48)∨(1<D2.length∧bAt D2 0=48) from .inl g1)]
   ·rw[if_neg g1];by_cases g2:1<D2.length∧bAt D2 0=48
    ·rw[if_pos g2,if_pos (.inr g2)];cases (refW D1) <;> rfl
    ·rw[if_neg g2,if_neg (by rintro (h|h);exact g1 h;exact g2 h)];cases refW D1 <;> cases refW D2 <;> simp
  ·rw[if_pos rfl,scaled_down h1,w1,w2];by_cases g1:1<D1.length∧bAt D1 0=48
   ·rw[if_pos g1,if_pos (show (1<D1.length∧bAt D1 0=48)∨(1<D2.length∧bAt D2 0=48) from .inl g1)]
   ·rw[if_neg g1];by_cases g2:1<D2.length∧bAt D2 0=48
    ·rw[if_pos g2,if_pos (.inr g2)];cases (refW D1) <;> rfl
    ·rw[if_neg g2,if_neg (by rintro (h|h);exact g1 h;exact g2 h)];cases refW D1 <;> cases refW D2 <;> simp
 rw[hs];by_cases g:(1<D1.length∧bAt D1 0=48)∨(1<D2.length∧bAt D2 0=48)
 ·rw[if_pos g,if_pos g];exact same12 _ _
 ·rw[if_neg g,if_neg g];unfold realT;cases refW D1 with
  | none=>exact same12 _ _
  | some m =>
   cases refW D2 with
   | none=>exact same12 _ _
   | some x =>
    simp only;cases below
    ·rw[← form_up,if_neg (by decide)];by_cases ho:oneFormB (m:Int) (x:Int)=true
     ·rw[if_pos ho,if_pos ho];exact⟨rfl,fun _=>rfl⟩
     ·rw[if_neg ho,if_neg ho];exact same12 _ _
    ·rw[← form_down,if_pos rfl];by_cases h0:(x:Int)=0
     ·rw[if_pos h0,if_pos h0];exact same12 _ _
     ·rw[if_neg h0,if_neg h0];by_cases ho:oneFormB (m:Int) (-(x:Int))=true
      ·rw[if_pos ho,if_pos ho];exact⟨rfl,fun _=>rfl⟩
      ·rw[if_neg ho,if_neg ho];exact same12 _ _
theorem row_len {l:List UInt8} {j:Nat}:((l.drop j).take (tw digitB l j)).length=tw digitB l j:=by
 have:=tw_le digitB l j;rw[List.length_take,List.length_drop];omega
theorem row_head {l:List UInt8} {j k:Nat} (h:0<k):bAt ((l.drop j).take k) 0=bAt l j:=by
 rw[bAt_take,if_pos h,bAt_drop,Nat.add_zero]
theorem row_ne {l:List UInt8} {j:Nat} (h:0<tw digitB l j):(l.drop j).take (tw digitB l j)≠[]:=by
 intro e;have:=row_len (l:=l) (j:=j);rw[e] at this;simp at this;omega
theorem real_rows {l:List UInt8} {A N H T:Nat} {below:Bool} (hp:bAt l (A+N)=112) (hH:(below=true∧H=2∧bAt l (A+N+1)=45)∨(below=false∧H=1)) (hlen:A+N+H+T≤l.length) :
  pieceOf l A (A+N+(H+T))=(l.drop A).take N++112 :: (if below=true then 45 :: (l.drop (A+N+H)).take T else (l.drop (A+N+H)).take T):=by
 unfold pieceOf;rw[show A+N+(H+T)-A=N+(H+T) by omega,List.take_add,List.drop_drop]
 congr 1
 rcases hH with ⟨rfl,rfl,h45⟩|⟨rfl,rfl⟩
 ·rw[drop_bAt (j:=A+N) (by omega),hp,show 2+T=(1+T)+1 by omega,List.take_succ_cons,drop_bAt (j:=A+N+1) (by omega),h45,Nat.add_comm 1 T,List.take_succ_cons,if_pos rfl]
 ·rw[drop_bAt (j:=A+N) (by omega),hp,Nat.add_comm 1 T,List.take_succ_cons,if_neg (by decide)]
theorem same_num {l:List UInt8} {A:Nat} (hA:A<l.length) (hlet:letterB (bAt l A)=false) (hd:digitB (bAt l A)=true):SameT (tokAt l A) (refNum l A):=by
 have hN1:=(tw_yes (p:=digitB) hd digit0).2;have hlen:=tw_end l A (Nat.le_of_lt hA);have hD1:=tw_digits l A;have hL1:=row_len (l:=l) (j:=A);have hH1:bAt ((l.drop A).take (tw digitB l A)) 0=bAt l A:=row_head (by omega);have hne1:=row_ne (l:=l) (j:=A) (by omega);have hspan:spanE l A=numEnd l (A+tw digitB l A):=by
  unfold spanE;rw[if_neg (by simp[hlet]),if_pos hd,hN1,Nat.add_assoc]
 generalize hN:tw digitB l A=N at *
 by_cases hp:bAt l (A+N)=112
 ·obtain⟨below,H,hH,hend,hnum⟩:∃ below H,((below=true∧H=2∧bAt l (A+N+1)=45)∨(below=false∧H=1)) ∧
    endF l (A+N)=(if tw digitB l (A+N+H)=0 then (0,0) else (H+tw digitB l (A+N+H),H))∧numEnd l (A+N)=(3,A+N+H+tw digitB l (A+N+H)):=by
   unfold endF numEnd;have hnp:¬ (bAt l (A+N)≠112):=fun h=>h hp;rw[if_pos hp,if_neg hnp];by_cases h45:bAt l (A+N+1)=45
   ·exact⟨true,2,.inl ⟨rfl,rfl,h45⟩,by simp only[if_pos h45],by rw[if_pos h45]⟩
   ·exact⟨false,1,.inr ⟨rfl,rfl⟩,by simp only[if_neg h45],by rw[if_neg h45]⟩
  have hb:=spanE_bounds l A (Nat.le_of_lt hA);rw[hspan,hnum] at hb;have hT:=hb.2.1;simp only at hT;rw[hnum,Nat.add_assoc] at hspan;rw[tok_real hspan,real_rows hp hH hT];unfold refNum;rw[hN,hend];have hL2:=row_len (l:=l) (j:=A+N+H);have hD2:=tw_digits l (A+N+H);by_cases h0:tw digitB l (A+N+H)=0
  ·rw[if_pos h0];have hf:followsB l (A+N+0)=true:=by
    unfold followsB;rw[Nat.add_zero,hp];decide
   simp only;rw[hf,Bool.true_or,if_pos rfl];by_cases hw:wordB (bAt l (A+N+(H+tw digitB l (A+N+H))))=true
   ·rw[if_pos hw];exact same12 _ _
   ·rw[if_neg hw,h0,List.take_zero];have hs:scaledF ((l.drop A).take N++112 :: (if below=true then [45] else []))=none:=by
     cases below
     ·rw[if_neg (by decide),scaled_up hD1 (by decide),whole_nil];cases wholeF ((l.drop A).take N) <;> rfl
     ·rw[if_pos rfl,scaled_down hD1,whole_nil];cases wholeF ((l.drop A).take N) <;> rfl
    rw[hs];exact same12 _ _
  ·rw[if_neg h0];have hne2:=row_ne (l:=l) (j:=A+N+H) (by omega);have hH2:bAt ((l.drop (A+N+H)).take (tw digitB l (A+N+H))) 0=bAt l (A+N+H):=row_head (by omega);generalize tw digitB l (A+N+H)=T at *
   simp only;unfold followsB;by_cases hw:wordB (bAt l (A+N+(H+T)))=true
   ·rw[if_pos hw,hw,Bool.true_or,if_pos rfl];exact same12 _ _
   ·have hwf:wordB (bAt l (A+N+(H+T)))=false:=by simpa using hw
    have hbel:(H==2)=below:=by
     rcases hH with ⟨rfl,rfl,_⟩|⟨rfl,rfl⟩ <;> rfl
    rw[if_neg hw,hwf,Bool.false_or,if_pos (show 0<H+T by omega),show H+T-H=T by omega,hbel];have hnou:(noughtsB l A N (H+T) H=true) ↔ ((1<((l.drop A).take N).length∧bAt ((l.drop A).take N) 0=48)∨(1<((l.drop (A+N+H)).take T).length∧bAt ((l.drop (A+N+H)).take T) 0=48)):=by
     rw[hL1,hL2,hH1,hH2];unfold noughtsB;simp only[Bool.or_eq_true,Bool.and_eq_true,beq_iff_eq,decide_eq_true_eq];constructor
     ·rintro (⟨a,b⟩|⟨a,b⟩)
      ·exact .inl ⟨b,a⟩
      ·exact .inr ⟨by omega,b⟩
     ·rintro (⟨a,b⟩|⟨a,b⟩)
      ·exact .inl ⟨b,a⟩
      ·exact .inr ⟨by omega,b⟩
    have hsr:=same_real (A:=A) (N:=N) (M:=H+T) (below:=below) hD1 hD2 hne1 hne2;rw[show A+N+(H+T)-A=N+(H+T) by omega];by_cases hc:noughtsB l A N (H+T) H=true
    ·rw[if_pos hc];rw[if_pos (hnou.1 hc)] at hsr;exact hsr
    ·rw[if_neg hc];rw[if_neg (fun h=>hc (hnou.2 h))] at hsr;exact hsr
 ·have hend:endF l (A+N)=(0,0):=by unfold endF;rw[if_neg hp]
  have hnum:numEnd l (A+N)=(2,A+N):=by unfold numEnd;rw[if_pos hp]
  rw[hnum] at hspan;rw[tok_whole hspan];unfold refNum;rw[hN,hend];simp only[Nat.add_zero,Nat.lt_irrefl,if_false];have hpc:pieceOf l A (A+N)=(l.drop A).take N:=by unfold pieceOf;rw[Nat.add_sub_cancel_left]
  unfold followsB;by_cases hw:wordB (bAt l (A+N))=true
  ·rw[if_pos hw,hw,Bool.true_or,if_pos rfl];exact same12 _ _
  ·have hwf:wordB (bAt l (A+N))=false:=by simpa using hw
   have hnou:(noughtsB l A N 0 0=true) ↔ (1<((l.drop A).take N).length∧bAt ((l.drop A).take N) 0=48):=by
    rw[hL1,hH1];unfold noughtsB;simp only[Bool.or_eq_true,Bool.and_eq_true,beq_iff_eq,decide_eq_true_eq];constructor
    ·rintro (⟨a,b⟩|⟨a,b⟩)
     ·exact⟨b,a⟩
     ·omega
    ·rintro ⟨a,b⟩;exact .inl ⟨b,a⟩
   rw[if_neg hw,hwf,Bool.false_or,hpc,whole_digits hD1 hne1,Nat.add_sub_cancel_left];by_cases hc:noughtsB l A N 0 0=true
   ·rw[if_pos hc,if_pos (hnou.1 hc)];exact same12 _ _
   ·rw[if_neg hc,if_neg (fun h=>hc (hnou.2 h))];cases refW ((l.drop A).take N) with
    | none=>exact same12 _ _
    | some v=>exact⟨rfl,fun _=>rfl⟩
theorem same_tok {l:List UInt8} {A:Nat} (hA:A<l.length):SameT (tokAt l A) (refTok l A):=by
 unfold refTok;by_cases h1:letterB (bAt l A)=true
 ·rw[if_pos h1];exact same_name h1
 ·rw[if_neg h1];have h1':letterB (bAt l A)=false:=by simpa using h1
  by_cases h2:digitB (bAt l A)=true
  ·rw[if_pos h2];exact same_num hA h1' h2
  ·rw[if_neg h2];have h2':digitB (bAt l A)=false:=by simpa using h2
   by_cases h3:bAt l A=34
   ·rw[if_pos h3];exact same_text hA h3
   ·rw[if_neg h3];exact same_mark hA h1' h2' h3
def seqR:Nat→List UInt8→Nat→List Tok × Nat × Nat
 | 0,_,_=>([],0,0)
 | f+1,l,i =>
  if l.length≤i+skipS false (l.drop i) then ([],0,0)
  else if (refTok l (i+skipS false (l.drop i))).2≠0 then ([],i+skipS false (l.drop i),(refTok l (i+skipS false (l.drop i))).2)
  else ((refTok l (i+skipS false (l.drop i))).1 :: (seqR f l (i+skipS false (l.drop i)+(refTok l (i+skipS false (l.drop i))).1.size)).1,
   (seqR f l (i+skipS false (l.drop i)+(refTok l (i+skipS false (l.drop i))).1.size)).2)
theorem tok_last (l:List UInt8):tokAt l l.length=(⟨0,[],0,0,l.length,0⟩,0):=by
 have hd:l.drop l.length=[]:=List.drop_length;have hs:spanE l l.length=(0,l.length):=by
  unfold spanE;rw[bAt_ge (Nat.le_refl _),letter0,digit0,hd];rfl
 unfold tokAt faultF;rw[hs];simp[baseF]
theorem tok_kind {l:List UInt8} {A:Nat} (hA:A<l.length) (h:(tokAt l A).2=0):(spanE l A).1≠0∧(tokAt l A).1.at_=A∧(tokAt l A).1.kind=(spanE l A).1∧(tokAt l A).1.size=(spanE l A).2-A:=by
 rcases tokAt_cases l A (Nat.le_of_lt hA) with ⟨h1,_⟩|⟨_,h2,h3,h4⟩
 ·exact absurd h h1
 ·refine⟨fun h0=>?_,h2,h3,h4⟩;have hf:faultF l (spanE l A).1 A (spanE l A).2=10:=by
   rw[h0];unfold faultF;simp[baseF,hA]
  unfold tokAt at h;rw[hf] at h;simp at h
def toldR (r:List Tok × Nat × Nat):List (Tok × Nat):=r.1.map (fun t=>(t,0))++(if r.2.2=0 then [] else [(⟨0,[],0,0,r.2.1,0⟩,r.2.2)])
theorem same_seq:∀ (f:Nat) (l:List UInt8) (i:Nat),i≤l.length→seqF f l i=toldR (seqR f l i)
 | 0,l,i,_=>by unfold seqF seqR toldR;rfl
 | f+1,l,i,hi=>by
  have hp:=next_place l i hi;unfold seqF seqR nextF;generalize i+skipS false (l.drop i)=A at *
  by_cases hA:l.length≤A
  ·have e:A=l.length:=by omega
   subst e;rw[tok_last,if_neg (by simp),if_pos rfl,if_pos (Nat.le_refl _)];rfl
  ·rw[if_neg hA];obtain⟨s1,s2⟩:=same_tok (l:=l) (A:=A) (by omega);by_cases he:(tokAt l A).2=0
   ·obtain⟨k1,k2,k3,k4⟩:=tok_kind (by omega) he;have hb:=spanE_bounds l A (by omega);rw[if_neg (fun h=>h he),if_neg (by rw[k3];exact k1),if_neg (fun h=>h (by rw[← s1,he]))];have e:=s2 he;rw[← e,same_seq f l _ (by rw[k2,k4];omega),k2];unfold toldR;simp only[List.map_cons,List.cons_append]
    congr 1
    exact Prod.ext rfl he
   ·rw[if_pos he,if_pos (fun h=>he (by rw[s1,h]))];rcases tokAt_cases l A (by omega) with ⟨_,h2⟩|⟨h2,_⟩
    ·unfold toldR;simp only[List.map_nil,List.nil_append];rw[if_neg (by rw[← s1];exact he)]
     congr 1
     exact Prod.ext h2 s1
    ·exact absurd h2 he
def allR (l:List UInt8):List Tok × Nat × Nat:=if 32768<l.length then ([],0,3) else seqR (l.length+1) l 0
theorem same_all (l:List UInt8):allF l=toldR (allR l):=by
 unfold allF allR;by_cases h:32768<l.length
 ·rw[if_pos h,if_pos h];rfl
 ·rw[if_neg h,if_neg h];exact same_seq _ l 0 (Nat.zero_le _)
def seqS (f:Nat) (l:List UInt8) (P:Nat):List Tok × Nat × Nat :=
 if l.length≤P then ([],0,0)
 else if (refTok l P).2≠0 then ([],P,(refTok l P).2)
 else ((refTok l P).1 :: (seqR f l (P+(refTok l P).1.size)).1,(seqR f l (P+(refTok l P).1.size)).2)
theorem seqR_S (f:Nat) (l:List UInt8) (i:Nat):seqR (f+1) l i=seqS f l (i+skipS false (l.drop i)):=rfl
def RAt (l:List UInt8) (done:List Tok) (i:Nat) (c:Bool):Prop :=
 i≤l.length∧∃ f,l.length≤f+i∧seqR (l.length+1) l 0=(done++(seqS f l (i+skipS c (l.drop i))).1,(seqS f l (i+skipS c (l.drop i))).2)
theorem refTok_size {l:List UInt8} {i:Nat} (hi:i<l.length) (he:(refTok l i).2=0):0<(refTok l i).1.size∧i+(refTok l i).1.size≤l.length∧(refTok l i).1.at_=i∧(refTok l i).1.kind≤5∧0<(refTok l i).1.kind:=by
 obtain⟨s1,s2⟩:=same_tok hi;have he':(tokAt l i).2=0:=by rw[s1,he]
 obtain⟨k1,k2,k3,k4⟩:=tok_kind hi he';have hp:=spanE_pos (Nat.le_of_lt hi) k1;have hb:=spanE_bounds l i (Nat.le_of_lt hi);rw[← s2 he',k2,k3,k4];omega
theorem seqR_few {l:List UInt8}:∀ (f:Nat) (i:Nat),i≤l.length→(seqR f l i).1.length+i≤l.length
 | 0,i,h=>by unfold seqR;simpa using h
 | f+1,i,h=>by
  rw[seqR_S];obtain⟨P,hP⟩:∃ P,P=i+skipS false (l.drop i):=⟨_,rfl⟩
  rw[← hP];unfold seqS;by_cases h1:l.length≤P
  ·rw[if_pos h1];simpa using h
  ·rw[if_neg h1];by_cases h2:(refTok l P).2≠0
   ·rw[if_pos h2];simpa using h
   ·rw[if_neg h2];obtain⟨z1,z2,_⟩:=refTok_size (l:=l) (i:=P) (by omega) (Classical.not_not.1 h2);have:=seqR_few f (P+(refTok l P).1.size) z2;simp only[List.length_cons];omega
end Go.Proofs.YtenlhcgpajphhaaGreatDoor
