import Derived.Test.YtenlhcgpajphhaaGreatDoorMRefText
import Derived.Test.YtenlhcgpajphhaaGreatDoorMNextPlain
import Derived.Test.YtenlhcgpajphhaaGreatDoorScan
import Derived.Test.YtenlhcgpajphhaaGreatDoorMQuotePlain
import Derived.Laws.IdiomStrings
namespace Go.Proofs.YtenlhcgpajphhaaGreatDoor
open Go.RowKit
set_option linter.all false
def qj8 (t u:Tok × Nat):Prop:=t.2=u.2∧(t.2=0→t.1=u.1)
theorem qz2 (c:UInt8):qgG [c]=qb7 c:=qkF (fun c=>qgG [c]=qb7 c) (by decide +kernel) c
theorem q7P (c d:UInt8):qgG [c,d]=qaP c d:=by
 unfold qgG qaP;simp[Bool.or_assoc]
theorem qzU {l:List UInt8} {A:Nat} (h:qa8 (bAt l A)=true):qj8 (qaR l A) (qoK l A):=by
 have hs:qaD l A=(1,A+1+tw qaJ l (A+1)):=by unfold qaD;rw[if_pos h]
 have e:A+1+tw qaJ l (A+1)-A=1+tw qaJ l (A+1):=by omega
 unfold qaR qcH qoK;rw[hs];simp only[qcC,qa2,e];by_cases h32:1+tw qaJ l (A+1)≤32
 ·have h33:¬ 32<1+tw qaJ l (A+1):=by omega
  simp[h32,h33,qj8]
 ·have h33:32<1+tw qaJ l (A+1):=by omega
  simp[h32,h33,qj8]
theorem qoF {l:List UInt8} {A m:Nat} (hs:qaD l A=(5,A+m)):qaR l A=(⟨5,(l.drop A).take m,0,0,A,m⟩,0):=by
 unfold qaR qcH;rw[hs];simp[qcC,qa2]
theorem quA {l:List UInt8} {A:Nat} (hs:qaD l A=(0,A)) (hA:A<l.length):qaR l A=(⟨0,[],0,0,A,0⟩,10):=by
 unfold qaR qcH;rw[hs];simp[qcC,hA]
theorem qzV {l:List UInt8} {A:Nat} (hA:A<l.length) (h:qa8 (bAt l A)=false) (hd:qa1 (bAt l A)=false) (hq:bAt l A≠34):qj8 (qaR l A) (qkR l A):=by
 have hs:qaD l A=if 0<qaE (l.drop A) then (5,A+qaE (l.drop A)) else (0,A):=by
  unfold qaD;rw[if_neg (by simp[h]),if_neg (by simp[hd]),if_neg hq]
 have hdr:=qbZ hA;have hlen:(l.drop A).length=l.length-A:=List.length_drop;unfold qkR;generalize bAt l A=c at *
 rcases hr:l.drop (A+1) with _|⟨d,r⟩
 ·rw[hr] at hdr;have h2:¬ A+2≤l.length:=by rw[hdr] at hlen;simp at hlen;omega
  have hm:qaE (l.drop A)=if qb7 c=true then 1 else 0:=by rw[hdr];rfl
  have t1:qgG ((l.drop A).take 1)=qb7 c:=by rw[hdr];exact qz2 c
  rw[if_neg (fun h=>h2 h.1),t1];cases ho:qb7 c
  ·rw[hm,ho] at hs;rw[quA (by simpa using hs) hA];simp[qj8]
  ·rw[hm,ho] at hs;rw[qoF (m:=1) (by simpa using hs)];simp[qj8]
 ·rw[hr] at hdr;have h2:A+2≤l.length:=by rw[hdr] at hlen;simp at hlen;omega
  have hm:qaE (l.drop A)=if qaP c d=true then 2 else if qb7 c=true then 1 else 0:=by rw[hdr];rfl
  have t1:qgG ((l.drop A).take 1)=qb7 c:=by rw[hdr];exact qz2 c
  have t2:qgG ((l.drop A).take 2)=qaP c d:=by rw[hdr];exact q7P c d
  rw[t1,t2];cases ht:qaP c d
  ·cases ho:qb7 c
   ·rw[hm,ht,ho] at hs;rw[quA (by simpa using hs) hA];simp[qj8]
   ·rw[hm,ht,ho] at hs;rw[qoF (m:=1) (by simpa using hs)];simp[qj8]
  ·rw[hm,ht] at hs;rw[qoF (m:=2) (by simpa using hs)];simp[qj8,h2]
theorem qnH:∀ (f:Nat) (l:List UInt8) (i:Nat),i≤l.length→l.length+1≤f+i →
  i≤(qdJ f l i).2∧(qdJ f l i).2≤l.length∧l.drop i=(qdJ f l i).1.flatMap qbI++l.drop (qdJ f l i).2
 | 0,l,i,h,hf=>by omega
 | f+1,l,i,h,hf=>by
  have hle:=(quT (l.drop i)).1;rw[List.length_drop] at hle;unfold qdJ;by_cases h0:(qaQ (l.drop i)).2=0
  ·rw[if_pos h0];exact⟨Nat.le_refl _,h,by simp⟩
  ·rw[if_neg h0];obtain⟨h1,h2,h3⟩:=qnH f l (i+(qaQ (l.drop i)).2) (by omega) (by omega);refine⟨by simp only;omega,h2,?_⟩;simp only[List.flatMap_cons,List.append_assoc];rw[← h3,← qqZ _ h0,← List.drop_drop,List.take_append_drop]
theorem q4A (t:List UInt8):(qaQ (34 :: t)).2=0:=by
 unfold qaQ;simp[bAt]
theorem quQ:∀ (s:List UInt8) (f:Nat) (l:List UInt8) (i:Nat) (t:List UInt8),i≤l.length→l.length+1≤f+i→l.drop i=s.flatMap qbI++34 :: t →
  qdJ f l i=(s,i+(s.flatMap qbI).length)
 | [],f,l,i,t,h,hf,e=>by
  obtain⟨g,rfl⟩:∃ g,f=g+1:=⟨f-1,by omega⟩
  unfold qdJ;rw[e];simp[q4A]
 | c :: s,f,l,i,t,h,hf,e=>by
  obtain⟨g,rfl⟩:∃ g,f=g+1:=⟨f-1,by omega⟩
  obtain⟨h1,_,h3⟩:=q0N c (s.flatMap qbI++34 :: t);rw[List.flatMap_cons,List.append_assoc] at e;have hlen:(l.drop i).length=l.length-i:=List.length_drop;rw[e,List.length_append] at hlen;unfold qdJ;rw[e,h1];simp only;rw[if_neg (by omega),quQ s g l (i+(qbI c).length) t (by omega) (by omega) (by rw[← List.drop_drop,e,List.drop_left])];simp only[List.flatMap_cons,List.length_append];rw[Nat.add_assoc]
theorem qhR:∀ (s t:List UInt8),qcR (s.flatMap qbI++34 :: t)=(s.flatMap qbI).length+1
 | [],t=>by simp[qbH]
 | c :: s,t=>by
  rw[List.flatMap_cons,List.append_assoc,qiL,qhR s t,List.length_append];omega
theorem q3L {l:List UInt8} {A:Nat} {s t:List UInt8} (hA:A<l.length) (h:bAt l A=34) (e:l.drop (A+1)=s.flatMap qbI++34 :: t) :
  qaR l A=if s.length≤256 then (⟨4,s,0,0,A,(s.flatMap qbI).length+2⟩,0) else (⟨0,[],0,0,A,0⟩,11):=by
 have hlen:(l.drop (A+1)).length=l.length-(A+1):=List.length_drop;rw[e,List.length_append,List.length_cons] at hlen;have hs:qaD l A=(4,A+((s.flatMap qbI).length+2)):=by
  unfold qaD;rw[h,if_neg (by decide),if_neg (by decide),if_pos rfl,e,qhR,Nat.min_eq_left (by omega)]
  congr 1
  omega
 have hp:qa2 l A (A+((s.flatMap qbI).length+2))=34 :: (s.flatMap qbI++[34]):=by
  unfold qa2;rw[qbZ hA,h,e,Nat.add_sub_cancel_left,List.take_succ_cons,List.take_append,List.take_of_length_le (by omega),
   show (s.flatMap qbI).length+1-(s.flatMap qbI).length=1 by omega]
  rfl
 have hu:qbX (34 :: (s.flatMap qbI++[34]))=if s.length≤256 then some s else none:=by
  unfold qbX;rw[List.drop_succ_cons,List.drop_zero,qyZ s _ (by simp;omega)]
 unfold qaR qcH;rw[hs];simp only[qcC,hp,hu];by_cases hl:s.length≤256
 ·simp[hl]
 ·simp[hl]
theorem qzR {l:List UInt8} {A:Nat} (hA:A<l.length) (h:bAt l A=34):qj8 (qaR l A) (qjI l A):=by
 obtain⟨h1,h2,h3⟩:=qnH (l.length+1) l (A+1) hA (by omega);by_cases hk:(qdJ (l.length+1) l (A+1)).2<l.length∧bAt l (qdJ (l.length+1) l (A+1)).2=34
 ·unfold qjI;generalize qdJ (l.length+1) l (A+1)=p at *
  obtain⟨s,k⟩:=p;simp only at *
  rw[qbZ hk.1,hk.2] at h3;have hlen:=congrArg List.length h3;simp only[List.length_drop,List.length_append,List.length_cons] at hlen;rw[q3L hA h h3];by_cases hl:s.length≤256
  ·rw[if_pos hl,if_pos ⟨hk.1,hk.2,hl⟩,show (s.flatMap qbI).length+2=k+1-A by omega];exact⟨rfl,fun _=>rfl⟩
  ·rw[if_neg hl,if_neg (fun h=>hl h.2.2)];exact⟨rfl,fun h=>by cases h⟩
 ·have hr:qjI l A=(qcY,11):=by
   unfold qjI;rw[if_neg (fun h=>hk ⟨h.1,h.2.1⟩)]
  have hE:(qaD l A).1=4:=by
   unfold qaD;rw[h,if_neg (by decide),if_neg (by decide),if_pos rfl]
  have hb:=qbJ l A (Nat.le_of_lt hA);have hAE:=hb.2.2.2 hE;have hu:qbX (qa2 l A (qaD l A).2)=none:=by
   cases hu:qbX (qa2 l A (qaD l A).2) with
   | none=>rfl
   | some s =>
    exfalso;unfold qbX at hu;cases ht:qu1 ((qa2 l A (qaD l A).2).length+1) ((qa2 l A (qaD l A).2).drop 1) with
    | none=>rw[ht] at hu;cases hu
    | some t =>
     have hd:=qoC _ _ _ ht;have hp:(qa2 l A (qaD l A).2).drop 1=(l.drop (A+1)).take ((qaD l A).2-(A+1)):=by
      unfold qa2;rw[List.drop_take,List.drop_drop,Nat.sub_sub]
     have e:l.drop (A+1)=t.flatMap qbI++34 :: (l.drop (A+1)).drop ((qaD l A).2-(A+1)):=by
      conv=>lhs;rw[← List.take_append_drop ((qaD l A).2-(A+1)) (l.drop (A+1)),← hp,hd,List.append_assoc]
      rfl
     have hlen:=congrArg List.length e;simp only[List.length_drop,List.length_append,List.length_cons] at hlen;have hon:=quQ t (l.length+1) l (A+1) _ hA (by omega) e;rw[hon] at hk;have hlt:A+1+(t.flatMap qbI).length<l.length:=by omega
     refine hk ⟨hlt,?_⟩;simp only;have:bAt (l.drop (A+1)) (t.flatMap qbI).length=34:=by
      rw[e];unfold bAt;simp
     rwa [qdP] at this
  rw[hr];have hf:qcH l (qaD l A).1 A (qaD l A).2=11:=by
   unfold qcH;rw[hE];simp[qcC,hu]
  unfold qaR;rw[if_pos (by rw[hf];decide),hf];exact⟨rfl,fun h=>by cases h⟩
set_option maxRecDepth 100000
theorem qlU:∀ (l:List UInt8) (acc:Nat),(∀ c ∈ l,48≤c.toNat∧c.toNat≤57)→acc≤18446744073709551615→18446744073709551615<qhL acc l→Lib.parseUintM 18446744073709551615 acc l=.range
 | [],acc,_,h,hv=>by
  have:qhL acc []=acc:=rfl;omega
 | c :: r,acc,hd,h,hv=>by
  have h1:=hd c (by simp);have h3:qhL acc (c :: r)=qhL (acc * 10+(c.toNat-48)) r:=rfl;rw[h3] at hv;unfold Lib.parseUintM;rw[if_pos h1];by_cases g1:1844674407370955162≤acc
  ·rw[if_pos g1]
  ·rw[if_neg g1];by_cases g2:18446744073709551615<acc * 10+(c.toNat-48)
   ·rw[if_pos g2]
   ·rw[if_neg g2];exact qlU r _ (fun x hx=>hd x (List.mem_cons_of_mem _ hx)) (by omega) hv
theorem qq7:qaK []=none:=rfl
theorem qgQ {D:List UInt8} (hd:∀ c ∈ D,48≤c.toNat∧c.toNat≤57) (hne:D≠[]) :
  qaK D=if 1<D.length∧bAt D 0=48 then none else Option.map (fun v:Nat=>(v:Int)) (qqO D):=by
 have hu:Lib.parseUintB 64 D=if qhL 0 D≤18446744073709551615 then .ok (qhL 0 D) else .range:=by
  unfold Lib.parseUintB;rw[if_neg hne];by_cases hv:qhL 0 D≤18446744073709551615
  ·rw[if_pos hv];exact qgW D 0 hd hv
  ·rw[if_neg hv];exact qlU D 0 hd (by omega) (by omega)
 obtain⟨c,r,hcr⟩:∃ c r,D=c :: r:=by
  cases D with
  | nil=>exact absurd rfl hne
  | cons c r=>exact⟨c,r,rfl⟩
 have hc:=hd c (by rw[hcr];simp);have hp:Lib.parseIntB 64 D=if qhL 0 D≤9223372036854775807 then .ok ((qhL 0 D:Nat):Int) else .range:=by
  generalize qhL 0 D=v at *
  rw[hcr] at hu ⊢;unfold Lib.parseIntB;simp only;rw[if_neg (by omega),hu];have hn:¬ (c.toNat=45):=by omega
  by_cases hv:v≤18446744073709551615
  ·rw[if_pos hv];simp only[hn,not_false_eq_true,true_and,false_and,if_false];by_cases hlt:v≤9223372036854775807
   ·rw[if_neg (by omega),if_pos hlt]
   ·rw[if_pos (by omega),if_neg hlt]
  ·rw[if_neg hv,if_neg (by omega)]
 unfold qaK qqO;rw[hp];by_cases hlt:qhL 0 D≤9223372036854775807
 ·rw[if_pos hlt,if_pos hlt];rfl
 ·rw[if_neg hlt,if_neg hlt];simp
theorem q21 (m x:Nat):(if (x:Int)=0 then none else if qaI (m:Int) (-(x:Int))=true then some (qaA m (-(x:Int))) else none)=qx7 m x true:=by
 unfold qx7 qaI;by_cases hx:x=0
 ·subst hx;simp
 ·rw[if_neg (by omega)];by_cases hm:m=0
  ·subst hm;simp[hx]
  ·rw[if_neg (show ¬ ((m:Int)=0) by omega)];by_cases hc:(m:Int) % 2=0∨9007199254740992≤(m:Int)∨-(x:Int) < -1074∨1023 < -(x:Int)
   ·rw[if_pos hc,if_neg (by simp),if_pos];rcases hc with h|h|h|h
    ·exact .inr (.inr (.inl ⟨by omega,hm⟩))
    ·exact .inl (by omega)
    ·exact .inr (.inl (by simp;omega))
    ·omega
   ·have hb:=qgI m (by omega) (by omega);have hl:=qm3 (m:=m) (by omega) (by omega);rw[if_neg hc,Int.toNat_natCast,hb,if_pos (by simp;omega),if_neg,if_pos rfl];rintro (h|h|h|h|h)
    ·omega
    ·simp at h;omega
    ·omega
    ·omega
    ·omega
theorem q8W (m x:Nat):(if qaI (m:Int) (x:Int)=true then some (qaA m (x:Int)) else none)=qx7 m x false:=by
 unfold qx7 qaI;by_cases hm:m=0
 ·subst hm;by_cases hx:x=0
  ·subst hx;simp
  ·simp[hx]
 ·rw[if_neg (show ¬ ((m:Int)=0) by omega)];by_cases hc:(m:Int) % 2=0∨9007199254740992≤(m:Int)∨(x:Int) < -1074∨1023<(x:Int)
  ·rw[if_pos hc,if_neg (by simp),if_pos];rcases hc with h|h|h|h
   ·exact .inr (.inr (.inl ⟨by omega,hm⟩))
   ·exact .inl (by omega)
   ·omega
   ·exact .inr (.inl (by simp;omega))
  ·have hb:=qgI m (by omega) (by omega);have hn:¬ (9007199254740992≤m∨(if (false=true) then 1074 else 1023)<x∨(m % 2=0∧m≠0)∨(m=0∧x≠0)∨(false=true∧x=0)):=by
    rintro (h|h|h|h|h)
    ·omega
    ·rw[if_neg (by decide)] at h;omega
    ·omega
    ·omega
    ·exact absurd h.1 (by decide)
   rw[if_neg hc,Int.toNat_natCast,hb];by_cases hf:(m.log2:Int)+1+x≤1024
   ·have hL:decide (((m.log2+1:Nat):Int)+(x:Int)≤1024)=true:=by rw[decide_eq_true_iff];omega
    rw[hL,if_pos rfl,if_neg hn,if_neg (by decide),if_pos (.inr hf)]
   ·have hL:decide (((m.log2+1:Nat):Int)+(x:Int)≤1024)=false:=by rw[decide_eq_false_iff_not];omega
    rw[hL,if_neg (by decide),if_neg hn,if_neg (by decide),if_neg (by rintro (h|h);exact hm h;exact hf h)]
theorem qlK {D1 D2:List UInt8} (h1:∀ c ∈ D1,48≤c.toNat∧c.toNat≤57):qcA (D1++112 :: 45 :: D2)=match qaK D1,qaK D2 with
  | some m,some e=>if e=0 then none else if qaI m (-e)=true then some (m,-e) else none
  | _,_=>none:=by
 unfold qcA;rw[qhH _ _ h1];simp only;have e0:bAt (45 :: D2) 0=45:=rfl;rw[if_pos e0,List.drop_one,List.tail_cons];simp only[if_pos e0];cases qaK D1 <;> cases qaK D2 <;> rfl
theorem qqN {D1 D2:List UInt8} (h1:∀ c ∈ D1,48≤c.toNat∧c.toNat≤57) (h2:bAt D2 0≠45):qcA (D1++112 :: D2)=match qaK D1,qaK D2 with
  | some m,some e=>if qaI m e=true then some (m,e) else none
  | _,_=>none:=by
 unfold qcA;rw[qhH _ _ h1];simp only[if_neg h2];cases qaK D1 <;> cases qaK D2 <;> rfl
theorem qz9 {l:List UInt8} {A E:Nat} (hs:qaD l A=(2,E)):qaR l A=if qaJ (bAt l E)=true then (⟨0,[],0,0,A,0⟩,12) else
  match qaK (qa2 l A E) with|some v=>(⟨2,[],v,0,A,E-A⟩,0)|none=>(⟨0,[],0,0,A,0⟩,12):=by
 unfold qaR qcH;rw[hs];simp only[qcC];cases hw:qaJ (bAt l E)
 ·cases qaK (qa2 l A E) <;> simp
 ·simp
theorem q3M {l:List UInt8} {A E:Nat} (hs:qaD l A=(3,E)):qaR l A=if qaJ (bAt l E)=true then (⟨0,[],0,0,A,0⟩,12) else
  match qcA (qa2 l A E) with|some (m,e)=>(⟨3,[],0,qaA m e,A,E-A⟩,0)|none=>(⟨0,[],0,0,A,0⟩,12):=by
 unfold qaR qcH;rw[hs];simp only[qcC];cases hw:qaJ (bAt l E)
 ·cases qcA (qa2 l A E) <;> simp
 ·simp
theorem qgL (t u:Tok):qj8 (t,12) (u,12):=⟨rfl,fun h=>by cases h⟩
theorem qzT {D1 D2:List UInt8} {A N M:Nat} {below:Bool} (h1:∀ c ∈ D1,48≤c.toNat∧c.toNat≤57) (h2:∀ c ∈ D2,48≤c.toNat∧c.toNat≤57) (n1:D1≠[]) (n2:D2≠[]) :
  qj8 (match qcA (D1++112 :: (if below=true then 45 :: D2 else D2)) with|some (m,e)=>(⟨3,[],0,qaA m e,A,N+M⟩,0)|none=>(⟨0,[],0,0,A,0⟩,12))
   (if (1<D1.length∧bAt D1 0=48)∨(1<D2.length∧bAt D2 0=48) then (qcY,12) else q01 A N M D1 D2 below):=by
 have hb2:bAt D2 0≠45:=by
  cases D2 with
  | nil=>exact absurd rfl n2
  | cons c r =>
   have:=h2 c (by simp);show c≠45;rintro rfl;have h45:(45:UInt8).toNat=45:=rfl;omega
 have w1:=qgQ h1 n1;have w2:=qgQ h2 n2;have hs:qcA (D1++112 :: (if below=true then 45 :: D2 else D2))=if (1<D1.length∧bAt D1 0=48)∨(1<D2.length∧bAt D2 0=48) then none else
   match qqO D1,qqO D2 with
   | some m,some x=>if below=true then (if (x:Int)=0 then none else if qaI (m:Int) (-(x:Int))=true then some ((m:Int),-(x:Int)) else none) else (if qaI (m:Int) (x:Int)=true then some ((m:Int),(x:Int)) else none)
   | _,_=>none:=by
  cases below
  ·rw[if_neg (by decide),qqN h1 hb2,w1,w2];by_cases g1:1<D1.length∧bAt D1 0=48
   ·rw[if_pos g1,if_pos (show (1<D1.length∧bAt D1 0=48)∨(1<D2.length∧bAt D2 0=48) from .inl g1)]
   ·rw[if_neg g1];by_cases g2:1<D2.length∧bAt D2 0=48
    ·rw[if_pos g2,if_pos (.inr g2)];cases (qqO D1) <;> rfl
    ·rw[if_neg g2,if_neg (by rintro (h|h);exact g1 h;exact g2 h)];cases qqO D1 <;> cases qqO D2 <;> simp
  ·rw[if_pos rfl,qlK h1,w1,w2];by_cases g1:1<D1.length∧bAt D1 0=48
   ·rw[if_pos g1,if_pos (show (1<D1.length∧bAt D1 0=48)∨(1<D2.length∧bAt D2 0=48) from .inl g1)]
   ·rw[if_neg g1];by_cases g2:1<D2.length∧bAt D2 0=48
    ·rw[if_pos g2,if_pos (.inr g2)];cases (qqO D1) <;> rfl
    ·rw[if_neg g2,if_neg (by rintro (h|h);exact g1 h;exact g2 h)];cases qqO D1 <;> cases qqO D2 <;> simp
 rw[hs];by_cases g:(1<D1.length∧bAt D1 0=48)∨(1<D2.length∧bAt D2 0=48)
 ·rw[if_pos g,if_pos g];exact qgL _ _
 ·rw[if_neg g,if_neg g];unfold q01;cases qqO D1 with
  | none=>exact qgL _ _
  | some m =>
   cases qqO D2 with
   | none=>exact qgL _ _
   | some x =>
    simp only;cases below
    ·rw[← q8W,if_neg (by decide)];by_cases ho:qaI (m:Int) (x:Int)=true
     ·rw[if_pos ho,if_pos ho];exact⟨rfl,fun _=>rfl⟩
     ·rw[if_neg ho,if_neg ho];exact qgL _ _
    ·rw[← q21,if_pos rfl];by_cases h0:(x:Int)=0
     ·rw[if_pos h0,if_pos h0];exact qgL _ _
     ·rw[if_neg h0,if_neg h0];by_cases ho:qaI (m:Int) (-(x:Int))=true
      ·rw[if_pos ho,if_pos ho];exact⟨rfl,fun _=>rfl⟩
      ·rw[if_neg ho,if_neg ho];exact qgL _ _
theorem qsM {l:List UInt8} {j:Nat}:((l.drop j).take (tw qa1 l j)).length=tw qa1 l j:=by
 have:=qwR qa1 l j;rw[List.length_take,List.length_drop];omega
theorem quI {l:List UInt8} {j k:Nat} (h:0<k):bAt ((l.drop j).take k) 0=bAt l j:=by
 rw[qw0,if_pos h,qdP,Nat.add_zero]
theorem q6G {l:List UInt8} {j:Nat} (h:0<tw qa1 l j):(l.drop j).take (tw qa1 l j)≠[]:=by
 intro e;have:=qsM (l:=l) (j:=j);rw[e] at this;simp at this;omega
theorem qzZ {l:List UInt8} {A N H T:Nat} {below:Bool} (hp:bAt l (A+N)=112) (hH:(below=true∧H=2∧bAt l (A+N+1)=45)∨(below=false∧H=1)) (hlen:A+N+H+T≤l.length) :
  qa2 l A (A+N+(H+T))=(l.drop A).take N++112 :: (if below=true then 45 :: (l.drop (A+N+H)).take T else (l.drop (A+N+H)).take T):=by
 unfold qa2;rw[show A+N+(H+T)-A=N+(H+T) by omega,List.take_add,List.drop_drop]
 congr 1
 rcases hH with ⟨rfl,rfl,h45⟩|⟨rfl,rfl⟩
 ·rw[qbZ (j:=A+N) (by omega),hp,show 2+T=(1+T)+1 by omega,List.take_succ_cons,qbZ (j:=A+N+1) (by omega),h45,Nat.add_comm 1 T,List.take_succ_cons,if_pos rfl]
 ·rw[qbZ (j:=A+N) (by omega),hp,Nat.add_comm 1 T,List.take_succ_cons,if_neg (by decide)]
theorem q3Z {l:List UInt8} {A:Nat} (hA:A<l.length) (hlet:qa8 (bAt l A)=false) (hd:qa1 (bAt l A)=true):qj8 (qaR l A) (qqQ l A):=by
 have hN1:=(qqC (p:=qa1) hd qg5).2;have hlen:=ja6 l A (Nat.le_of_lt hA);have hD1:=qqD l A;have hL1:=qsM (l:=l) (j:=A);have hH1:bAt ((l.drop A).take (tw qa1 l A)) 0=bAt l A:=quI (by omega);have hne1:=q6G (l:=l) (j:=A) (by omega);have hspan:qaD l A=qdT l (A+tw qa1 l A):=by
  unfold qaD;rw[if_neg (by simp[hlet]),if_pos hd,hN1,Nat.add_assoc]
 generalize hN:tw qa1 l A=N at *
 by_cases hp:bAt l (A+N)=112
 ·obtain⟨below,H,hH,hend,hnum⟩:∃ below H,((below=true∧H=2∧bAt l (A+N+1)=45)∨(below=false∧H=1)) ∧
    qxZ l (A+N)=(if tw qa1 l (A+N+H)=0 then (0,0) else (H+tw qa1 l (A+N+H),H))∧qdT l (A+N)=(3,A+N+H+tw qa1 l (A+N+H)):=by
   unfold qxZ qdT;have hnp:¬ (bAt l (A+N)≠112):=fun h=>h hp;rw[if_pos hp,if_neg hnp];by_cases h45:bAt l (A+N+1)=45
   ·exact⟨true,2,.inl ⟨rfl,rfl,h45⟩,by simp only[if_pos h45],by rw[if_pos h45]⟩
   ·exact⟨false,1,.inr ⟨rfl,rfl⟩,by simp only[if_neg h45],by rw[if_neg h45]⟩
  have hb:=qbJ l A (Nat.le_of_lt hA);rw[hspan,hnum] at hb;have hT:=hb.2.1;simp only at hT;rw[hnum,Nat.add_assoc] at hspan;rw[q3M hspan,qzZ hp hH hT];unfold qqQ;rw[hN,hend];have hL2:=qsM (l:=l) (j:=A+N+H);have hD2:=qqD l (A+N+H);by_cases h0:tw qa1 l (A+N+H)=0
  ·rw[if_pos h0];have hf:qiZ l (A+N+0)=true:=by
    unfold qiZ;rw[Nat.add_zero,hp];decide
   simp only;rw[hf,Bool.true_or,if_pos rfl];by_cases hw:qaJ (bAt l (A+N+(H+tw qa1 l (A+N+H))))=true
   ·rw[if_pos hw];exact qgL _ _
   ·rw[if_neg hw,h0,List.take_zero];have hs:qcA ((l.drop A).take N++112 :: (if below=true then [45] else []))=none:=by
     cases below
     ·rw[if_neg (by decide),qqN hD1 (by decide),qq7];cases qaK ((l.drop A).take N) <;> rfl
     ·rw[if_pos rfl,qlK hD1,qq7];cases qaK ((l.drop A).take N) <;> rfl
    rw[hs];exact qgL _ _
  ·rw[if_neg h0];have hne2:=q6G (l:=l) (j:=A+N+H) (by omega);have hH2:bAt ((l.drop (A+N+H)).take (tw qa1 l (A+N+H))) 0=bAt l (A+N+H):=quI (by omega);generalize tw qa1 l (A+N+H)=T at *
   simp only;unfold qiZ;by_cases hw:qaJ (bAt l (A+N+(H+T)))=true
   ·rw[if_pos hw,hw,Bool.true_or,if_pos rfl];exact qgL _ _
   ·have hwf:qaJ (bAt l (A+N+(H+T)))=false:=by simpa using hw
    have hbel:(H==2)=below:=by
     rcases hH with ⟨rfl,rfl,_⟩|⟨rfl,rfl⟩ <;> rfl
    rw[if_neg hw,hwf,Bool.false_or,if_pos (show 0<H+T by omega),show H+T-H=T by omega,hbel];have hnou:(qgF l A N (H+T) H=true) ↔ ((1<((l.drop A).take N).length∧bAt ((l.drop A).take N) 0=48)∨(1<((l.drop (A+N+H)).take T).length∧bAt ((l.drop (A+N+H)).take T) 0=48)):=by
     rw[hL1,hL2,hH1,hH2];unfold qgF;simp only[Bool.or_eq_true,Bool.and_eq_true,beq_iff_eq,decide_eq_true_eq];constructor
     ·rintro (⟨a,b⟩|⟨a,b⟩)
      ·exact .inl ⟨b,a⟩
      ·exact .inr ⟨by omega,b⟩
     ·rintro (⟨a,b⟩|⟨a,b⟩)
      ·exact .inl ⟨b,a⟩
      ·exact .inr ⟨by omega,b⟩
    have hsr:=qzT (A:=A) (N:=N) (M:=H+T) (below:=below) hD1 hD2 hne1 hne2;rw[show A+N+(H+T)-A=N+(H+T) by omega];by_cases hc:qgF l A N (H+T) H=true
    ·rw[if_pos hc];rw[if_pos (hnou.1 hc)] at hsr;exact hsr
    ·rw[if_neg hc];rw[if_neg (fun h=>hc (hnou.2 h))] at hsr;exact hsr
 ·have hend:qxZ l (A+N)=(0,0):=by unfold qxZ;rw[if_neg hp]
  have hnum:qdT l (A+N)=(2,A+N):=by unfold qdT;rw[if_pos hp]
  rw[hnum] at hspan;rw[qz9 hspan];unfold qqQ;rw[hN,hend];simp only[Nat.add_zero,Nat.lt_irrefl,if_false];have hpc:qa2 l A (A+N)=(l.drop A).take N:=by unfold qa2;rw[Nat.add_sub_cancel_left]
  unfold qiZ;by_cases hw:qaJ (bAt l (A+N))=true
  ·rw[if_pos hw,hw,Bool.true_or,if_pos rfl];exact qgL _ _
  ·have hwf:qaJ (bAt l (A+N))=false:=by simpa using hw
   have hnou:(qgF l A N 0 0=true) ↔ (1<((l.drop A).take N).length∧bAt ((l.drop A).take N) 0=48):=by
    rw[hL1,hH1];unfold qgF;simp only[Bool.or_eq_true,Bool.and_eq_true,beq_iff_eq,decide_eq_true_eq];constructor
    ·rintro (⟨a,b⟩|⟨a,b⟩)
     ·exact⟨b,a⟩
     ·omega
    ·rintro ⟨a,b⟩;exact .inl ⟨b,a⟩
   rw[if_neg hw,hwf,Bool.false_or,hpc,qgQ hD1 hne1,Nat.add_sub_cancel_left];by_cases hc:qgF l A N 0 0=true
   ·rw[if_pos hc,if_pos (hnou.1 hc)];exact qgL _ _
   ·rw[if_neg hc,if_neg (fun h=>hc (hnou.2 h))];cases qqO ((l.drop A).take N) with
    | none=>exact qgL _ _
    | some v=>exact⟨rfl,fun _=>rfl⟩
theorem quG {l:List UInt8} {A:Nat} (hA:A<l.length):qj8 (qaR l A) (qd1 l A):=by
 unfold qd1;by_cases h1:qa8 (bAt l A)=true
 ·rw[if_pos h1];exact qzU h1
 ·rw[if_neg h1];have h1':qa8 (bAt l A)=false:=by simpa using h1
  by_cases h2:qa1 (bAt l A)=true
  ·rw[if_pos h2];exact q3Z hA h1' h2
  ·rw[if_neg h2];have h2':qa1 (bAt l A)=false:=by simpa using h2
   by_cases h3:bAt l A=34
   ·rw[if_pos h3];exact qzR hA h3
   ·rw[if_neg h3];exact qzV hA h1' h2' h3
def qs8:Nat→List UInt8→Nat→List Tok × Nat × Nat
 | 0,_,_=>([],0,0)
 | f+1,l,i =>
  if l.length≤i+qb8 false (l.drop i) then ([],0,0)
  else if (qd1 l (i+qb8 false (l.drop i))).2≠0 then ([],i+qb8 false (l.drop i),(qd1 l (i+qb8 false (l.drop i))).2)
  else ((qd1 l (i+qb8 false (l.drop i))).1 :: (qs8 f l (i+qb8 false (l.drop i)+(qd1 l (i+qb8 false (l.drop i))).1.size)).1,
   (qs8 f l (i+qb8 false (l.drop i)+(qd1 l (i+qb8 false (l.drop i))).1.size)).2)
theorem q3N (l:List UInt8):qaR l l.length=(⟨0,[],0,0,l.length,0⟩,0):=by
 have hd:l.drop l.length=[]:=List.drop_length;have hs:qaD l l.length=(0,l.length):=by
  unfold qaD;rw[qfG (Nat.le_refl _),qjS,qg5,hd];rfl
 unfold qaR qcH;rw[hs];simp[qcC]
theorem quB {l:List UInt8} {A:Nat} (hA:A<l.length) (h:(qaR l A).2=0):(qaD l A).1≠0∧(qaR l A).1.at_=A∧(qaR l A).1.kind=(qaD l A).1∧(qaR l A).1.size=(qaD l A).2-A:=by
 rcases qdR l A (Nat.le_of_lt hA) with ⟨h1,_⟩|⟨_,h2,h3,h4⟩
 ·exact absurd h h1
 ·refine⟨fun h0=>?_,h2,h3,h4⟩;have hf:qcH l (qaD l A).1 A (qaD l A).2=10:=by
   rw[h0];unfold qcH;simp[qcC,hA]
  unfold qaR at h;rw[hf] at h;simp at h
def qmO (r:List Tok × Nat × Nat):List (Tok × Nat):=r.1.map (fun t=>(t,0))++(if r.2.2=0 then [] else [(⟨0,[],0,0,r.2.1,0⟩,r.2.2)])
theorem quH:∀ (f:Nat) (l:List UInt8) (i:Nat),i≤l.length→qjH f l i=qmO (qs8 f l i)
 | 0,l,i,_=>by unfold qjH qs8 qmO;rfl
 | f+1,l,i,hi=>by
  have hp:=qfZ l i hi;unfold qjH qs8 qbV;generalize i+qb8 false (l.drop i)=A at *
  by_cases hA:l.length≤A
  ·have e:A=l.length:=by omega
   subst e;rw[q3N,if_neg (by simp),if_pos rfl,if_pos (Nat.le_refl _)];rfl
  ·rw[if_neg hA];obtain⟨s1,s2⟩:=quG (l:=l) (A:=A) (by omega);by_cases he:(qaR l A).2=0
   ·obtain⟨k1,k2,k3,k4⟩:=quB (by omega) he;have hb:=qbJ l A (by omega);rw[if_neg (fun h=>h he),if_neg (by rw[k3];exact k1),if_neg (fun h=>h (by rw[← s1,he]))];have e:=s2 he;rw[← e,quH f l _ (by rw[k2,k4];omega),k2];unfold qmO;simp only[List.map_cons,List.cons_append]
    congr 1
    exact Prod.ext rfl he
   ·rw[if_pos he,if_pos (fun h=>he (by rw[s1,h]))];rcases qdR l A (by omega) with ⟨_,h2⟩|⟨h2,_⟩
    ·unfold qmO;simp only[List.map_nil,List.nil_append];rw[if_neg (by rw[← s1];exact he)]
     congr 1
     exact Prod.ext h2 s1
    ·exact absurd h2 he
def qdF (l:List UInt8):List Tok × Nat × Nat:=if 32768<l.length then ([],0,3) else qs8 (l.length+1) l 0
theorem qiJ (l:List UInt8):qfH l=qmO (qdF l):=by
 unfold qfH qdF;by_cases h:32768<l.length
 ·rw[if_pos h,if_pos h];rfl
 ·rw[if_neg h,if_neg h];exact quH _ l 0 (Nat.zero_le _)
def q9W (f:Nat) (l:List UInt8) (P:Nat):List Tok × Nat × Nat :=
 if l.length≤P then ([],0,0)
 else if (qd1 l P).2≠0 then ([],P,(qd1 l P).2)
 else ((qd1 l P).1 :: (qs8 f l (P+(qd1 l P).1.size)).1,(qs8 f l (P+(qd1 l P).1.size)).2)
theorem qzP (f:Nat) (l:List UInt8) (i:Nat):qs8 (f+1) l i=q9W f l (i+qb8 false (l.drop i)):=rfl
def RAt (l:List UInt8) (done:List Tok) (i:Nat) (c:Bool):Prop :=
 i≤l.length∧∃ f,l.length≤f+i∧qs8 (l.length+1) l 0=(done++(q9W f l (i+qb8 c (l.drop i))).1,(q9W f l (i+qb8 c (l.drop i))).2)
theorem qsN {l:List UInt8} {i:Nat} (hi:i<l.length) (he:(qd1 l i).2=0):0<(qd1 l i).1.size∧i+(qd1 l i).1.size≤l.length∧(qd1 l i).1.at_=i∧(qd1 l i).1.kind≤5∧0<(qd1 l i).1.kind:=by
 obtain⟨s1,s2⟩:=quG hi;have he':(qaR l i).2=0:=by rw[s1,he]
 obtain⟨k1,k2,k3,k4⟩:=quB hi he';have hp:=qlJ (Nat.le_of_lt hi) k1;have hb:=qbJ l i (Nat.le_of_lt hi);rw[← s2 he',k2,k3,k4];omega
theorem quE {l:List UInt8}:∀ (f:Nat) (i:Nat),i≤l.length→(qs8 f l i).1.length+i≤l.length
 | 0,i,h=>by unfold qs8;simpa using h
 | f+1,i,h=>by
  rw[qzP];obtain⟨P,hP⟩:∃ P,P=i+qb8 false (l.drop i):=⟨_,rfl⟩
  rw[← hP];unfold q9W;by_cases h1:l.length≤P
  ·rw[if_pos h1];simpa using h
  ·rw[if_neg h1];by_cases h2:(qd1 l P).2≠0
   ·rw[if_pos h2];simpa using h
   ·rw[if_neg h2];obtain⟨z1,z2,_⟩:=qsN (l:=l) (i:=P) (by omega) (Classical.not_not.1 h2);have:=quE f (P+(qd1 l P).1.size) z2;simp only[List.length_cons];omega
def qpH (xs:List Tok):List Value:=xs.flatMap qbG
def RScan (l:List UInt8) (w:World) (e:Ending) (w':World):Prop :=
 Below w.heap.size w w'∧∃ v,e=.returned (.tuple #[v,.int .i64 (qdF l).2.1,.int .i64 (qdF l).2.2])∧w'.ownsRow w.heap.size 59 6 v (qdF l).1.length (qpH (qdF l).1)
open Go.Shelf
theorem qrW:∀ (xs:List Tok) (k j:Nat) (x:Tok),xs[k]?=some x→j<6→(qpH xs)[k * 6+j]?=(qbG x)[j]?
 | [],k,j,x,h,_=>by simp at h
 | y :: ys,0,j,x,h,hj=>by
  simp at h;subst h;have:(qbG y).length=6:=rfl;unfold qpH;rw[List.flatMap_cons,List.getElem?_append_left (by omega)];simp
 | y :: ys,k+1,j,x,h,hj=>by
  have hl:(qbG y).length=6:=rfl;have:=qrW ys k j x (by simpa using h) hj;unfold qpH at this ⊢;rw[List.flatMap_cons,List.getElem?_append_right (by omega),hl];rw[show (k+1) * 6+j-6=k * 6+j by omega];exact this
theorem q58 {w:World} {base N:Nat} {e:TypeId} {v:Value} {xs:List Tok} (hN:xs.length=N) (h:w.ownsRow base e 6 v N (qpH xs)) (h0:0<N):∃ g c,v=.slice (some ⟨g,0,none⟩) N c∧base≤g∧g<w.heap.size∧∀ (k j:Nat) x u,xs[k]?=some x→(qbG x)[j]?=some u→w.cell? ⟨g,k * 6+j,none⟩=some u:=by
 rcases h.2 with ⟨he,h0'⟩|⟨g,cap,cur,he,hb,hgg,_⟩
 ·omega
 ·subst he;refine⟨g,cap,rfl,hb,lt_of_block hgg,fun k j x u hx hu=>?_⟩;obtain⟨hk,_⟩:=List.getElem?_eq_some_iff.1 hx;have hj:j<6:=by obtain⟨hj,_⟩:=List.getElem?_eq_some_iff.1 hu;exact hj
  rw[h.cellAt (k * 6+j) (by omega),qrW xs k j x hx hj];exact hu
end Go.Proofs.YtenlhcgpajphhaaGreatDoor
