import Derived.Test.YtenlhcgpajphhaaGreatDoorMNextPlain
import Derived.Test.YtenlhcgpajphhaaGreatDoorMWhole
import Derived.Laws.FloatArith
import Derived.Lib.ItoaNum
namespace Go.Proofs.YtenlhcgpajphhaaGreatDoor
open Go.RowKit
set_option linter.all false
theorem qxK (m s:Nat) (h:0<m):(m * 2 ^ s).log2=m.log2+s:=by
 obtain⟨h1,h2⟩:=qhY h;have hp:0<2 ^ s:=Nat.two_pow_pos s;have hne:m * 2 ^ s≠0:=Nat.ne_of_gt (Nat.mul_pos h hp);have g1:=(Nat.le_log2 hne).2 (show 2 ^ (m.log2+s)≤m * 2 ^ s by rw[Nat.pow_add];exact Nat.mul_le_mul_right _ h1);have g2:=(Nat.log2_lt hne).2 (show m * 2 ^ s<2 ^ (m.log2+1+s) by rw[Nat.pow_add];exact Nat.mul_lt_mul_of_pos_right h2 hp);omega
def qe4 (m:Nat) (e:Int):Int:=max (e+(m.log2:Int)-52) (-1074)
theorem qp9 {m:Nat} {e:Int} (h:0<m) (h2:m<9007199254740992) (he:-1074≤e):qe4 m e≤e∧-1074≤qe4 m e:=by
 have:=qm3 h h2;unfold qe4;omega
theorem qiR (m s:Nat) (e:Int) (h:0<m) (h2:m<9007199254740992) (he:-1074≤e) :
  Ieee.double.nearest false (m * 2 ^ s) (e-s)=min ((qe4 m e+1074).toNat * 4503599627370496+m * 2 ^ (e-qe4 m e).toNat) 9218868437227405312:=by
 obtain⟨l1,l2⟩:=qp9 h h2 he;refine qhD (m * 2 ^ s) (e-s) (qe4 m e) _ (Nat.mul_pos h (Nat.two_pow_pos s)) ?_ ?_
 ·rw[qxK m s h];unfold qe4;congr 1;omega
 ·rw[Nat.mul_assoc,Nat.mul_assoc,← Nat.pow_add,← Nat.pow_add]
  congr 2
  omega
theorem q04 (m:Nat) (e:Int) (h:0<m) (h2:m<9007199254740992) (he:-1074≤e) (hf:(m.log2:Int)+1+e≤1024) :
  qaA m e<9218868437227405312∧∃ s:Nat,m * 2 ^ s<9007199254740992∧Ieee.double.read (qaA m e)=.number false (m * 2 ^ s) (e-s):=by
 obtain⟨l1,l2⟩:=qp9 h h2 he;have h0:=qiR m 0 e h h2 he;rw[Nat.pow_zero,Nat.mul_one,show e-((0:Nat):Int)=e by omega] at h0;have hk2:=qm3 h h2;obtain⟨b1,b2⟩:=qd8 h rfl hk2;have hre:qaA m e=Ieee.double.nearest false m e:=by unfold qaA;rw[Int.toNat_natCast]
 obtain⟨K,hK⟩:∃ K,K=m * 2 ^ (e-qe4 m e).toNat:=⟨_,rfl⟩
 obtain⟨L,hL⟩:∃ L:Nat,(L:Int)=qe4 m e+1074:=⟨(qe4 m e+1074).toNat,by omega⟩
 have hKlt:K<9007199254740992:=by
  refine Nat.lt_of_le_of_lt ?_ b2;rw[hK];exact Nat.mul_le_mul_left _ (Nat.pow_le_pow_right (by omega) (by unfold qe4;omega))
 have hL2:L≤2045:=by unfold qe4 at hL;omega
 rw[← hre,← hK,show (qe4 m e+1074).toNat=L by omega] at h0;rw[h0,Nat.min_eq_left (by omega)];refine⟨by omega,(e-qe4 m e).toNat,by rw[← hK];exact hKlt,?_⟩;rw[← hK,show e-(((e-qe4 m e).toNat:Nat):Int)=qe4 m e by omega];rcases Nat.lt_or_ge K 4503599627370496 with hs|hs
 ·have hL0:L=0:=by
   rcases Nat.eq_zero_or_pos L with h'|h'
   ·exact h'
   ·exfalso;have:qe4 m e=e+(m.log2:Int)-52:=by unfold qe4 at hL ⊢;omega
    rw[this,show (e-(e+(m.log2:Int)-52)).toNat=52-m.log2 by omega] at hK;omega
  rw[hL0] at hL ⊢;unfold Ieee.Format.read;rw[dS,dB,dI,dL];have e1:(0 * 4503599627370496+K) / 9223372036854775808 % 2=0:=by omega
  have e2:(0 * 4503599627370496+K) % 9223372036854775808=K:=by omega
  simp only[e1,e2];rw[if_pos hs];rw[show qe4 m e=-1074 by omega];rfl
 ·have e1:L * 4503599627370496+K=(L+1) * 4503599627370496+(K-4503599627370496):=by omega
  rw[e1,qdH (L+1) (K-4503599627370496) (by omega) (by omega) (by omega),show 4503599627370496+(K-4503599627370496)=K by omega,show (-1074+((L+1-1:Nat):Int))=qe4 m e by omega]
theorem qzY:qaA 0 0=0:=by decide
theorem qnR {n:Nat} (h:¬ n<10):Lib.decDigits n=Lib.decDigits (n / 10)++[UInt8.ofNat (48+n % 10)]:=by rw[Lib.decDigits,dif_neg h]
theorem qrX (n:Nat):Lib.decDigits n≠[]:=by
 by_cases h:n<10
 ·rw[Lib.decDigits_one h];simp
 ·rw[qnR h];simp
theorem qfE {d:Nat} (h:d<10):(UInt8.ofNat (48+d)).toNat=48+d:=by
 rw[UInt8.toNat_ofNat'];omega
theorem qj4:∀ (n:Nat),∀ c ∈ Lib.decDigits n,48≤c.toNat∧c.toNat≤57:=by
 intro n
 induction n using Nat.strongRecOn with
 | _ n ih =>
  intro c hc;by_cases h:n<10
  ·rw[Lib.decDigits_one h] at hc;rw[List.mem_singleton] at hc;subst hc;rw[qfE h];omega
  ·rw[qnR h] at hc;rcases List.mem_append.1 hc with hc|hc
   ·exact ih (n / 10) (by omega) c hc
   ·rw[List.mem_singleton] at hc;subst hc;rw[qfE (Nat.mod_lt _ (by omega))];omega
theorem q97:∀ (n:Nat),0<n→bAt (Lib.decDigits n) 0≠48:=by
 intro n
 induction n using Nat.strongRecOn with
 | _ n ih =>
  intro h0;by_cases h:n<10
  ·rw[Lib.decDigits_one h];show UInt8.ofNat (48+n)≠48;intro e;have:=congrArg UInt8.toNat e;rw[qfE h] at this;have e48:(48:UInt8).toNat=48:=rfl;omega
  ·rw[qnR h];have:=ih (n / 10) (by omega) (by omega);unfold bAt at this ⊢;rw[List.getElem?_append_left (List.length_pos_iff.2 (qrX _))];exact this
def qhL (acc:Nat) (l:List UInt8):Nat:=l.foldl (fun a c=>a * 10+(c.toNat-48)) acc
theorem q73:∀ (n:Nat),qhL 0 (Lib.decDigits n)=n:=by
 intro n
 induction n using Nat.strongRecOn with
 | _ n ih =>
  by_cases h:n<10
  ·rw[Lib.decDigits_one h];show 0 * 10+((UInt8.ofNat (48+n)).toNat-48)=n;rw[qfE h];omega
  ·rw[qnR h];unfold qhL at ih ⊢;rw[List.foldl_append,ih (n / 10) (by omega)];show n / 10 * 10+((UInt8.ofNat (48+n % 10)).toNat-48)=n;rw[qfE (Nat.mod_lt _ (by omega))];omega
theorem qsD:∀ (l:List UInt8) (acc:Nat),acc≤qhL acc l
 | [],acc=>Nat.le_refl _
 | c :: r,acc=>by
  have:=qsD r (acc * 10+(c.toNat-48));unfold qhL at this ⊢;rw[List.foldl_cons];omega
theorem qgW:∀ (l:List UInt8) (acc:Nat),(∀ c ∈ l,48≤c.toNat∧c.toNat≤57)→qhL acc l≤18446744073709551615→Lib.parseUintM 18446744073709551615 acc l=.ok (qhL acc l)
 | [],acc,_,_=>rfl
 | c :: r,acc,hd,hv=>by
  have h1:=hd c (by simp);have h2:=qsD r (acc * 10+(c.toNat-48));have h3:qhL acc (c :: r)=qhL (acc * 10+(c.toNat-48)) r:=rfl;rw[h3] at hv;unfold Lib.parseUintM;rw[if_pos h1,if_neg (by omega),if_neg (by omega),qgW r _ (fun x hx=>hd x (List.mem_cons_of_mem _ hx)) hv,h3]
theorem qkN (n:Nat) (h:n<18446744073709551616):qaK (Lib.decDigits n)=if n<9223372036854775808 then some (n:Int) else none:=by
 have hu:Lib.parseUintB 64 (Lib.decDigits n)=.ok n:=by
  unfold Lib.parseUintB;rw[if_neg (qrX n)];have:=qgW (Lib.decDigits n) 0 (qj4 n) (by rw[q73];omega);rw[q73] at this;exact this
 obtain⟨c,r,hcr⟩:∃ c r,Lib.decDigits n=c :: r:=by
  cases hx:Lib.decDigits n with
  | nil=>exact absurd hx (qrX n)
  | cons c r=>exact⟨c,r,rfl⟩
 have hc:=qj4 n c (by rw[hcr];simp);have hp:Lib.parseIntB 64 (Lib.decDigits n)=if n<9223372036854775808 then .ok (n:Int) else .range:=by
  rw[hcr] at hu ⊢;unfold Lib.parseIntB;simp only;rw[if_neg (by omega),hu];simp only;have hn:¬ (c.toNat=45):=by omega
  simp only[hn,not_false_eq_true,true_and,false_and,if_false];by_cases hlt:n<9223372036854775808
  ·rw[if_neg (by omega),if_pos hlt]
  ·rw[if_pos (by omega),if_neg hlt]
 unfold qaK;rw[hp];by_cases hlt:n<9223372036854775808
 ·rw[if_pos hlt,if_pos hlt];simp only;rw[if_neg];rintro ⟨h1,h2⟩;by_cases h10:n<10
  ·rw[Lib.decDigits_one h10] at h1;simp at h1
  ·exact q97 n (by omega) h2
 ·rw[if_neg hlt,if_neg hlt]
theorem qkC:∀ (l t:List UInt8),(∀ c ∈ l,48≤c.toNat∧c.toNat≤57)→Lib.indexByte (l++112 :: t) 112=l.length
 | [],t,_=>rfl
 | c :: r,t,h=>by
  have hc:=h c (by simp);have hne:(c==112)=false:=by
   rw[beq_eq_false_iff_ne];rintro rfl;have:(112:UInt8).toNat=112:=rfl;omega
  rw[List.cons_append];unfold Lib.indexByte;rw[qkC r t (fun x hx=>h x (List.mem_cons_of_mem _ hx)),hne];simp only[Bool.false_eq_true,if_false];rw[if_neg (by simp)];simp
theorem qhH (l t:List UInt8) (h:∀ c ∈ l,48≤c.toNat∧c.toNat≤57):qcJ (l++112 :: t)=(l,t):=by
 unfold qcJ;rw[qkC l t h,if_pos (by omega),Int.toNat_natCast];simp
def q39 (x:Int):List UInt8:=if x<0 then 45 :: Lib.decDigits (-x).toNat else Lib.decDigits x.toNat
def qfX (m:Nat) (x:Int):List UInt8:=Lib.decDigits m++112 :: q39 x
theorem qvS (n:Nat):bAt (Lib.decDigits n) 0≠45:=by
 obtain⟨c,r,hcr⟩:∃ c r,Lib.decDigits n=c :: r:=by
  cases hx:Lib.decDigits n with
  | nil=>exact absurd hx (qrX n)
  | cons c r=>exact⟨c,r,rfl⟩
 have hc:=qj4 n c (by rw[hcr];simp);rw[hcr];show c≠45;rintro rfl;have:(45:UInt8).toNat=45:=rfl;omega
theorem qzQ (m:Nat) (x:Int) (hm:m<18446744073709551616) (hx:-9223372036854775808≤x) (hx2:x≤9223372036854775807) :
  qcA (qfX m x)=if m<9223372036854775808∧-9223372036854775808<x∧qaI m x=true then some ((m:Int),x) else none:=by
 unfold qfX qcA;rw[qhH _ _ (qj4 m),qkN m hm];simp only;unfold q39;by_cases h0:x<0
 ·rw[if_pos h0];have e0:bAt (45 :: Lib.decDigits (-x).toNat) 0=45:=rfl;rw[if_pos e0,List.drop_one,List.tail_cons,qkN _ (by omega)];by_cases h1:m<9223372036854775808
  ·rw[if_pos h1];by_cases h2:-9223372036854775808<x
   ·rw[if_pos (by omega)];simp only;rw[if_pos e0,if_neg (by omega),show -(((-x).toNat:Nat):Int)=x by omega];by_cases h3:qaI m x=true
    ·rw[if_pos h3,if_pos ⟨h1,h2,h3⟩]
    ·rw[if_neg h3,if_neg (fun h=>h3 h.2.2)]
   ·rw[if_neg (by omega),if_neg (fun h=>h2 h.2.1)]
  ·rw[if_neg h1,if_neg (show ¬ (m<9223372036854775808∧-9223372036854775808<x∧qaI m x=true) from fun h=>h1 h.1)]
 ·rw[if_neg h0];have e0:=qvS x.toNat;rw[if_neg e0,qkN _ (by omega),if_pos (show x.toNat<9223372036854775808 by omega)];by_cases h1:m<9223372036854775808
  ·rw[if_pos h1];simp only;rw[if_neg e0,show ((x.toNat:Nat):Int)=x by omega];by_cases h3:qaI m x=true
   ·rw[if_pos h3,if_pos ⟨h1,by omega,h3⟩]
   ·rw[if_neg h3,if_neg (fun h=>h3 h.2.2)]
  ·rw[if_neg h1,if_neg (show ¬ (m<9223372036854775808∧-9223372036854775808<x∧qaI m x=true) from fun h=>h1 h.1)]
theorem q74:∀ (k n:Nat),n<10 ^ (k+1)→(Lib.decDigits n).length≤k+1
 | 0,n,h=>by rw[Lib.decDigits_one (by simpa using h)];simp
 | k+1,n,h=>by
  by_cases h10:n<10
  ·rw[Lib.decDigits_one h10];simp
  ·rw[qnR h10,List.length_append];have:=q74 k (n / 10) (by rw[Nat.pow_succ] at h;omega);simp;omega
theorem qj3 (n:Nat) (h:n<18446744073709551616):(Lib.decDigits n).length≤20:=q74 19 n (by omega)
theorem qj2 {n:Nat}:∀ c ∈ Lib.decDigits n,qa1 c=true:=fun c hc=>by have:=qj4 n c hc;simpa [qa1] using this
theorem q2A:qa1 112=false:=by decide
end Go.Proofs.YtenlhcgpajphhaaGreatDoor
