import Derived.Test.YtkpboalccpancaaGreatDoorMNextPlain
import Derived.Test.YtkpboalccpancaaGreatDoorMWhole
import Derived.Laws.FloatArith
import Derived.Lib.ItoaNum
namespace Go.Proofs.YtkpboalccpancaaGreatDoor
open Go.RowKit
set_option linter.all false
theorem log2_scale (m s:Nat) (h:0<m):(m * 2 ^ s).log2=m.log2+s:=by
 obtain⟨h1,h2⟩:=log2_bounds h;have hp:0<2 ^ s:=Nat.two_pow_pos s;have hne:m * 2 ^ s≠0:=Nat.ne_of_gt (Nat.mul_pos h hp);have g1:=(Nat.le_log2 hne).2 (show 2 ^ (m.log2+s)≤m * 2 ^ s by rw[Nat.pow_add];exact Nat.mul_le_mul_right _ h1);have g2:=(Nat.log2_lt hne).2 (show m * 2 ^ s<2 ^ (m.log2+1+s) by rw[Nat.pow_add];exact Nat.mul_lt_mul_of_pos_right h2 hp);omega
def lastP (m:Nat) (e:Int):Int:=max (e+(m.log2:Int)-52) (-1074)
theorem lastP_le {m:Nat} {e:Int} (h:0<m) (h2:m<9007199254740992) (he:-1074≤e):lastP m e≤e∧-1074≤lastP m e:=by
 have:=log2_le h h2;unfold lastP;omega
theorem nearest_scale (m s:Nat) (e:Int) (h:0<m) (h2:m<9007199254740992) (he:-1074≤e) :
  Ieee.double.nearest false (m * 2 ^ s) (e-s)=min ((lastP m e+1074).toNat * 4503599627370496+m * 2 ^ (e-lastP m e).toNat) 9218868437227405312:=by
 obtain⟨l1,l2⟩:=lastP_le h h2 he;refine nearest_of (m * 2 ^ s) (e-s) (lastP m e) _ (Nat.mul_pos h (Nat.two_pow_pos s)) ?_ ?_
 ·rw[log2_scale m s h];unfold lastP;congr 1;omega
 ·rw[Nat.mul_assoc,Nat.mul_assoc,← Nat.pow_add,← Nat.pow_add]
  congr 2
  omega
theorem real_scale (m s:Nat) (e:Int) (h:0<m) (h2:m<9007199254740992) (he:-1074≤e):Ieee.double.nearest false (m * 2 ^ s) (e-s)=realBits m e:=by
 have h0:=nearest_scale m 0 e h h2 he;rw[Nat.pow_zero,Nat.mul_one,show e-((0:Nat):Int)=e by omega] at h0;unfold realBits;rw[Int.toNat_natCast,h0,nearest_scale m s e h h2 he]
theorem read_real (m:Nat) (e:Int) (h:0<m) (h2:m<9007199254740992) (he:-1074≤e) (hf:(m.log2:Int)+1+e≤1024) :
  realBits m e<9218868437227405312∧∃ s:Nat,m * 2 ^ s<9007199254740992∧Ieee.double.read (realBits m e)=.number false (m * 2 ^ s) (e-s):=by
 obtain⟨l1,l2⟩:=lastP_le h h2 he;have h0:=nearest_scale m 0 e h h2 he;rw[Nat.pow_zero,Nat.mul_one,show e-((0:Nat):Int)=e by omega] at h0;have hk2:=log2_le h h2;obtain⟨b1,b2⟩:=scaled_bounds h rfl hk2;have hre:realBits m e=Ieee.double.nearest false m e:=by unfold realBits;rw[Int.toNat_natCast]
 obtain⟨K,hK⟩:∃ K,K=m * 2 ^ (e-lastP m e).toNat:=⟨_,rfl⟩
 obtain⟨L,hL⟩:∃ L:Nat,(L:Int)=lastP m e+1074:=⟨(lastP m e+1074).toNat,by omega⟩
 have hKlt:K<9007199254740992:=by
  refine Nat.lt_of_le_of_lt ?_ b2;rw[hK];exact Nat.mul_le_mul_left _ (Nat.pow_le_pow_right (by omega) (by unfold lastP;omega))
 have hL2:L≤2045:=by unfold lastP at hL;omega
 rw[← hre,← hK,show (lastP m e+1074).toNat=L by omega] at h0;rw[h0,Nat.min_eq_left (by omega)];refine⟨by omega,(e-lastP m e).toNat,by rw[← hK];exact hKlt,?_⟩;rw[← hK,show e-(((e-lastP m e).toNat:Nat):Int)=lastP m e by omega];rcases Nat.lt_or_ge K 4503599627370496 with hs|hs
 ·have hL0:L=0:=by
   rcases Nat.eq_zero_or_pos L with h'|h'
   ·exact h'
   ·exfalso;have:lastP m e=e+(m.log2:Int)-52:=by unfold lastP at hL ⊢;omega
    rw[this,show (e-(e+(m.log2:Int)-52)).toNat=52-m.log2 by omega] at hK;omega
  rw[hL0] at hL ⊢;unfold Ieee.Format.read;rw[dS,dB,dI,dL];have e1:(0 * 4503599627370496+K) / 9223372036854775808 % 2=0:=by omega
  have e2:(0 * 4503599627370496+K) % 9223372036854775808=K:=by omega
  simp only[e1,e2];rw[if_pos hs];rw[show lastP m e=-1074 by omega];rfl
 ·have e1:L * 4503599627370496+K=(L+1) * 4503599627370496+(K-4503599627370496):=by omega
  rw[e1,read_norm (L+1) (K-4503599627370496) (by omega) (by omega) (by omega),show 4503599627370496+(K-4503599627370496)=K by omega,show (-1074+((L+1-1:Nat):Int))=lastP m e by omega]
theorem read_two:Ieee.double.read 4611686018427387904=.number false 4503599627370496 (-51):=by
 have e:=read_norm 1024 0 (by omega) (by omega) (by omega);rw[show 1024 * 4503599627370496+0=4611686018427387904 from by decide] at e;rw[e];rfl
theorem p52:(4503599627370496:Nat)=2 ^ 52:=by decide
theorem times_two (m:Nat) (e:Int) (h:0<m) (h2:m<9007199254740992) (he:-1074≤e) (hf:(m.log2:Int)+1+e≤1024) :
  Go.floatBits .mul .f64 (realBits m e) 4611686018427387904=some (realBits m (e+1)):=by
 obtain⟨_,s,hs,hr⟩:=read_real m e h h2 he hf;show Ieee.Format.mul Ieee.double _ _=_;unfold Ieee.Format.mul;rw[hr,read_two];show some (Ieee.double.nearest (false ^^ false) (m * 2 ^ s * 4503599627370496) (e-s+(-51)))=_;rw[p52,Nat.mul_assoc,← Nat.pow_add,show e-(s:Int)+(-51)=(e+1)-((s+52:Nat):Int) by omega];exact congrArg some (real_scale m (s+52) (e+1) h h2 (by omega))
theorem half (m:Nat) (e:Int) (h:0<m) (h2:m<9007199254740992) (he:-1073≤e) (hf:(m.log2:Int)+1+e≤1024) :
  Go.floatBits .quo .f64 (realBits m e) 4611686018427387904=some (realBits m (e-1)):=by
 obtain⟨_,s,hs,hr⟩:=read_real m e h h2 (by omega) hf;show Ieee.Format.div Ieee.double _ _=_;unfold Ieee.Format.div;rw[hr,read_two];have hms:0<m * 2 ^ s:=Nat.mul_pos h (Nat.two_pow_pos s);have hlog:=log2_le hms hs;obtain⟨more,hmore⟩:∃ more,54+52-(m * 2 ^ s).log2=more+52:=⟨54-(m * 2 ^ s).log2,by omega⟩
 have hq:Ieee.Datum.quotient (Ieee.double.fractionBits+2) (.number false (m * 2 ^ s) (e-s)) (.number false 4503599627370496 (-51))=some (.number false (m * 2 ^ (s+more+1)) (e-1-((s+more+1:Nat):Int))):=by
  have e1:Ieee.double.fractionBits+2+Nat.log2 4503599627370496-(m * 2 ^ s).log2=more+52:=by
   have:Ieee.double.fractionBits+2+Nat.log2 4503599627370496=54+52:=by decide
   rw[this,hmore]
  show (if (4503599627370496:Nat)=0 then (if m * 2 ^ s=0 then none else some (Ieee.Datum.infinity (false ^^ false))) else some (Ieee.Datum.number (false ^^ false) (2 * ((m * 2 ^ s) <<< (Ieee.double.fractionBits+2+Nat.log2 4503599627370496-(m * 2 ^ s).log2) / 4503599627370496)+((m * 2 ^ s) <<< (Ieee.double.fractionBits+2+Nat.log2 4503599627370496-(m * 2 ^ s).log2) % 4503599627370496 != 0).toNat) (e-s-(-51)-((Ieee.double.fractionBits+2+Nat.log2 4503599627370496-(m * 2 ^ s).log2:Nat):Int)-1)))=_;rw[if_neg (by decide),e1,Nat.shiftLeft_eq];have e2:m * 2 ^ s * 2 ^ (more+52)=m * 2 ^ (s+more) * 4503599627370496:=by
   rw[p52,Nat.mul_assoc,Nat.mul_assoc,← Nat.pow_add,← Nat.pow_add,Nat.add_assoc]
  rw[e2,Nat.mul_div_cancel _ (by decide),Nat.mul_mod_left];have e3:2 * (m * 2 ^ (s+more))+((0:Nat) != 0).toNat=m * 2 ^ (s+more+1):=by
   rw[Nat.pow_succ,show ((0:Nat) != 0).toNat=0 from rfl,Nat.add_zero,Nat.mul_comm 2,Nat.mul_assoc]
  have e4:e-(s:Int)-(-51)-((more+52:Nat):Int)-1=e-1-((s+more+1:Nat):Int):=by omega
  rw[e3,e4,show (false ^^ false)=false from rfl]
 rw[hq];exact congrArg some (real_scale m (s+more+1) (e-1) h h2 (by omega))
theorem of_int (m:Nat):Go.floatOfInt .f64 (m:Int)=realBits m 0:=by
 show Ieee.double.nearest (decide ((m:Int)<0)) (m:Int).natAbs 0=_;unfold realBits;rw[decide_eq_false (by omega),Int.natAbs_natCast,Int.toNat_natCast]
def valD (acc:Nat) (l:List UInt8):Nat:=l.foldl (fun a c=>a * 10+(c.toNat-48)) acc
theorem valD_le:∀ (l:List UInt8) (acc:Nat),acc≤valD acc l
 | [],acc=>Nat.le_refl _
 | c :: r,acc=>by
  have:=valD_le r (acc * 10+(c.toNat-48));unfold valD at this ⊢;rw[List.foldl_cons];omega
theorem parse_digits:∀ (l:List UInt8) (acc:Nat),(∀ c ∈ l,48≤c.toNat∧c.toNat≤57)→valD acc l≤18446744073709551615→Lib.parseUintM 18446744073709551615 acc l=.ok (valD acc l)
 | [],acc,_,_=>rfl
 | c :: r,acc,hd,hv=>by
  have h1:=hd c (by simp);have h2:=valD_le r (acc * 10+(c.toNat-48));have h3:valD acc (c :: r)=valD (acc * 10+(c.toNat-48)) r:=rfl;rw[h3] at hv;unfold Lib.parseUintM;rw[if_pos h1,if_neg (by omega),if_neg (by omega),parse_digits r _ (fun x hx=>hd x (List.mem_cons_of_mem _ hx)) hv,h3]
theorem index_digits:∀ (l t:List UInt8),(∀ c ∈ l,48≤c.toNat∧c.toNat≤57)→Lib.indexByte (l++112 :: t) 112=l.length
 | [],t,_=>rfl
 | c :: r,t,h=>by
  have hc:=h c (by simp);have hne:(c==112)=false:=by
   rw[beq_eq_false_iff_ne];rintro rfl;have:(112:UInt8).toNat=112:=rfl;omega
  rw[List.cons_append];unfold Lib.indexByte;rw[index_digits r t (fun x hx=>h x (List.mem_cons_of_mem _ hx)),hne];simp only[Bool.false_eq_true,if_false];rw[if_neg (by simp)];simp
theorem cut_digits (l t:List UInt8) (h:∀ c ∈ l,48≤c.toNat∧c.toNat≤57):cutAt (l++112 :: t)=(l,t):=by
 unfold cutAt;rw[index_digits l t h,if_pos (by omega),Int.toNat_natCast];simp
def expL (x:Int):List UInt8:=if x<0 then 45 :: Lib.decDigits (-x).toNat else Lib.decDigits x.toNat
def realL (m:Nat) (x:Int):List UInt8:=Lib.decDigits m++112 :: expL x
end Go.Proofs.YtkpboalccpancaaGreatDoor
