import Derived.Test.YtenlhcgpajphhaaGreatDoorMNextPlain
import Derived.Test.YtenlhcgpajphhaaGreatDoorMWhole
import Derived.Laws.FloatArith
import Derived.Lib.ItoaNum
namespace Go.Proofs.YtenlhcgpajphhaaGreatDoor
open Go.RowKit
set_option linter.all false
def lastP (m:Nat) (e:Int):Int:=max (e+(m.log2:Int)-52) (-1074)
def valD (acc:Nat) (l:List UInt8):Nat:=l.foldl (fun a c=>a * 10+(c.toNat-48)) acc
theorem valD_le:∀ (l:List UInt8) (acc:Nat),acc≤valD acc l
 | [],acc=>Nat.le_refl _
 | c :: r,acc=>by
  have:=valD_le r (acc * 10+(c.toNat-48));unfold valD at this ⊢;rw[List.foldl_cons];omega
theorem parse_digits:∀ (l:List UInt8) (acc:Nat),(∀ c ∈ l,48≤c.toNat∧c.toNat≤57)→valD acc l≤18446744073709551615→Lib.parseUintM 18446744073709551615 acc l=.ok (valD acc l)
 | [],acc,_,_=>rfl
 | c :: r,acc,hd,hv=>by
  have h1:=hd c (by simp);have h2:=valD_le r (acc * 10+(c.toNat-48));have h3:valD acc (c :: r)=valD (acc * 10+(c.toNat-48)) r:=rfl;rw[h3] at hv;unfold Lib.parseUintM;rw[if_pos h1,if_neg (by omega),if_neg (by omega),parse_digits r _ (fun x hx=>hd x (List.mem_cons_of_mem _ hx)) hv,h3]
theorem index_digits:∀ (l t:List UInt8),(∀ c ∈ l,48≤c.toNat∧c.toNat≤57)→Lib.indexByte (l++112 :: t) 112=l.length
 | [],t,_=>rfl
 | c :: r,t,h=>by
  have hc:=h c (by simp);have hne:(c==112)=false:=by
   rw[beq_eq_false_iff_ne];rintro rfl;have:(112:UInt8).toNat=112:=rfl;omega
  rw[List.cons_append];unfold Lib.indexByte;rw[index_digits r t (fun x hx=>h x (List.mem_cons_of_mem _ hx)),hne];simp only[Bool.false_eq_true,if_false];rw[if_neg (by simp)];simp
theorem cut_digits (l t:List UInt8) (h:∀ c ∈ l,48≤c.toNat∧c.toNat≤57):cutAt (l++112 :: t)=(l,t):=by
 unfold cutAt;rw[index_digits l t h,if_pos (by omega),Int.toNat_natCast];simp
def expL (x:Int):List UInt8:=if x<0 then 45 :: Lib.decDigits (-x).toNat else Lib.decDigits x.toNat
def realL (m:Nat) (x:Int):List UInt8:=Lib.decDigits m++112 :: expL x
end Go.Proofs.YtenlhcgpajphhaaGreatDoor
