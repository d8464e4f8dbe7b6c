import Derived.Test.YtenlhcgpajphhaaGreatDoorMVForm
import Derived.Test.YtenlhcgpajphhaaGreatDoorMVReal
namespace Go.Proofs.YtenlhcgpajphhaaGreatDoor
open Go.RowKit Go.Shelf
set_option maxRecDepth 100000
open Lib(hid)
set_option linter.all false
set_option maxHeartbeats 1000000
theorem qnQ (b:Nat) (w:World):Calls Tryz.prog 226 #[.float .f64 b,.int .i64 1] w fun e w'=>e=.returned (.bool (gtB b 9218868437227405311))∧w=w':=by
 go_enter Tryz.func226,Tryz.ntmps226;go_wp2;go_ret;exact⟨rfl,rfl⟩
def qjA (b:Nat):Nat:=if b / 4503599627370496=0 then b % 4503599627370496 else b % 4503599627370496+4503599627370496
def qv2 (b:Nat):Int:=(if b / 4503599627370496=0 then 0 else (b / 4503599627370496:Nat)-1)-1074+(Lib.ctz 64 (qjA b):Nat)
theorem qvQ (r k:Nat):((r / 2 ^ k:Nat):Int)=(r:Int) / 2 ^ k:=by
 rw[Int.natCast_ediv,Int.natCast_pow];rfl
theorem q8G (b:Nat) (hb:b<9223372036854775808) (h0:b≠0) (w:World) (hG:qk3 w) :
  Calls Tryz.prog 243 #[.float .f64 b] w fun e w'=>e=.returned (.tuple #[.int .u64 (qjA b / 2 ^ Lib.ctz 64 (qjA b):Nat),.int .i64 (qv2 b)])∧w=w':=by
 have h1:=qpK b;obtain⟨q,hq⟩:∃ q,q=b / 4503599627370496:=⟨_,rfl⟩
 obtain⟨r,hr⟩:∃ r,r=b % 4503599627370496:=⟨_,rfl⟩
 have hA:bits .and .u64 (b:Int) 4503599627370495=(r:Int):=by
  have:=bits_and_u64_nat b 4503599627370495 (by omega) (by omega);rw[show ((4503599627370495:Nat):Int)=4503599627370495 from rfl] at this;rw[this,show (4503599627370495:Nat)=2 ^ 52-1 from rfl,Nat.and_two_pow_sub_one_eq_mod,hr]
 have hS:(b:Int) / 4503599627370496=(q:Int):=by omega
 have hq2:q≤2047:=by omega
 have hr2:r<4503599627370496:=by omega
 by_cases hz:q=0
 ·have hm:qjA b=r:=by unfold qjA;rw[if_pos (by omega),hr]
  have he:qv2 b=-1074+(Lib.ctz 64 r:Nat):=by unfold qv2;rw[if_pos (by omega),hm];omega
  have hr0:r≠0:=by omega
  obtain⟨_,hk⟩:=Lib.lowest_bit 64 r hr0 (by omega);have ht:=q69 r (by omega) hr0 w hG.2.2;have ed:=qvQ r (Lib.ctz 64 r);rw[hm,he,ed];generalize Lib.ctz 64 r=k at ht hk ⊢;have HTZ:=hid ht;subst hz;have e0:((0:Nat):Int)=0:=rfl;clear hm he ht hq hr hr0 hb h0 ed;go_enter Tryz.func243,Tryz.ntmps243;go_wp2_with fail;refine HTZ.out.mono ?_;rintro e w' ⟨rfl,rfl⟩;go_wp2_with fail
  go_ret2
  exact⟨rfl,rfl⟩
 ·have hm:qjA b=r+4503599627370496:=by unfold qjA;rw[if_neg (by omega),hr]
  have he:qv2 b=(q:Int)-1-1074+(Lib.ctz 64 (r+4503599627370496):Nat):=by unfold qv2;rw[if_neg (by omega),hm];omega
  have hor:bits .or .u64 (r:Int) 4503599627370496=((r+4503599627370496:Nat):Int):=by
   have:=q6Z r 1 hr2 (by omega);rw[show ((1 * 4503599627370496:Nat):Int)=4503599627370496 from rfl] at this;rw[this];omega
  obtain⟨m,hmm⟩:∃ m,m=r+4503599627370496:=⟨_,rfl⟩
  rw[← hmm] at hm he hor;have hm0:m≠0:=by omega
  obtain⟨_,hk⟩:=Lib.lowest_bit 64 m hm0 (by omega);have ht:=q69 m (by omega) hm0 w hG.2.2;have ed:=qvQ m (Lib.ctz 64 m);rw[hm,he,ed];generalize Lib.ctz 64 m=k at ht hk ⊢;have HTZ:=hid ht;have hq1:0<q:=by omega
  have d1:decide ((0:Int)<(q:Int))=true:=by rw[decide_eq_true_eq];omega
  have hml:(m:Int)<9007199254740992:=by omega
  clear hm he ht hq hr hm0 hb h0 ed hmm hz;go_enter Tryz.func243,Tryz.ntmps243;go_wp2_with fail;refine HTZ.out.mono ?_;rintro e w' ⟨rfl,rfl⟩;go_wp2_with fail
  go_ret2
  exact⟨rfl,rfl⟩
theorem qlX {b:Nat} (hb:b<9223372036854775808):qjA b / 2 ^ Lib.ctz 64 (qjA b)<18446744073709551616:=by
 have h1:qjA b<9007199254740992:=by unfold qjA;split <;> omega
 have:=Nat.div_le_self (qjA b) (2 ^ Lib.ctz 64 (qjA b));omega
theorem qlY {b:Nat} (hb:b<9223372036854775808) (h0:b≠0):-9223372036854775808≤qv2 b∧qv2 b≤9223372036854775807:=by
 have h1:qjA b≠0∧qjA b<18446744073709551616:=by unfold qjA;split <;> omega
 obtain⟨_,hk⟩:=Lib.lowest_bit 64 (qjA b) h1.1 h1.2;unfold qv2;split <;> omega
theorem qvB (E:Int) (h1:-9223372036854775808≤E) (h2:E≤9223372036854775807):(Lib.itoa E).length≤21:=by
 rcases Int.lt_or_le E 0 with h|h
 ·obtain⟨u,rfl⟩:∃ u:Nat,E=-(u:Int):=⟨E.natAbs,by omega⟩
  rw[Lib.itoa_neg u (by omega)];have:=qj3 u (by omega);simp only[List.length_cons];omega
 ·obtain⟨u,rfl⟩:=Int.eq_ofNat_of_zero_le h;rw[Lib.itoa_nonneg];have:=qj3 u (by omega);omega
def qrG (b:Nat):ByteArray:=if gtB b 9218868437227405311=true then ⟨#[105,110,102]⟩ else if eqB b 0=true then ⟨#[48,112,48]⟩ else (⟨(Lib.decDigits (qjA b / 2 ^ Lib.ctz 64 (qjA b))).toArray⟩++⟨#[112]⟩)++⟨(Lib.itoa (qv2 b)).toArray⟩
theorem q16 (b:Nat) (hb:b<9223372036854775808) (w:World) (hG:qk3 w) :
  Calls Tryz.prog 212 #[.float .f64 b] w fun e w'=>e=.returned (.string (qrG b))∧Below w.heap.size w w':=by
 by_cases h1:gtB b 9218868437227405311=true
 ·have hm:qrG b=⟨#[105,110,102]⟩:=by unfold qrG;rw[if_pos h1]
  have hi:=qnQ b w;rw[h1] at hi;have HI:=hid hi;rw[hm];clear hm hi h1;go_enter Tryz.func212,Tryz.ntmps212;go_wp2_with fail;refine HI.out.mono ?_;rintro e w' ⟨rfl,rfl⟩;go_wp2_with fail;go_ret;exact⟨rfl,Below.refl _ _⟩
 ·have h1':gtB b 9218868437227405311=false:=by simpa using h1
  have hi:=qnQ b w;rw[h1'] at hi;have HI:=hid hi;by_cases h2:eqB b 0=true
  ·have hm:qrG b=⟨#[48,112,48]⟩:=by unfold qrG;rw[if_neg h1,if_pos h2]
   have t2:(FloatKind.f64.format.order b 0==some Ordering.eq)=true:=h2;rw[hm];clear hm hi h1 h1' h2;go_enter Tryz.func212,Tryz.ntmps212;go_wp2_with fail;refine HI.out.mono ?_;rintro e w' ⟨rfl,rfl⟩;go_wp2_with fail;go_ret;exact⟨rfl,Below.refl _ _⟩
  ·have hm:qrG b=(⟨(Lib.decDigits (qjA b / 2 ^ Lib.ctz 64 (qjA b))).toArray⟩++⟨#[112]⟩)++⟨(Lib.itoa (qv2 b)).toArray⟩:=by unfold qrG;rw[if_neg h1,if_neg h2]
   have t2:(FloatKind.f64.format.order b 0==some Ordering.eq)=false:=by
    cases hh:eqB b 0 with
    | true=>exact absurd hh h2
    | false=>exact hh
   have hb0:b≠0:=by
    rintro rfl;exact h2 (by decide)
   have ho:=q8G b hb hb0 w hG;have hM:=qlX hb;obtain⟨hE1,hE2⟩:=qlY hb hb0;generalize qjA b / 2 ^ Lib.ctz 64 (qjA b)=M at hm ho hM;generalize qv2 b=E at hm ho hE1 hE2;have hf1:=fun W hW=>qtG M hM W hW;have hf2:=fun W hW=>q51 E hE1 hE2 W hW;have hl1:(⟨(Lib.decDigits M).toArray⟩:ByteArray).size≤20:=qj3 M hM;have hl2:(⟨(Lib.itoa E).toArray⟩:ByteArray).size≤21:=qvB E hE1 hE2;generalize (⟨(Lib.decDigits M).toArray⟩:ByteArray)=s1 at hm hf1 hl1;generalize (⟨(Lib.itoa E).toArray⟩:ByteArray)=s2 at hm hf2 hl2;rw[hm];have HO:=hid ho;have HG:=hid hG;have HF1:=hid hf1;have HF2:=hid hf2;clear hf1 hf2 hm hi h1 h1' h2 ho hb0 hG;go_enter Tryz.func212,Tryz.ntmps212;go_wp2_with fail;refine HI.out.mono ?_;rintro e w' ⟨rfl,rfl⟩;go_wp2_with fail;refine HO.out.mono ?_;rintro e w' ⟨rfl,rfl⟩;go_wp2_with fail;refine(HF1.out w HG.out).mono ?_;rintro e w1 ⟨rfl,hb1⟩;have HB1:=hid hb1;clear hb1;go_wp2_with fail;refine(HF2.out w1 (HG.out.below HB1.out (Nat.le_refl _))).mono ?_;rintro e w2 ⟨rfl,hb2⟩;have HB2:=hid (HB1.out.trans (hb2.mono HB1.out.size));clear hb2;go_wp2_with fail;go_ret;exact⟨rfl,HB2.out⟩
end Go.Proofs.YtenlhcgpajphhaaGreatDoor
