import Derived.Test.YtkpboalccpancaaGreatDoorMVReal
import Derived.Test.YtkpboalccpancaaGreatDoorMPart
import Derived.Deep.QuietTactic
import Derived.BigQuiet
import Derived.Laws.FloatArith
namespace Go.Proofs.YtkpboalccpancaaGreatDoor
open Go.RowKit
open Lib(hid)
set_option maxRecDepth 100000
set_option linter.all false
set_option maxHeartbeats 4000000
def RPart (l:List UInt8) (A:Nat) (w:World) (e:Ending) (w':World):Prop:=e=.returned (.tuple #[.int .u8 (partF (l.drop A)).1.toNat,.int .i64 (partF (l.drop A)).2])∧∃ k,w'=w.drewN k
theorem below_drewN {B:Nat} {a w:World} (h:Below B a w) (k:Nat):Below B a (w.drewN k):=by
 cases k with
 | zero=>exact h
 | succ k=>exact⟨h.os,h.tape,h.output,h.size,h.block⟩
theorem dr (l:List UInt8) (A j:Nat):bAt (l.drop A) j=bAt l (A+j):=bAt_drop
theorem refPart_hex (b o n cap A h k:Nat) (c2 c3:UInt8) (l:List UInt8) (w:World) (hr:n≤140737488351232) (hlt:A+3<n) (hh:h<16) (hk:k<16)
  (hc0:w.cell? ⟨b,o+A,none⟩=some (.int .u8 92)) (hc1:w.cell? ⟨b,o+(A+1),none⟩=some (.int .u8 120))
  (hc2:w.cell? ⟨b,o+(A+2),none⟩=some (.int .u8 (c2.toNat:Int))) (hc3:w.cell? ⟨b,o+(A+3),none⟩=some (.int .u8 (c3.toNat:Int)))
  (HX2:∀ W,Calls Tryz.prog 103 #[.int .u8 c2.toNat] W fun e w'=>e=.returned (.int .i64 (h:Int))∧W=w')
  (HX3:∀ W,Calls Tryz.prog 103 #[.int .u8 c3.toNat] W fun e w'=>e=.returned (.int .i64 (k:Int))∧W=w')
  (hpf:partF (l.drop A)=if plainB (UInt8.ofNat (16 * h+k))=true then (0,0) else (UInt8.ofNat (16 * h+k),4)) :
  Calls Tryz.prog 88 #[.slice (some ⟨b,o,none⟩) n cap,.int .i64 A] w fun e w'=>RPart l A w e w':=by
 obtain⟨q,hq⟩:∃ q:UInt8,q=UInt8.ofNat (16 * h+k):=⟨_,rfl⟩
 have hqn:q.toNat=16 * h+k:=by rw[hq,UInt8.toNat_ofNat'];omega
 rw[← hq] at hpf;have hw8:IntKind.u8.wrap (16 * (h:Int)+(k:Int))=16 * (h:Int)+(k:Int):=by rw[IntKind.wrap_u8];omega
 have HX2:=hid HX2;have HX3:=hid HX3;have HPF:=hid hpf;have HQN:=hid hqn;have d0:decide (((n:Int)-(A:Int))<1)=false:=by rw[decide_eq_false_iff_not];omega
 have d1:decide (((n:Int)-(A:Int))<2)=false:=by rw[decide_eq_false_iff_not];omega
 have d3:decide (4≤((n:Int)-(A:Int)))=true:=by rw[decide_eq_true_eq];omega
 clear hpf hqn hq;go_enter Tryz.func88,Tryz.ntmps88;go_wp2_with (first|((go_at_call 103;with_reducible refine(HX2.out _).mono ?_);rintro e w' ⟨rfl,rfl⟩)|((go_at_call 103;with_reducible refine(HX3.out _).mono ?_);rintro e w' ⟨rfl,rfl⟩));have s1:IntKind.i64.wrap ((A:Int)+2)=(A:Int)+2:=by rw[IntKind.wrap_i64];omega
 have s2:IntKind.i64.wrap ((A:Int)+3)=(A:Int)+3:=by rw[IntKind.wrap_i64];omega
 have s3:IntKind.i64.wrap (16 * (h:Int))=16 * (h:Int):=by rw[IntKind.wrap_i64];omega
 have s4:IntKind.i64.wrap (16 * (h:Int)+(k:Int))=16 * (h:Int)+(k:Int):=by rw[IntKind.wrap_i64];omega
 have s5:((A:Int)+2).toNat=A+2:=by omega
 have s6:((A:Int)+3).toNat=A+3:=by omega
 have g1:0≤(A:Int)+2:=by omega
 have g2:0≤(A:Int)+3:=by omega
 have g3:(A:Int)+2<(n:Int):=by omega
 have g4:(A:Int)+3<(n:Int):=by omega
 go_quiet ((go_at_call 103;first|(with_reducible exact Calls.quiet_of_same ((HX2.out _).mono fun _ _ hh=>⟨hh.1,hh.2.symm⟩))|(with_reducible exact Calls.quiet_of_same ((HX3.out _).mono fun _ _ hh=>⟨hh.1,hh.2.symm⟩))));clear s1 s2 s3 s4 s5 s6 g1 g2 g3 g4;have hB:∃ k,w.drewN nq=w.drewN k:=⟨nq,rfl⟩
 by_cases hp:32≤16 * h+k∧16 * h+k≤126
 ·have hpl:plainB q=true:=by simp only[plainB,decide_eq_true_eq];rw[HQN.out];exact hp
  have HF:Hid (partF (l.drop A)=(0,0)):=by
   have:partF (l.drop A)=(0,0):=by rw[HPF.out,if_pos hpl]
   exact this
  have x1:decide ((16 * (h:Int)+(k:Int))<32)=false:=by rw[decide_eq_false_iff_not];omega
  have x2:decide ((126:Int)<(16 * (h:Int)+(k:Int)))=false:=by rw[decide_eq_false_iff_not];omega
  clear hpl hp;go_wp2_with fail
  go_ret2
  unfold RPart;rw[HF.out];exact⟨rfl,hB⟩
 ·have hpl:¬ (plainB q=true):=by simp only[plainB,decide_eq_true_eq];rw[HQN.out];exact hp
  have HF:Hid (Ending.returned (.tuple #[.int .u8 (16 * (h:Int)+(k:Int)),.int .i64 4])=Ending.returned (.tuple #[.int .u8 (partF (l.drop A)).1.toNat,.int .i64 (partF (l.drop A)).2])):=by
   have:Ending.returned (.tuple #[.int .u8 (16 * (h:Int)+(k:Int)),.int .i64 4])=Ending.returned (.tuple #[.int .u8 (partF (l.drop A)).1.toNat,.int .i64 (partF (l.drop A)).2]):=by
    rw[HPF.out,if_neg hpl];simp only[HQN.out];rfl
   exact this
  have hx:(decide ((16 * (h:Int)+(k:Int))<32)=true)∨(decide ((16 * (h:Int)+(k:Int))<32)=false∧decide ((126:Int)<(16 * (h:Int)+(k:Int)))=true):=by
   by_cases h32:16 * h+k<32
   ·left;rw[decide_eq_true_eq];omega
   ·right;exact⟨by rw[decide_eq_false_iff_not];omega,by rw[decide_eq_true_eq];omega⟩
  clear hpl hp;rcases hx with x1|⟨x1,x2⟩
  ·go_wp2_with fail
   go_ret2
   exact⟨HF.out,hB⟩
  ·go_wp2_with fail
   go_ret2
   exact⟨HF.out,hB⟩
theorem refPart_any (a:Option Addr) (n cap A:Nat) (l:List UInt8) (w:World) (ht:Txt w a n cap l) (hr:n≤140737488351232) (hA:A≤n) :
  Calls Tryz.prog 88 #[.slice a n cap,.int .i64 A] w fun e w'=>RPart l A w e w':=by
 have hl:=ht.1;rcases Nat.lt_or_ge A n with hlt|hge
 ·obtain⟨b,o,rfl,hc0⟩:=ht.cellAt hlt;have d0:decide (((n:Int)-(A:Int))<1)=false:=by rw[decide_eq_false_iff_not];omega
  have h255:=(bAt l A).toNat_lt;by_cases p1:(bAt l A).toNat<32
  ·have FIN:=hid (show Ending.returned (.tuple #[.int .u8 0,.int .i64 0])=Ending.returned (.tuple #[.int .u8 (partF (l.drop A)).1.toNat,.int .i64 (partF (l.drop A)).2]) from by
    have q0:plainB (bAt l A)=false:=by simp only[plainB,decide_eq_false_iff_not];omega
    have q1:bAt l A≠92:=by intro e;rw[e] at p1;revert p1;decide
    unfold partF;simp only[dr,Nat.add_zero];simp[q0,q1])
   have x1:decide (((bAt l A).toNat:Int)<32)=true:=by rw[decide_eq_true_eq];omega
   clear ht hl p1;go_enter Tryz.func88,Tryz.ntmps88;go_wp2_with fail
   go_ret2
   exact⟨FIN.out,0,rfl⟩
  ·by_cases p2:126<(bAt l A).toNat
   ·have FIN:=hid (show Ending.returned (.tuple #[.int .u8 0,.int .i64 0])=Ending.returned (.tuple #[.int .u8 (partF (l.drop A)).1.toNat,.int .i64 (partF (l.drop A)).2]) from by
     have q0:plainB (bAt l A)=false:=by simp only[plainB,decide_eq_false_iff_not];omega
     have q1:bAt l A≠92:=by intro e;rw[e] at p2;revert p2;decide
     unfold partF;simp only[dr,Nat.add_zero];simp[q0,q1])
    have x1:decide (((bAt l A).toNat:Int)<32)=false:=by rw[decide_eq_false_iff_not];omega
    have x2:decide ((126:Int)<((bAt l A).toNat:Int))=true:=by rw[decide_eq_true_eq];omega
    clear ht hl p1 p2;go_enter Tryz.func88,Tryz.ntmps88;go_wp2_with fail
    go_ret2
    exact⟨FIN.out,0,rfl⟩
   ·by_cases p3:bAt l A=34
    ·have FIN:=hid (show Ending.returned (.tuple #[.int .u8 0,.int .i64 0])=Ending.returned (.tuple #[.int .u8 (partF (l.drop A)).1.toNat,.int .i64 (partF (l.drop A)).2]) from by
      unfold partF;simp only[dr,Nat.add_zero];simp[p3])
     rw[p3] at hc0;simp only[show (((34:UInt8).toNat:Nat):Int)=34 from rfl] at hc0;clear ht hl p1 p2 p3;go_enter Tryz.func88,Tryz.ntmps88;go_wp2_with fail
     go_ret2
     exact⟨FIN.out,0,rfl⟩
    ·by_cases p4:bAt l A=92
     ·rcases Nat.lt_or_ge (A+1) n with hlt1|hge1
      ·obtain⟨b',o',e,hc1⟩:=ht.cellAt hlt1;cases e;have d1:decide (((n:Int)-(A:Int))<2)=false:=by rw[decide_eq_false_iff_not];omega
       by_cases g34:bAt l (A+1)=34
       ·have FIN:=hid (show Ending.returned (.tuple #[.int .u8 34,.int .i64 2])=Ending.returned (.tuple #[.int .u8 (partF (l.drop A)).1.toNat,.int .i64 (partF (l.drop A)).2]) from by
         unfold partF;simp only[dr,Nat.add_zero];simp[p4,g34])
        rw[p4] at hc0;simp only[show (((92:UInt8).toNat:Nat):Int)=92 from rfl] at hc0;rw[g34] at hc1;simp only[show (((34:UInt8).toNat:Nat):Int)=34 from rfl] at hc1;clear ht hl p1 p2 p3 p4 g34;go_enter Tryz.func88,Tryz.ntmps88;go_wp2_with fail
        go_ret2
        exact⟨FIN.out,0,rfl⟩
       ·by_cases g92:bAt l (A+1)=92
        ·have FIN:=hid (show Ending.returned (.tuple #[.int .u8 92,.int .i64 2])=Ending.returned (.tuple #[.int .u8 (partF (l.drop A)).1.toNat,.int .i64 (partF (l.drop A)).2]) from by
          unfold partF;simp only[dr,Nat.add_zero];simp[p4,g92])
         rw[p4] at hc0;simp only[show (((92:UInt8).toNat:Nat):Int)=92 from rfl] at hc0;rw[g92] at hc1;simp only[show (((92:UInt8).toNat:Nat):Int)=92 from rfl] at hc1;clear ht hl p1 p2 p3 p4 g34 g92;go_enter Tryz.func88,Tryz.ntmps88;go_wp2_with fail
         go_ret2
         exact⟨FIN.out,0,rfl⟩
        ·by_cases g120:bAt l (A+1)=120
         ·rcases Nat.lt_or_ge (A+3) n with hlt3|hge3
          ·obtain⟨b',o',e,hc2⟩:=ht.cellAt (show A+2<n by omega);cases e;obtain⟨b',o',e,hc3⟩:=ht.cellAt hlt3;cases e;have d3:decide (4≤((n:Int)-(A:Int)))=true:=by rw[decide_eq_true_eq];omega
           have HX2:=fun W=>refHex_any (bAt l (A+2)) W;have HX3:=fun W=>refHex_any (bAt l (A+3)) W;cases e2:hexVal (bAt l (A+2)) with
           | none =>
            have i2:hexI (bAt l (A+2))=-1:=by unfold hexI;rw[e2]
            rw[i2] at HX2;have FIN:=hid (show Ending.returned (.tuple #[.int .u8 0,.int .i64 0])=Ending.returned (.tuple #[.int .u8 (partF (l.drop A)).1.toNat,.int .i64 (partF (l.drop A)).2]) from by
             unfold partF;simp only[dr,Nat.add_zero];simp[p4,g120,e2])
            rw[p4] at hc0;simp only[show (((92:UInt8).toNat:Nat):Int)=92 from rfl] at hc0;rw[g120] at hc1;simp only[show (((120:UInt8).toNat:Nat):Int)=120 from rfl] at hc1;have HX2:=hid HX2;have HX3:=hid HX3;clear ht hl p1 p2 p3 p4 g34 g92 g120 e2 i2;go_enter Tryz.func88,Tryz.ntmps88;go_wp2_with (first|((go_at_call 103;with_reducible refine(HX2.out _).mono ?_);rintro e w' ⟨rfl,rfl⟩)|((go_at_call 103;with_reducible refine(HX3.out _).mono ?_);rintro e w' ⟨rfl,rfl⟩))
            go_ret2
            exact⟨FIN.out,0,rfl⟩
           | some h =>
            have i2:hexI (bAt l (A+2))=(h:Int):=by unfold hexI;rw[e2]
            have hh:=hexVal_lt e2;rw[i2] at HX2;cases e3:hexVal (bAt l (A+3)) with
            | none =>
             have i3:hexI (bAt l (A+3))=-1:=by unfold hexI;rw[e3]
             rw[i3] at HX3;have FIN:=hid (show Ending.returned (.tuple #[.int .u8 0,.int .i64 0])=Ending.returned (.tuple #[.int .u8 (partF (l.drop A)).1.toNat,.int .i64 (partF (l.drop A)).2]) from by
              unfold partF;simp only[dr,Nat.add_zero];simp[p4,g120,e2,e3])
             rw[p4] at hc0;simp only[show (((92:UInt8).toNat:Nat):Int)=92 from rfl] at hc0;rw[g120] at hc1;simp only[show (((120:UInt8).toNat:Nat):Int)=120 from rfl] at hc1;have HX2:=hid HX2;have HX3:=hid HX3;clear ht hl p1 p2 p3 p4 g34 g92 g120 e2 e3 i2 i3;go_enter Tryz.func88,Tryz.ntmps88;go_wp2_with (first|((go_at_call 103;with_reducible refine(HX2.out _).mono ?_);rintro e w' ⟨rfl,rfl⟩)|((go_at_call 103;with_reducible refine(HX3.out _).mono ?_);rintro e w' ⟨rfl,rfl⟩))
             go_ret2
             exact⟨FIN.out,0,rfl⟩
            | some k =>
             have i3:hexI (bAt l (A+3))=(k:Int):=by unfold hexI;rw[e3]
             have hk:=hexVal_lt e3;rw[i3] at HX3;exact refPart_hex b o n cap A h k (bAt l (A+2)) (bAt l (A+3)) l w hr hlt3 hh hk (by rw[hc0,p4];rfl) (by rw[hc1,g120];rfl) hc2 hc3 HX2 HX3 (partF_hex (l:=l.drop A) (by rw[dr];exact p4) (by rw[dr];exact g120) (by rw[dr];exact e2) (by rw[dr];exact e3) rfl)
          ·have d3:decide (4≤((n:Int)-(A:Int)))=false:=by rw[decide_eq_false_iff_not];omega
           have FIN:=hid (show Ending.returned (.tuple #[.int .u8 0,.int .i64 0])=Ending.returned (.tuple #[.int .u8 (partF (l.drop A)).1.toNat,.int .i64 (partF (l.drop A)).2]) from by
            have z3:bAt l (A+3)=0:=bAt_ge (by omega);unfold partF;simp only[dr,Nat.add_zero];simp[p4,g120,z3,hex0])
           rw[p4] at hc0;simp only[show (((92:UInt8).toNat:Nat):Int)=92 from rfl] at hc0;rw[g120] at hc1;simp only[show (((120:UInt8).toNat:Nat):Int)=120 from rfl] at hc1;clear ht hl p1 p2 p3 p4 g34 g92 g120;go_enter Tryz.func88,Tryz.ntmps88;go_wp2_with fail
           go_ret2
           exact⟨FIN.out,0,rfl⟩
         ·have FIN:=hid (show Ending.returned (.tuple #[.int .u8 0,.int .i64 0])=Ending.returned (.tuple #[.int .u8 (partF (l.drop A)).1.toNat,.int .i64 (partF (l.drop A)).2]) from by
           unfold partF;simp only[dr,Nat.add_zero];simp[p4,g34,g92,g120])
          rw[p4] at hc0;simp only[show (((92:UInt8).toNat:Nat):Int)=92 from rfl] at hc0;have y1:(((bAt l (A+1)).toNat:Int)==34)=false:=u8_neq (d:=34) g34;have y2:(((bAt l (A+1)).toNat:Int)==92)=false:=u8_neq (d:=92) g92;have y3:(((bAt l (A+1)).toNat:Int)==120)=false:=u8_neq (d:=120) g120;clear ht hl p1 p2 p3 p4 g34 g92 g120;go_enter Tryz.func88,Tryz.ntmps88;go_wp2_with fail
          go_ret2
          exact⟨FIN.out,0,rfl⟩
      ·have d1:decide (((n:Int)-(A:Int))<2)=true:=by rw[decide_eq_true_eq];omega
       have FIN:=hid (show Ending.returned (.tuple #[.int .u8 0,.int .i64 0])=Ending.returned (.tuple #[.int .u8 (partF (l.drop A)).1.toNat,.int .i64 (partF (l.drop A)).2]) from by
        have z1:bAt l (A+1)=0:=bAt_ge (by omega);unfold partF;simp only[dr,Nat.add_zero];simp[p4,z1])
       rw[p4] at hc0;simp only[show (((92:UInt8).toNat:Nat):Int)=92 from rfl] at hc0;clear ht hl p1 p2 p3 p4;go_enter Tryz.func88,Tryz.ntmps88;go_wp2_with fail
       go_ret2
       exact⟨FIN.out,0,rfl⟩
     ·have FIN:=hid (show Ending.returned (.tuple #[.int .u8 (bAt l A).toNat,.int .i64 1])=Ending.returned (.tuple #[.int .u8 (partF (l.drop A)).1.toNat,.int .i64 (partF (l.drop A)).2]) from by
       have q0:plainB (bAt l A)=true:=by simp only[plainB,decide_eq_true_eq];omega
       unfold partF;simp only[dr,Nat.add_zero];simp[q0,p3,p4])
      have x1:decide (((bAt l A).toNat:Int)<32)=false:=by rw[decide_eq_false_iff_not];omega
      have x2:decide ((126:Int)<((bAt l A).toNat:Int))=false:=by rw[decide_eq_false_iff_not];omega
      have x3:(((bAt l A).toNat:Int)==34)=false:=u8_neq (d:=34) p3;have x4:(((bAt l A).toNat:Int) != 92)=true:=u8_neqn (d:=92) p4;clear ht hl p1 p2 p3 p4;go_enter Tryz.func88,Tryz.ntmps88;go_wp2_with fail
      go_ret2
      exact⟨FIN.out,0,rfl⟩
 ·have hz:bAt l A=0:=bAt_ge (by omega);have d0:decide (((n:Int)-(A:Int))<1)=true:=by rw[decide_eq_true_eq];omega
  have FIN:=hid (show Ending.returned (.tuple #[.int .u8 0,.int .i64 0])=Ending.returned (.tuple #[.int .u8 (partF (l.drop A)).1.toNat,.int .i64 (partF (l.drop A)).2]) from by
   unfold partF;simp only[dr,Nat.add_zero];simp[hz]
   decide)
  clear ht hl hz;go_enter Tryz.func88,Tryz.ntmps88;go_wp2_with fail
  go_ret2
  exact⟨FIN.out,0,rfl⟩
theorem real_inf (m:Nat) (e:Int) (h:0<m) (h2:m<9007199254740992) (he:-1074≤e) (hf:¬ ((m.log2:Int)+1+e≤1024)):realBits m e=9218868437227405312:=by
 have h0:=nearest_scale m 0 e h h2 he;rw[Nat.pow_zero,Nat.mul_one,show e-((0:Nat):Int)=e by omega] at h0;have hre:realBits m e=Ieee.double.nearest false m e:=by unfold realBits;rw[Int.toNat_natCast]
 have hk2:=log2_le h h2;obtain⟨b1,b2⟩:=scaled_bounds h rfl hk2;have hl:lastP m e=e+(m.log2:Int)-52:=by unfold lastP;omega
 rw[hre,h0,hl,show (e-(e+(m.log2:Int)-52)).toNat=52-m.log2 by omega];obtain⟨L,hL⟩:∃ L:Nat,(e+(m.log2:Int)-52+1074).toNat=L∧2046≤L:=⟨_,rfl,by omega⟩
 rw[hL.1];refine Nat.min_eq_right ?_;have:=Nat.mul_le_mul_right 4503599627370496 hL.2;omega
theorem inf_two:floatBits .mul .f64 9218868437227405312 4611686018427387904=some 9218868437227405312:=by decide
theorem twice (m:Nat) (e:Int) (h:0<m) (h2:m<9007199254740992) (he:-1074≤e):floatBits .mul .f64 (realBits m e) 4611686018427387904=some (realBits m (e+1)):=by
 by_cases hf:(m.log2:Int)+1+e≤1024
 ·exact times_two m e h h2 he hf
 ·rw[real_inf m e h h2 he hf,real_inf m (e+1) h h2 (by omega) (by omega),inf_two]
theorem less_self (m:Nat) (e:Int) (h:0<m) (h2:m<9007199254740992) (he:-1074≤e) (hf:(m.log2:Int)+1+e≤1024):floatBits .sub .f64 (realBits m e) (realBits m e)=some 0:=by
 obtain⟨_,s,hs,hr⟩:=read_real m e h h2 he hf;show Ieee.Format.sub Ieee.double _ _=_;unfold Ieee.Format.sub;rw[hr];have hq:Ieee.Datum.sum (.number false (m * 2 ^ s) (e-s)) (Ieee.Datum.opposite (.number false (m * 2 ^ s) (e-s)))=some (.number false 0 (e-s)):=by
  unfold Ieee.Datum.opposite Ieee.Datum.sum;simp only[Int.min_self,Int.sub_self,Int.toNat_zero];unfold Ieee.signed;simp[Int.add_right_neg]
 rw[hq];show some (Ieee.double.nearest false 0 (e-s))=some 0;unfold Ieee.Format.nearest;rw[if_pos rfl];rfl
theorem zero_less:floatBits .sub .f64 0 0=some 0:=by decide
theorem drawn_nan (t:Nat):(FloatKind.f64.format.order ((t % 2) * 2 ^ 63+0x7ff0000000000000+1+(t / 2) % (2 ^ 52-1)) 0 != some Ordering.eq)=true:=by
 obtain⟨a,ha,ha2⟩:∃ a,a=t % 2∧a<2:=⟨_,rfl,Nat.mod_lt _ (by omega)⟩
 obtain⟨r,hr,hr2⟩:∃ r,r=(t / 2) % (2 ^ 52-1)∧r<4503599627370495:=⟨_,rfl,Nat.mod_lt _ (by omega)⟩
 rw[← ha,← hr];clear ha hr;have e63:(2:Nat) ^ 63=9223372036854775808:=by decide
 rw[e63];have hrd:∃ n f,Ieee.double.read (a * 9223372036854775808+9218868437227405312+1+r)=.nan n f:=by
  unfold Ieee.Format.read;rw[dS,dB,dI,dL];have e2:(a * 9223372036854775808+9218868437227405312+1+r) % 9223372036854775808=9218868437227405312+1+r:=by omega
  simp only[e2];rw[if_neg (by omega),if_neg (by omega),if_neg (by omega)];exact⟨_,_,rfl⟩
 obtain⟨n,f,hrd⟩:=hrd;show ((Ieee.double.read (a * 9223372036854775808+9218868437227405312+1+r)).order (Ieee.double.read 0) != some Ordering.eq)=true;rw[hrd];rfl
theorem run_inf_less (t:TypeId) (w:World):∃ b,(binOp .sub t (.float .f64 9218868437227405312) (.float .f64 9218868437227405312)).run Tryz.prog w=.ok (.float .f64 b) w.drew∧(FloatKind.f64.format.order b 0 != some Ordering.eq)=true :=
 ⟨_,rfl,drawn_nan _⟩
theorem power_down (m x:Nat) (w:World) (h2:m<9007199254740992) (hx:x≤1074) (h0:0<m∨x=0) :
  Calls Tryz.prog 102 #[.int .i64 m,.int .i64 x,.bool true] w fun e w'=>e=.returned (.float .f64 (realBits m (-(x:Int))))∧w=w':=by
 have HH:Hid (∀ k:Nat,k<x→∀ t w,(binOp .quo t (.float .f64 (realBits m (-(k:Int)))) (.float .f64 4611686018427387904)).run Tryz.prog w=.ok (.float .f64 (realBits m (-((k+1:Nat):Int)))) w):=by
  have:∀ k:Nat,k<x→∀ t w,(binOp .quo t (.float .f64 (realBits m (-(k:Int)))) (.float .f64 4611686018427387904)).run Tryz.prog w=.ok (.float .f64 (realBits m (-((k+1:Nat):Int)))) w:=by
   intro k hk t w;have hm:0<m:=by omega
   have hk2:=log2_le hm h2;have h:=half m (-(k:Int)) hm h2 (by omega) (by omega);rw[show -(k:Int)-1=-((k+1:Nat):Int) by omega] at h;exact run_float_arith (h:=h) ..
  exact this
 have hoi:=of_int m;obtain⟨r0,hr0⟩:∃ r0,r0=realBits m 0:=⟨_,rfl⟩
 rw[← hr0] at hoi;have HR0:=hid hr0;clear hr0 h0 h2;go_enter Tryz.func102,Tryz.ntmps102;go_wp2;clear hoi;go_loop [7,8] (fun v i=>∃ k:Nat,k≤x∧i=.int .i64 k∧v=.float .f64 (realBits m (-(k:Int)))) (fun _ i=>x-(intOf i).toNat)
 case atStart=>exact⟨0,Nat.zero_le _,rfl,by rw[HR0.out];rfl⟩
 case round =>
  obtain⟨k,hk,rfl,rfl⟩:=hrel;rcases Nat.lt_or_ge k x with hlt|hge
  ·have hq:=HH.out k hlt;obtain⟨r1,hr1⟩:∃ r1,r1=realBits m (-(k:Int)):=⟨_,rfl⟩
   obtain⟨r2,hr2⟩:∃ r2,r2=realBits m (-((k+1:Nat):Int)):=⟨_,rfl⟩
   rw[← hr1,← hr2] at hq;rw[← hr1];have HR2:=hid hr2;clear hr1 hr2;go_wp2
   go_round
   case rel=>exact⟨k+1,by omega,by go_num,by rw[HR2.out]⟩
   case measure=>simp[intOf];omega
  ·obtain rfl:k=x:=by omega
   go_wp2;go_ret;exact⟨rfl,rfl⟩
theorem power_up (m x:Nat) (w:World) (h2:m<9007199254740992) (hx:x≤1074) (h0:0<m∨x=0) :
  Calls Tryz.prog 102 #[.int .i64 m,.int .i64 x,.bool false] w fun e w'=>e=.returned (.float .f64 (realBits m x))∧w=w':=by
 have HH:Hid (∀ k:Nat,k<x→∀ t w,(binOp .mul t (.float .f64 (realBits m k)) (.float .f64 4611686018427387904)).run Tryz.prog w=.ok (.float .f64 (realBits m ((k+1:Nat):Int))) w):=by
  have:∀ k:Nat,k<x→∀ t w,(binOp .mul t (.float .f64 (realBits m k)) (.float .f64 4611686018427387904)).run Tryz.prog w=.ok (.float .f64 (realBits m ((k+1:Nat):Int))) w:=by
   intro k hk t w;have hm:0<m:=by omega
   have h:=twice m (k:Int) hm h2 (by omega);rw[show (k:Int)+1=((k+1:Nat):Int) by omega] at h;exact run_float_arith (h:=h) ..
  exact this
 have hoi:=of_int m;obtain⟨r0,hr0⟩:∃ r0,r0=realBits m 0:=⟨_,rfl⟩
 rw[← hr0] at hoi;have HR0:=hid hr0;clear hr0 h0 h2;go_enter Tryz.func102,Tryz.ntmps102;go_wp2;clear hoi;go_loop [7,8] (fun v i=>∃ k:Nat,k≤x∧i=.int .i64 k∧v=.float .f64 (realBits m k)) (fun _ i=>x-(intOf i).toNat)
 case atStart=>exact⟨0,Nat.zero_le _,rfl,by rw[HR0.out];rfl⟩
 case round =>
  obtain⟨k,hk,rfl,rfl⟩:=hrel;rcases Nat.lt_or_ge k x with hlt|hge
  ·have hq:=HH.out k hlt;obtain⟨r1,hr1⟩:∃ r1,r1=realBits m (k:Int):=⟨_,rfl⟩
   obtain⟨r2,hr2⟩:∃ r2,r2=realBits m ((k+1:Nat):Int):=⟨_,rfl⟩
   rw[← hr1,← hr2] at hq;rw[← hr1];have HR2:=hid hr2;clear hr1 hr2;go_wp2
   go_round
   case rel=>exact⟨k+1,by omega,by go_num,by rw[HR2.out]⟩
   case measure=>simp[intOf];omega
  ·obtain rfl:k=x:=by omega
   go_wp2;go_ret;exact⟨rfl,rfl⟩
end Go.Proofs.YtkpboalccpancaaGreatDoor
