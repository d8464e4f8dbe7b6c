import Derived.Test.YtenlhcgpajphhaaGreatDoorRows
import Derived.Test.YtenlhcgpajphhaaGreatDoorMQuotePlain
import Derived.Test.YtenlhcgpajphhaaGreatDoorMTextWalks
import Derived.Test.YtenlhcgpajphhaaGreatDoorShl
import Derived.WalkKit
import Derived.WalkSpells
import Derived.WalkLawsBesides
import Derived.Lib.Hide
import Derived.Test.YtenlhcgpajphhaaGreatDoorQuoteLex
namespace Go.Proofs.YtenlhcgpajphhaaGreatDoor
open Go.RowKit
open Lib(hid)
set_option maxRecDepth 100000
set_option linter.all false
theorem q4P (a:Option Addr) (n cap:Nat) (l:List UInt8) (w:World) (ht:Txt w a n cap l) :
  Calls Tryz.prog 147 #[.slice a n cap] w fun e w'=>e=.returned (if n≤32 then .tuple #[.string ⟨l.toArray⟩,.int .i64 0] else .tuple #[.string ⟨#[]⟩,.int .i64 13])∧w=w':=by
 have h:=qhV ht;by_cases hn:n≤32
 ·rw[if_pos hn];clear ht;go_enter Tryz.func147,Tryz.ntmps147;go_wp2
  go_ret2
  exact⟨rfl,rfl⟩
 ·rw[if_neg hn];clear ht;go_enter Tryz.func147,Tryz.ntmps147;go_wp2
  go_ret2
  exact⟨rfl,rfl⟩
theorem qnN (c:UInt8):decide (0≤Lib.indexByte qd3 c)=qb7 c :=
 qkF (fun c=>decide (0≤Lib.indexByte qd3 c)=qb7 c) (by decide +kernel) c
theorem qrC (c:UInt8) (w:World) :
  Calls Tryz.prog 193 #[.string ⟨#[40,41,123,125,44,59,58,46,38,43,45,42,47,37,60,62,33,61,95]⟩,.int .u8 c.toNat] w fun e w'=>e=.returned (.int .i64 (Lib.indexByte qd3 c))∧w=w' :=
 (Tryz.strings_IndexByte ⟨#[40,41,123,125,44,59,58,46,38,43,45,42,47,37,60,62,33,61,95]⟩ c.toNat w).mono fun e w' ⟨he,hw⟩=>⟨by rw[he];simp[qd3],hw.symm⟩
theorem qrE (b o cap:Nat) (c:UInt8) (w:World) (hcell:w.cell? ⟨b,o,none⟩=some (.int .u8 c.toNat)) (hc:1≤cap) :
  Calls Tryz.prog 173 #[.slice (some ⟨b,o,none⟩) 1 cap] w fun e w'=>e=.returned (.int .i64 (qaE [c]))∧w=w':=by
 have hcv:=run_convert_bytes_back (P:=Tryz.prog) w 22 9 5 ⟨b,o,none⟩ cap [c] Tryz.underlying22 Tryz.underlying5 Tryz.underlying9 (fun j hj=>by
  obtain rfl:j=0:=by simp at hj;omega
  simpa [Addr.add] using hcell)
 obtain⟨s,hs⟩:∃ s:ByteArray,s=⟨[c].toArray⟩:=⟨_,rfl⟩
 rw[← hs] at hcv;have hl:s.toList=[c]:=by rw[hs,ByteArray.toList_mk]
 have f (x y:UInt8):(s.toList==[x,y])=false:=by rw[hl];simp
 have f1:=f 61 61;have f2:=f 33 61;have f3:=f 60 61;have f4:=f 62 61;have f5:=f 38 38;have f6:=f 124 124;have f7:=f 45 62;have hI:=hid (qrC c w);have hmi:=qnN c;have hge:=Lib.indexByte_ge qd3 c;have hsz:([c]:List UInt8).length=1:=rfl;have hmn:min (2:Int) 1=1:=by decide
 rw[hsz] at hcv;clear f hl hs;cases ho:qb7 c
 ·have hz:decide ((0:Int)≤Lib.indexByte qd3 c)=false:=by rw[ho] at hmi;exact hmi
  have HO:=hid ho;clear ho hmi;go_enter Tryz.func173,Tryz.ntmps173;go_wp2_with (go_at_call 193;refine hI.out.mono ?_;rintro e w' ⟨rfl,rfl⟩);go_ret;exact⟨by simp[qaE,HO.out],rfl⟩
 ·have hz:decide ((0:Int)≤Lib.indexByte qd3 c)=true:=by rw[ho] at hmi;exact hmi
  have HO:=hid ho;clear ho hmi;go_enter Tryz.func173,Tryz.ntmps173;go_wp2_with (go_at_call 193;refine hI.out.mono ?_;rintro e w' ⟨rfl,rfl⟩);go_ret;exact⟨by simp[qaE,HO.out],rfl⟩
theorem qrD (b o n cap:Nat) (c d:UInt8) (t:List UInt8) (w:World) (hn:2≤n) (hnb:n≤140737488351232) (hc0:w.cell? ⟨b,o,none⟩=some (.int .u8 c.toNat)) (hc1:w.cell? ⟨b,o+1,none⟩=some (.int .u8 d.toNat)) (hc:n≤cap) :
  Calls Tryz.prog 173 #[.slice (some ⟨b,o,none⟩) n cap] w fun e w'=>e=.returned (.int .i64 (qaE (c :: d :: t)))∧w=w':=by
 have hcv:=run_convert_bytes_back (P:=Tryz.prog) w 22 9 5 ⟨b,o,none⟩ cap [c,d] Tryz.underlying22 Tryz.underlying5 Tryz.underlying9 (fun j hj=>by
  have hj2:j=0∨j=1:=by simp at hj;omega
  rcases hj2 with rfl|rfl
  ·simpa [Addr.add] using hc0
  ·simpa [Addr.add] using hc1)
 obtain⟨s,hs⟩:∃ s:ByteArray,s=⟨[c,d].toArray⟩:=⟨_,rfl⟩
 rw[← hs] at hcv;have hl:s.toList=[c,d]:=by rw[hs,ByteArray.toList_mk]
 have f (x y:UInt8):(s.toList==[x,y])=(c==x && d==y):=by rw[hl];simp[List.beq_eq_isEqv,List.isEqv]
 have ht:qaP c d=(s.toList==[61,61] || s.toList==[33,61] || s.toList==[60,61] || s.toList==[62,61] || s.toList==[38,38] || s.toList==[124,124] || s.toList==[45,62]):=by
  unfold qaP;rw[f,f,f,f,f,f,f]
 have HT:=hid ht;have hI:=hid (qrC c w);have hmi:=qnN c;have hge:=Lib.indexByte_ge qd3 c;have hsz:([c,d]:List UInt8).length=2:=rfl;have hmn:min (2:Int) (n:Int)=2:=by omega
 rw[hsz] at hcv;clear f hl hs ht;have fin:∀ k:Int,k=(qaE (c :: d :: t):Nat)→Ending.returned (.int .i64 k)=.returned (.int .i64 (qaE (c :: d :: t):Nat)):=fun k h=>by rw[h]
 have FIN:=hid fin;clear fin;cases f1:(s.toList==[61,61])
 case true =>
  go_enter Tryz.func173,Tryz.ntmps173;go_wp2;go_ret;exact⟨FIN.out 2 (by simp[qaE,HT.out,f1]),rfl⟩
 cases f2:(s.toList==[33,61])
 case true =>
  go_enter Tryz.func173,Tryz.ntmps173;go_wp2;go_ret;exact⟨FIN.out 2 (by simp[qaE,HT.out,f2]),rfl⟩
 cases f3:(s.toList==[60,61])
 case true =>
  go_enter Tryz.func173,Tryz.ntmps173;go_wp2;go_ret;exact⟨FIN.out 2 (by simp[qaE,HT.out,f3]),rfl⟩
 cases f4:(s.toList==[62,61])
 case true =>
  go_enter Tryz.func173,Tryz.ntmps173;go_wp2;go_ret;exact⟨FIN.out 2 (by simp[qaE,HT.out,f4]),rfl⟩
 cases f5:(s.toList==[38,38])
 case true =>
  go_enter Tryz.func173,Tryz.ntmps173;go_wp2;go_ret;exact⟨FIN.out 2 (by simp[qaE,HT.out,f5]),rfl⟩
 cases f6:(s.toList==[124,124])
 case true =>
  go_enter Tryz.func173,Tryz.ntmps173;go_wp2;go_ret;exact⟨FIN.out 2 (by simp[qaE,HT.out,f6]),rfl⟩
 cases f7:(s.toList==[45,62])
 case true =>
  go_enter Tryz.func173,Tryz.ntmps173;go_wp2;go_ret;exact⟨FIN.out 2 (by simp[qaE,HT.out,f7]),rfl⟩
 cases ho:qb7 c
 ·have hz:decide ((0:Int)≤Lib.indexByte qd3 c)=false:=by rw[ho] at hmi;exact hmi
  have HO:=hid ho;clear ho hmi;go_enter Tryz.func173,Tryz.ntmps173;go_wp2_with (go_at_call 193;refine hI.out.mono ?_;rintro e w' ⟨rfl,rfl⟩);go_ret;exact⟨FIN.out 0 (by simp[qaE,HT.out,HO.out,f1,f2,f3,f4,f5,f6,f7]),rfl⟩
 ·have hz:decide ((0:Int)≤Lib.indexByte qd3 c)=true:=by rw[ho] at hmi;exact hmi
  have HO:=hid ho;clear ho hmi;go_enter Tryz.func173,Tryz.ntmps173;go_wp2_with (go_at_call 193;refine hI.out.mono ?_;rintro e w' ⟨rfl,rfl⟩);go_ret;exact⟨FIN.out 1 (by simp[qaE,HT.out,HO.out,f1,f2,f3,f4,f5,f6,f7]),rfl⟩
theorem qrF (a:Option Addr) (n cap:Nat) (r:List UInt8) (w:World) (ht:Txt w a n cap r) (h0:0<n) (hb:n≤140737488351232) :
  Calls Tryz.prog 173 #[.slice a n cap] w fun e w'=>e=.returned (.int .i64 (qaE r))∧w=w':=by
 obtain⟨hl,hnc,hm,h4⟩:=ht;rcases h4 with ⟨_,h5,_⟩|⟨x,rfl,hx⟩
 ·omega
 ·obtain⟨b,o,s⟩:=x;obtain⟨rfl,hc⟩:=hx.spot (by omega)
  match r,hl,hc with
  | [],hl,_=>simp at hl;omega
  | [c],hl,hc =>
   obtain rfl:n=1:=by simpa using hl.symm
   exact qrE b o cap c w (hc 0 (by simp)) hnc
  | c :: d :: t,hl,hc=>exact qrD b o n cap c d t w (by simp at hl;omega) hb (hc 0 (by simp)) (hc 1 (by simp)) hnc
set_option maxHeartbeats 1000000
theorem qiV (c:UInt8) (w:World):Calls Tryz.prog 201 #[.int .u8 c.toNat] w fun e w'=>e=.returned (.bool (qfL c))∧w=w':=qtD c w
theorem qgZ (c:UInt8) (w:World) :
  Calls Tryz.prog 193 #[.string ⟨#[48,49,50,51,52,53,54,55,56,57,97,98,99,100,101,102]⟩,.int .u8 c.toNat] w fun e w'=>e=.returned (.int .i64 (qtE c))∧w=w' :=
 (Tryz.strings_IndexByte ⟨#[48,49,50,51,52,53,54,55,56,57,97,98,99,100,101,102]⟩ c.toNat w).mono fun e w' ⟨he,hw⟩=>⟨by rw[he,← q1V];simp[jcW],hw.symm⟩
theorem q8S:∀ h:Nat,h<16→∀ k:Nat,k<16→bits .or .i64 ((h:Int) * 16) (k:Int)=16 * (h:Int)+(k:Int):=by decide +kernel
theorem jbG (h k:Nat) (hh:h<16) (hk:k<16):bits .or .i64 ((h:Int) * 16) (k:Int)=16 * (h:Int)+(k:Int):=q8S h hh k hk
theorem q0O {l:List UInt8} {h k:Nat} {q:UInt8} (h92:bAt l 0=92) (g120:bAt l 1=120) (h2:qeS (bAt l 2)=some h) (h3:qeS (bAt l 3)=some k) (hq:q=UInt8.ofNat (16 * h+k)):qaQ l=if qfL q=true then (0,0) else (q,4):=by
 unfold qaQ;rw[if_neg (fun e=>e.1 h92),if_neg (by rw[g120];exact fun e=>absurd e.2 (by decide)),if_pos ⟨h92,g120⟩,h2,h3,hq]
theorem quS (a:Option Addr) (n cap:Nat) (l:List UInt8) (w:World) (ht:Txt w a n cap l) :
  Calls Tryz.prog 179 #[.slice a n cap] w fun e w'=>e=.returned (.tuple #[.int .u8 (qaQ l).1.toNat,.int .i64 (qaQ l).2])∧w=w':=by
 have HT:=hid ht;clear ht;by_cases h92:bAt l 0=92
 ·have ef0_92:(((bAt l 0).toNat:Int)==92)=true:=by rw[h92];rfl
  have nf0_92:(((bAt l 0).toNat:Int) != 92)=false:=by rw[h92];rfl
  have ef0_34:(((bAt l 0).toNat:Int)==34)=false:=qeR (d:=34) (show bAt l 0≠34 by rw[h92];decide);have nf0_34:(((bAt l 0).toNat:Int) != 34)=true:=qe8 (d:=34) (show bAt l 0≠34 by rw[h92];decide);by_cases g34:bAt l 1=34
  ·have ef1_34:(((bAt l 1).toNat:Int)==34)=true:=by rw[g34];rfl
   have nf1_34:(((bAt l 1).toNat:Int) != 34)=false:=by rw[g34];rfl
   have FIN:=hid (show Ending.returned (.tuple #[.int .u8 (bAt l 1).toNat,.int .i64 2])=Ending.returned (.tuple #[.int .u8 (qaQ l).1.toNat,.int .i64 (qaQ l).2]) from by
    unfold qaQ;simp[h92,g34])
   clear h92 g34;go_enter Tryz.func179,Tryz.ntmps179;go_wp2_with (first|(go_at_call 152;first|((with_reducible refine(qa3 _ n cap 0 0 rfl l _ HT.out).mono ?_);rintro e w' ⟨rfl,rfl⟩)|((with_reducible refine(qa3 _ n cap 1 1 rfl l _ HT.out).mono ?_);rintro e w' ⟨rfl,rfl⟩)|((with_reducible refine(qa3 _ n cap 2 2 rfl l _ HT.out).mono ?_);rintro e w' ⟨rfl,rfl⟩)|((with_reducible refine(qa3 _ n cap 3 3 rfl l _ HT.out).mono ?_);rintro e w' ⟨rfl,rfl⟩)))
   go_ret2
   exact⟨FIN.out,rfl⟩
  ·by_cases g92:bAt l 1=92
   ·have ef1_34:(((bAt l 1).toNat:Int)==34)=false:=qeR (d:=34) g34;have nf1_34:(((bAt l 1).toNat:Int) != 34)=true:=qe8 (d:=34) g34;have ef1_92:(((bAt l 1).toNat:Int)==92)=true:=by rw[g92];rfl
    have nf1_92:(((bAt l 1).toNat:Int) != 92)=false:=by rw[g92];rfl
    have FIN:=hid (show Ending.returned (.tuple #[.int .u8 (bAt l 1).toNat,.int .i64 2])=Ending.returned (.tuple #[.int .u8 (qaQ l).1.toNat,.int .i64 (qaQ l).2]) from by
     unfold qaQ;simp[h92,g92])
    clear h92 g34 g92;go_enter Tryz.func179,Tryz.ntmps179;go_wp2_with (first|(go_at_call 152;first|((with_reducible refine(qa3 _ n cap 0 0 rfl l _ HT.out).mono ?_);rintro e w' ⟨rfl,rfl⟩)|((with_reducible refine(qa3 _ n cap 1 1 rfl l _ HT.out).mono ?_);rintro e w' ⟨rfl,rfl⟩)|((with_reducible refine(qa3 _ n cap 2 2 rfl l _ HT.out).mono ?_);rintro e w' ⟨rfl,rfl⟩)|((with_reducible refine(qa3 _ n cap 3 3 rfl l _ HT.out).mono ?_);rintro e w' ⟨rfl,rfl⟩)))
    go_ret2
    exact⟨FIN.out,rfl⟩
   ·by_cases g120:bAt l 1=120
    ·have ef1_34:(((bAt l 1).toNat:Int)==34)=false:=qeR (d:=34) g34;have nf1_34:(((bAt l 1).toNat:Int) != 34)=true:=qe8 (d:=34) g34;have ef1_92:(((bAt l 1).toNat:Int)==92)=false:=qeR (d:=92) g92;have nf1_92:(((bAt l 1).toNat:Int) != 92)=true:=qe8 (d:=92) g92;have ef1_120:(((bAt l 1).toNat:Int)==120)=true:=by rw[g120];rfl
     have nf1_120:(((bAt l 1).toNat:Int) != 120)=false:=by rw[g120];rfl
     cases h2:qeS (bAt l 2) with
     | none =>
      have FIN:=hid (show Ending.returned (.tuple #[.int .u8 0,.int .i64 0])=Ending.returned (.tuple #[.int .u8 (qaQ l).1.toNat,.int .i64 (qaQ l).2]) from by
       unfold qaQ;simp[h92,g120,h2])
      have H2:Hid (qtE (bAt l 2)=-1):=by unfold qtE;rw[h2];rfl
      obtain⟨z,hz⟩:∃ z,qtE (bAt l 3)=z:=⟨_,rfl⟩
      have hzl:=q8T (bAt l 3);rw[hz] at hzl;have H3:=hid hz;clear h92 g34 g92 g120 h2 hz;go_enter Tryz.func179,Tryz.ntmps179;go_wp2_with (first|(go_at_call 152;first|((with_reducible refine(qa3 _ n cap 0 0 rfl l _ HT.out).mono ?_);rintro e w' ⟨rfl,rfl⟩)|((with_reducible refine(qa3 _ n cap 1 1 rfl l _ HT.out).mono ?_);rintro e w' ⟨rfl,rfl⟩)|((with_reducible refine(qa3 _ n cap 2 2 rfl l _ HT.out).mono ?_);rintro e w' ⟨rfl,rfl⟩)|((with_reducible refine(qa3 _ n cap 3 3 rfl l _ HT.out).mono ?_);rintro e w' ⟨rfl,rfl⟩))|(go_at_call 193;first|((with_reducible refine(qgZ (bAt l 2) _).mono ?_);rintro e w' ⟨rfl,rfl⟩;rw[H2.out])|((with_reducible refine(qgZ (bAt l 3) _).mono ?_);rintro e w' ⟨rfl,rfl⟩;rw[H3.out])))
      go_ret2
      exact⟨FIN.out,rfl⟩
     | some h =>
      have hh:=qh0 h2;have H2:Hid (qtE (bAt l 2)=(h:Int)):=by unfold qtE;rw[h2];rfl
      cases h3:qeS (bAt l 3) with
      | none =>
       have FIN:=hid (show Ending.returned (.tuple #[.int .u8 0,.int .i64 0])=Ending.returned (.tuple #[.int .u8 (qaQ l).1.toNat,.int .i64 (qaQ l).2]) from by
        unfold qaQ;simp[h92,g120,h2,h3])
       have H3:Hid (qtE (bAt l 3)=-1):=by unfold qtE;rw[h3];rfl
       clear h92 g34 g92 g120 h2 h3;go_enter Tryz.func179,Tryz.ntmps179;go_wp2_with (first|(go_at_call 152;first|((with_reducible refine(qa3 _ n cap 0 0 rfl l _ HT.out).mono ?_);rintro e w' ⟨rfl,rfl⟩)|((with_reducible refine(qa3 _ n cap 1 1 rfl l _ HT.out).mono ?_);rintro e w' ⟨rfl,rfl⟩)|((with_reducible refine(qa3 _ n cap 2 2 rfl l _ HT.out).mono ?_);rintro e w' ⟨rfl,rfl⟩)|((with_reducible refine(qa3 _ n cap 3 3 rfl l _ HT.out).mono ?_);rintro e w' ⟨rfl,rfl⟩))|(go_at_call 193;first|((with_reducible refine(qgZ (bAt l 2) _).mono ?_);rintro e w' ⟨rfl,rfl⟩;rw[H2.out])|((with_reducible refine(qgZ (bAt l 3) _).mono ?_);rintro e w' ⟨rfl,rfl⟩;rw[H3.out])))
       go_ret2
       exact⟨FIN.out,rfl⟩
      | some k =>
       have hk:=qh0 h3;have H3:Hid (qtE (bAt l 3)=(k:Int)):=by unfold qtE;rw[h3];rfl
       have hor:=jbG h k hh hk;obtain⟨q,hq⟩:∃ q,q=UInt8.ofNat (16 * h+k):=⟨_,rfl⟩
       have hpf:=q0O h92 g120 h2 h3 hq;have hqn:IntKind.u8.wrap (16 * (h:Int)+(k:Int))=(q.toNat:Int):=by rw[hq,IntWalk.u8_in _ (by omega)];simp;omega
       cases hp:qfL q
       ·have FIN:=hid (show Ending.returned (.tuple #[.int .u8 q.toNat,.int .i64 4])=Ending.returned (.tuple #[.int .u8 (qaQ l).1.toNat,.int .i64 (qaQ l).2]) from by
         rw[hpf,hp];rfl)
        have HP:=hid hp;clear h92 g34 g92 g120 h2 h3 hp hq hpf;go_enter Tryz.func179,Tryz.ntmps179;go_wp2_with (first|(go_at_call 152;first|((with_reducible refine(qa3 _ n cap 0 0 rfl l _ HT.out).mono ?_);rintro e w' ⟨rfl,rfl⟩)|((with_reducible refine(qa3 _ n cap 1 1 rfl l _ HT.out).mono ?_);rintro e w' ⟨rfl,rfl⟩)|((with_reducible refine(qa3 _ n cap 2 2 rfl l _ HT.out).mono ?_);rintro e w' ⟨rfl,rfl⟩)|((with_reducible refine(qa3 _ n cap 3 3 rfl l _ HT.out).mono ?_);rintro e w' ⟨rfl,rfl⟩))|(go_at_call 193;first|((with_reducible refine(qgZ (bAt l 2) _).mono ?_);rintro e w' ⟨rfl,rfl⟩;rw[H2.out])|((with_reducible refine(qgZ (bAt l 3) _).mono ?_);rintro e w' ⟨rfl,rfl⟩;rw[H3.out]))|(go_at_call 201;((with_reducible refine(qiV q _).mono ?_);rintro e w' ⟨rfl,rfl⟩;rw[HP.out])))
        go_ret2
        exact⟨FIN.out,rfl⟩
       ·have FIN:=hid (show Ending.returned (.tuple #[.int .u8 0,.int .i64 0])=Ending.returned (.tuple #[.int .u8 (qaQ l).1.toNat,.int .i64 (qaQ l).2]) from by
         rw[hpf,hp];rfl)
        have HP:=hid hp;clear h92 g34 g92 g120 h2 h3 hp hq hpf;go_enter Tryz.func179,Tryz.ntmps179;go_wp2_with (first|(go_at_call 152;first|((with_reducible refine(qa3 _ n cap 0 0 rfl l _ HT.out).mono ?_);rintro e w' ⟨rfl,rfl⟩)|((with_reducible refine(qa3 _ n cap 1 1 rfl l _ HT.out).mono ?_);rintro e w' ⟨rfl,rfl⟩)|((with_reducible refine(qa3 _ n cap 2 2 rfl l _ HT.out).mono ?_);rintro e w' ⟨rfl,rfl⟩)|((with_reducible refine(qa3 _ n cap 3 3 rfl l _ HT.out).mono ?_);rintro e w' ⟨rfl,rfl⟩))|(go_at_call 193;first|((with_reducible refine(qgZ (bAt l 2) _).mono ?_);rintro e w' ⟨rfl,rfl⟩;rw[H2.out])|((with_reducible refine(qgZ (bAt l 3) _).mono ?_);rintro e w' ⟨rfl,rfl⟩;rw[H3.out]))|(go_at_call 201;((with_reducible refine(qiV q _).mono ?_);rintro e w' ⟨rfl,rfl⟩;rw[HP.out])))
        go_ret2
        exact⟨FIN.out,rfl⟩
    ·have ef1_34:(((bAt l 1).toNat:Int)==34)=false:=qeR (d:=34) g34;have nf1_34:(((bAt l 1).toNat:Int) != 34)=true:=qe8 (d:=34) g34;have ef1_92:(((bAt l 1).toNat:Int)==92)=false:=qeR (d:=92) g92;have nf1_92:(((bAt l 1).toNat:Int) != 92)=true:=qe8 (d:=92) g92;have ef1_120:(((bAt l 1).toNat:Int)==120)=false:=qeR (d:=120) g120;have nf1_120:(((bAt l 1).toNat:Int) != 120)=true:=qe8 (d:=120) g120;have FIN:=hid (show Ending.returned (.tuple #[.int .u8 0,.int .i64 0])=Ending.returned (.tuple #[.int .u8 (qaQ l).1.toNat,.int .i64 (qaQ l).2]) from by
      unfold qaQ;simp[h92,g34,g92,g120])
     clear h92 g34 g92 g120;go_enter Tryz.func179,Tryz.ntmps179;go_wp2_with (first|(go_at_call 152;first|((with_reducible refine(qa3 _ n cap 0 0 rfl l _ HT.out).mono ?_);rintro e w' ⟨rfl,rfl⟩)|((with_reducible refine(qa3 _ n cap 1 1 rfl l _ HT.out).mono ?_);rintro e w' ⟨rfl,rfl⟩)|((with_reducible refine(qa3 _ n cap 2 2 rfl l _ HT.out).mono ?_);rintro e w' ⟨rfl,rfl⟩)|((with_reducible refine(qa3 _ n cap 3 3 rfl l _ HT.out).mono ?_);rintro e w' ⟨rfl,rfl⟩)))
     go_ret2
     exact⟨FIN.out,rfl⟩
 ·have ef0_92:(((bAt l 0).toNat:Int)==92)=false:=qeR (d:=92) h92;have nf0_92:(((bAt l 0).toNat:Int) != 92)=true:=qe8 (d:=92) h92;by_cases h34:bAt l 0=34
  ·have ef0_34:(((bAt l 0).toNat:Int)==34)=true:=by rw[h34];rfl
   have nf0_34:(((bAt l 0).toNat:Int) != 34)=false:=by rw[h34];rfl
   have FIN:=hid (show Ending.returned (.tuple #[.int .u8 0,.int .i64 0])=Ending.returned (.tuple #[.int .u8 (qaQ l).1.toNat,.int .i64 (qaQ l).2]) from by
    unfold qaQ;simp[h92,h34])
   clear h92 h34;go_enter Tryz.func179,Tryz.ntmps179;go_wp2_with (first|(go_at_call 152;first|((with_reducible refine(qa3 _ n cap 0 0 rfl l _ HT.out).mono ?_);rintro e w' ⟨rfl,rfl⟩)|((with_reducible refine(qa3 _ n cap 1 1 rfl l _ HT.out).mono ?_);rintro e w' ⟨rfl,rfl⟩)|((with_reducible refine(qa3 _ n cap 2 2 rfl l _ HT.out).mono ?_);rintro e w' ⟨rfl,rfl⟩)|((with_reducible refine(qa3 _ n cap 3 3 rfl l _ HT.out).mono ?_);rintro e w' ⟨rfl,rfl⟩)))
   go_ret2
   exact⟨FIN.out,rfl⟩
  ·have ef0_34:(((bAt l 0).toNat:Int)==34)=false:=qeR (d:=34) h34;have nf0_34:(((bAt l 0).toNat:Int) != 34)=true:=qe8 (d:=34) h34;cases hp:qfL (bAt l 0)
   ·have FIN:=hid (show Ending.returned (.tuple #[.int .u8 0,.int .i64 0])=Ending.returned (.tuple #[.int .u8 (qaQ l).1.toNat,.int .i64 (qaQ l).2]) from by
     unfold qaQ;simp[h92,h34,hp])
    have HP:=hid hp;clear h92 h34 hp;go_enter Tryz.func179,Tryz.ntmps179;go_wp2_with (first|(go_at_call 152;first|((with_reducible refine(qa3 _ n cap 0 0 rfl l _ HT.out).mono ?_);rintro e w' ⟨rfl,rfl⟩)|((with_reducible refine(qa3 _ n cap 1 1 rfl l _ HT.out).mono ?_);rintro e w' ⟨rfl,rfl⟩)|((with_reducible refine(qa3 _ n cap 2 2 rfl l _ HT.out).mono ?_);rintro e w' ⟨rfl,rfl⟩)|((with_reducible refine(qa3 _ n cap 3 3 rfl l _ HT.out).mono ?_);rintro e w' ⟨rfl,rfl⟩))|(go_at_call 201;((with_reducible refine(qiV (bAt l 0) _).mono ?_);rintro e w' ⟨rfl,rfl⟩;rw[HP.out])))
    go_ret2
    exact⟨FIN.out,rfl⟩
   ·have FIN:=hid (show Ending.returned (.tuple #[.int .u8 (bAt l 0).toNat,.int .i64 1])=Ending.returned (.tuple #[.int .u8 (qaQ l).1.toNat,.int .i64 (qaQ l).2]) from by
     unfold qaQ;simp[h92,h34,hp])
    have HP:=hid hp;clear h92 h34 hp;go_enter Tryz.func179,Tryz.ntmps179;go_wp2_with (first|(go_at_call 152;first|((with_reducible refine(qa3 _ n cap 0 0 rfl l _ HT.out).mono ?_);rintro e w' ⟨rfl,rfl⟩)|((with_reducible refine(qa3 _ n cap 1 1 rfl l _ HT.out).mono ?_);rintro e w' ⟨rfl,rfl⟩)|((with_reducible refine(qa3 _ n cap 2 2 rfl l _ HT.out).mono ?_);rintro e w' ⟨rfl,rfl⟩)|((with_reducible refine(qa3 _ n cap 3 3 rfl l _ HT.out).mono ?_);rintro e w' ⟨rfl,rfl⟩))|(go_at_call 201;((with_reducible refine(qiV (bAt l 0) _).mono ?_);rintro e w' ⟨rfl,rfl⟩;rw[HP.out])))
    go_ret2
    exact⟨FIN.out,rfl⟩
def jb4:Value→Nat
 | .slice _ n _=>n
 | _=>0
def qu0:Option (List UInt8)→Value
 | some s=>.tuple #[.string ⟨s.toArray⟩,.int .i64 0]
 | none=>.tuple #[.string ⟨#[]⟩,.int .i64 11]
def q7B (w:World) (l:List UInt8) (said rest:Value) (wr:World):Prop :=
 ∃ (sa ra:Option Addr) (sc m c f:Nat) (acc r:List UInt8),said=.slice sa acc.length sc∧rest=.slice ra m c∧Txt w ra m c r∧wr.ownsRow w.heap.size 5 1 (.slice sa acc.length sc) acc.length (u8s acc)∧Below w.heap.size w wr ∧
  r.length<f∧acc.length+r.length≤l.length∧qu1 (l.length+1) (l.drop 1)=(qu1 f r).map (acc ++ ·)
theorem qsG (a:Option Addr) (n cap:Nat) (l:List UInt8) (w:World) (ht:Txt w a n cap l) (hn:0<n) (hb:n≤1048576) :
  Calls Tryz.prog 150 #[.slice a n cap] w fun e w'=>e=.returned (qu0 (qbX l))∧Below w.heap.size w w':=by
 obtain⟨i0,hi,hz0,hz1,hz2⟩:=info_parts q6W;have hl:=ht.1;obtain⟨a1,hs1,ht1⟩:=qn4 1 ht hn;have hs1':(Instr.slice 22 (.slice a n cap) (some (.int .i64 1)) none none).run Tryz.prog w=.ok (.slice a1 (n-1) (cap-1)) w:=hs1 w;have HT1:=hid ht1;clear ht1 hs1 ht;go_enter Tryz.func150,Tryz.ntmps150;go_wp2
 go_loopw [4,5] (fun said rest wr=>q7B w l said rest wr) (fun _ rest _=>jb4 rest)
 case atStart =>
  refine⟨none,a1,0,n-1,cap-1,l.length+1,[],l.drop 1,rfl,rfl,HT1.out,World.ownsRow_nil _ _ _ _,Below.refl _ _,by simp;omega,by simp,?_⟩;simp
 case round =>
  obtain⟨sa,ra,sc,m,c,f,acc,r,rfl,rfl,htr,hown,hbel,hf,hal,hu⟩:=hrel;have hz:=hbel.size;have hrl:=htr.1;obtain⟨f',rfl⟩:∃ f',f=f'+1:=⟨f-1,by omega⟩
  have HO:=hid hown;have HB:=hid hbel;have HU:=hid hu;have HTR:=hid htr;have htw:=htr.below hbel (Nat.le_refl _);have hcv:=qhV htw;have HTW:=hid htw;obtain⟨s,hs⟩:∃ s:ByteArray,s=⟨r.toArray⟩:=⟨_,rfl⟩
  rw[← hs] at hcv;have hsl:s.toList=r:=by rw[hs,ByteArray.toList_mk]
  clear hown hbel hu htr htw hs;by_cases hq:r=[34]
  ·have e1:(s.toList==[34])=true:=by rw[hsl,hq];rfl
   have e2:(s.toList != [34])=false:=by rw[hsl,hq];rfl
   have HQ:=hid hq;have htx:=qd0 HO.out;have hcv2:=qhV htx;have hun:qbX l=if acc.length≤256 then some acc else none:=by
    unfold qbX;rw[HU.out,qu1,if_pos HQ.out];simp
   have HUN:=hid hun;clear hsl hq htx hun;by_cases h256:acc.length≤256
   ·go_wp2
    go_ret2
    exact⟨by rw[HUN.out,if_pos h256];rfl,HB.out⟩
   ·go_wp2
    go_ret2
    exact⟨by rw[HUN.out,if_neg h256];rfl,HB.out⟩
  ·have e1:(s.toList==[34])=false:=by rw[hsl];exact beq_eq_false_iff_ne.2 hq
   have e2:(s.toList != [34])=true:=by rw[hsl];exact bne_iff_ne.2 hq
   have HQ:=hid hq;clear hsl hq;by_cases h0:(qaQ r).2=0
   ·have hun:qbX l=none:=by
     unfold qbX;rw[HU.out,qu1,if_neg HQ.out,if_pos h0];rfl
    have HUN:=hid hun;have z1:(((qaQ r).2:Int)==0)=true:=by rw[h0];rfl
    have z2:((qaQ r).2==0)=true:=by rw[h0];rfl
    clear hun h0;go_wp2_with (go_at_call 179;refine(quS _ _ _ r _ HTW.out).mono ?_;rintro e w' ⟨rfl,rfl⟩)
    go_ret2
    exact⟨by rw[HUN.out];rfl,HB.out⟩
   ·have hle:=(quT r).1;have hpos:0<(qaQ r).2:=by omega
    have z1:(((qaQ r).2:Int)==0)=false:=by rw[beq_eq_false_iff_ne];omega
    have z2:((qaQ r).2==0)=false:=by rw[beq_eq_false_iff_ne];exact h0
    obtain⟨a2,hs2,ht2⟩:=qn4 (qaQ r).2 HTR.out (by omega);have HS2:=hid hs2;have HT2:=hid ht2;clear hs2 ht2;go_wp2_with (first|(go_at_call 179;refine(quS _ _ _ r _ HTW.out).mono ?_;rintro e w' ⟨rfl,rfl⟩)|(at_builtin;refine wpList_append_own _ rfl _ _ 22 rfl w.heap.size 5 i0 (.int .u8 0) 1 1 Tryz.underlying22 hi hz0 hz1 hz2 rfl (by decide) _ _ _ rfl (HO.out.alloc _) ⟨wr.heap.size,0,none⟩ 1 1 (u8s [(qaQ r).1]) rfl rfl (qy9 _ _ _) (qhU _) (by unfold maxLen;omega) (by omega) (by simp;omega) ?_));intro v' w1 hown' hgrow _;obtain⟨g,c',rfl⟩:=ownsRow_succ hown';have hs3:=HS2.out w1;have hb1:Below w.heap.size w w1:=(HB.out.alloc hz _).grown hgrow (by simp;omega) (fun b hb=>(HO.out.lt b hb).1);have hown2:w1.ownsRow w.heap.size 5 1 (.slice (some ⟨g,0,none⟩) (acc++[(qaQ r).1]).length c') (acc++[(qaQ r).1]).length (u8s (acc++[(qaQ r).1])):=by
     rw[qf2,List.length_append];exact hown'
    have hR:q7B w l (.slice (some ⟨g,0,none⟩) (acc++[(qaQ r).1]).length c') (.slice a2 (m-(qaQ r).2) (c-(qaQ r).2)) w1:=by
     refine⟨_,a2,c',_,_,f',acc++[(qaQ r).1],r.drop (qaQ r).2,rfl,rfl,HT2.out,hown2,hb1,by simp;omega,by simp;omega,?_⟩;rw[HU.out,qu1,if_neg HQ.out,if_neg h0,Option.map_map]
     congr 1
     funext x
     simp
    have HR:=hid hR;clear hown' hgrow hb1 hown2 hR h0;go_wp2;go_roundw
    case rel=>simpa using HR.out
    case measure=>simp[jb4];omega
end Go.Proofs.YtenlhcgpajphhaaGreatDoor
