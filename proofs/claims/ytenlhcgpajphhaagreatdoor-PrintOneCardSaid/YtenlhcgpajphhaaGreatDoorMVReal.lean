import Derived.Test.YtenlhcgpajphhaaGreatDoorRealsPlain
import Derived.Test.YtenlhcgpajphhaaGreatDoorMWhole
import Derived.Laws.Bits64b
import Derived.Test.YtenlhcgpajphhaaGreatDoorRows
import Derived.Test.YtenlhcgpajphhaaGreatDoorMNextPlain
import Derived.Test.YtenlhcgpajphhaaGreatDoorMTextWalks
import Derived.Test.YtenlhcgpajphhaaGreatDoorMPiece
import Derived.WalkKit
import Derived.WalkSpells
import Derived.WalkLawsBesides
import Derived.Lib.Hide
import Derived.Laws.ResultCell
import Derived.Test.YtenlhcgpajphhaaGreatDoorMQuotePlain
namespace Go.Proofs.YtenlhcgpajphhaaGreatDoor
open Go.RowKit Go.Shelf
set_option maxRecDepth 100000
set_option linter.all false
theorem quC (b:Nat) (hb:b<18446744073709551616) (w:World):Calls Tryz.prog 211 #[.float .f64 b] w fun e w'=>e=.returned (.bool (decide (9223372036854775808≤b)))∧w=w':=by
 have h1:=qpK b;by_cases h:9223372036854775808≤b
 ·have e1:IntKind.i64.wrap (b:Int)=(b:Int)-18446744073709551616:=by rw[IntKind.wrap_i64];omega
  have d1:decide ((b:Int)-18446744073709551616<0)=true:=by rw[decide_eq_true_eq];omega
  have d2:decide (9223372036854775808≤b)=true:=by rw[decide_eq_true_eq];exact h
  have d3:(b:Int)<18446744073709551616:=by omega
  rw[d2];clear h hb d2;go_enter Tryz.func211,Tryz.ntmps211;go_wp2;go_ret;exact⟨rfl,rfl⟩
 ·have e1:IntKind.i64.wrap (b:Int)=(b:Int):=by rw[IntKind.wrap_i64];omega
  have d1:decide ((b:Int)<0)=false:=by rw[decide_eq_false_iff_not];omega
  have d2:decide (9223372036854775808≤b)=false:=by rw[decide_eq_false_iff_not];exact h
  rw[d2];clear h hb d2;go_enter Tryz.func211,Tryz.ntmps211;go_wp2;go_ret;exact⟨rfl,rfl⟩
open Lib(hid)
set_option maxHeartbeats 2000000
def qgK (kd iv:Int) (rl re im:Nat) (tx:ByteArray):Value:=.agg #[.int .i64 kd,.int .i64 iv,.float .f64 rl,.complex .f64 re im,.string tx]
def qkW (kd iv:Int) (tx:ByteArray):Bool:=if kd=1∨kd=2∨kd=3 then true else if kd=4 then decide (tx.size≤256) else if kd=5 then decide (iv=0∨iv=1) else false
theorem qp4 (kd iv:Int) (rl re im:Nat) (tx:ByteArray) (w:World) :
  Calls Tryz.prog 186 #[qgK kd iv rl re im tx] w fun e w'=>e=.returned (.bool (qkW kd iv tx))∧Below w.heap.size w w':=by
 unfold qgK;have hb:Below w.heap.size w (w.alloc (.cells #[.int .i64 kd,.int .i64 iv,.float .f64 rl,.complex .f64 re im,.string tx] 107)):=(Below.refl _ w).alloc (Nat.le_refl _) _;have HB:=hid hb;clear hb;by_cases h1:kd=1
 ·subst h1;go_enter Tryz.func186,Tryz.ntmps186;go_wp2_with fail;go_ret;exact⟨rfl,HB.out⟩
 by_cases h2:kd=2
 ·subst h2;clear h1;go_enter Tryz.func186,Tryz.ntmps186;go_wp2_with fail;go_ret;exact⟨rfl,HB.out⟩
 by_cases h3:kd=3
 ·subst h3;clear h1 h2;go_enter Tryz.func186,Tryz.ntmps186;go_wp2_with fail;go_ret;exact⟨rfl,HB.out⟩
 by_cases h4:kd=4
 ·subst h4;have hm:qkW 4 iv tx=decide (tx.size≤256):=rfl;rw[hm];cases hd:decide (tx.size≤256) with
  | true =>
   have t1:decide ((tx.size:Int)≤256)=true:=by rw[decide_eq_true_eq] at hd ⊢;omega
   clear h1 h2 h3 hm;go_enter Tryz.func186,Tryz.ntmps186;go_wp2_with fail;go_ret;exact⟨rfl,HB.out⟩
  | false =>
   have t1:decide ((tx.size:Int)≤256)=false:=by rw[decide_eq_false_iff_not] at hd ⊢;omega
   clear h1 h2 h3 hm;go_enter Tryz.func186,Tryz.ntmps186;go_wp2_with fail;go_ret;exact⟨rfl,HB.out⟩
 by_cases h5:kd=5
 ·subst h5;have hm:qkW 5 iv tx=decide (iv=0∨iv=1):=rfl;rw[hm];clear h1 h2 h3 h4 hm;by_cases i0:iv=0
  ·subst i0;go_enter Tryz.func186,Tryz.ntmps186;go_wp2_with fail;go_ret;exact⟨rfl,HB.out⟩
  ·by_cases i1:iv=1
   ·subst i1;clear i0;go_enter Tryz.func186,Tryz.ntmps186;go_wp2_with fail;go_ret;exact⟨rfl,HB.out⟩
   ·have t0:(iv==0)=false:=by simpa using i0
    have t1:(iv==1)=false:=by simpa using i1
    have hd:decide (iv=0∨iv=1)=false:=by simp[i0,i1]
    rw[hd];clear i0 i1 hd;go_enter Tryz.func186,Tryz.ntmps186;go_wp2_with fail;go_ret;exact⟨rfl,HB.out⟩
 ·have hm:qkW kd iv tx=false:=by unfold qkW;rw[if_neg (by omega),if_neg h4,if_neg h5]
  have t1:(kd==1)=false:=by simpa using h1
  have t2:(kd==2)=false:=by simpa using h2
  have t3:(kd==3)=false:=by simpa using h3
  have t4:(kd==4)=false:=by simpa using h4
  have t5:(kd==5)=false:=by simpa using h5
  rw[hm];clear hm h1 h2 h3 h4 h5;go_enter Tryz.func186,Tryz.ntmps186;go_wp2_with fail;go_ret;exact⟨rfl,HB.out⟩
end Go.Proofs.YtenlhcgpajphhaaGreatDoor
namespace Go.Proofs.YtenlhcgpajphhaaGreatDoor
open Go.RowKit
open Lib(hid)
set_option maxRecDepth 100000
set_option linter.all false
set_option maxHeartbeats 1000000
theorem q3V (a:Option Addr) (n cap i:Nat) (l:List UInt8) (w:World) (ht:Txt w a n cap l) (hn:n≤140737488351232) (hi:i≤n) :
  Calls Tryz.prog 146 #[.slice a n cap,.int .i64 i] w fun e w'=>e=.returned (.tuple #[.int .i64 (qaD l (i+qb8 false (l.drop i))).1,.int .i64 (i+qb8 false (l.drop i):Nat),.int .i64 (qaD l (i+qb8 false (l.drop i))).2])∧w=w':=by
 obtain⟨hl,hnc,hm,h4⟩:=id ht;rcases Nat.eq_zero_or_pos n with h0|h0
 ·subst h0;obtain rfl:l=[]:=List.eq_nil_of_length_eq_zero hl;obtain rfl:i=0:=by omega
  have FIN:Hid (Ending.returned (.tuple #[.int .i64 0,.int .i64 0,.int .i64 0])=Ending.returned (.tuple #[.int .i64 (qaD [] (0+qb8 false (([]:List UInt8).drop 0))).1,.int .i64 (0+qb8 false (([]:List UInt8).drop 0):Nat),.int .i64 (qaD [] (0+qb8 false (([]:List UInt8).drop 0))).2])):=by
   have:qaD [] (0+qb8 false (([]:List UInt8).drop 0))=(0,0):=by decide
   rw[this];rfl
  clear h4 hl ht hm;go_enter Tryz.func146,Tryz.ntmps146;go_wp2;go_step3;go_wp2;go_step3;go_wp2;rw[Exit.noGoto_ret]
  go_ret3
  exact⟨FIN.out,rfl⟩
 ·rcases h4 with ⟨_,h5,_⟩|⟨x,rfl,hx⟩
  ·omega
  ·obtain⟨b,o,s⟩:=x;obtain⟨rfl,_⟩:=hx.spot (by omega);exact qzH b o n cap i _ _ _ l w (fun a n cap r w h1 h2 h3=>qrF a n cap r w h1 h2 h3) h0 hl hnc hm hx hn ⟨by omega,rfl,rfl⟩
def qk6 (t:Tok):Value:=.agg #[.int .i64 t.kind,.string ⟨t.text.toArray⟩,.int .i64 t.int,.float .f64 t.real,.int .i64 t.at_,.int .i64 t.size]
theorem qbR {w W w4:World} {x0 x1 x2 x3 x4 x5 y0 y1 y2 y3 y4 y5:Value} {T:TypeId} (hb:Below W.heap.size W w4) (hW:W=(w.alloc (.cells #[x0,x1,x2,x3,x4,x5] T)).alloc (.cells #[y0,y1,y2,y3,y4,y5] T)) (hz:W.heap.size=w.heap.size+2) :
  ((w4.cell? ⟨w.heap.size,0,none⟩=some x0∧w4.cell? ⟨w.heap.size,1,none⟩=some x1∧w4.cell? ⟨w.heap.size,2,none⟩=some x2∧w4.cell? ⟨w.heap.size,3,none⟩=some x3∧w4.cell? ⟨w.heap.size,4,none⟩=some x4∧w4.cell? ⟨w.heap.size,5,none⟩=some x5) ∧
   w4.cell? ⟨w.heap.size+1,0,none⟩=some y0∧w4.cell? ⟨w.heap.size+1,1,none⟩=some y1∧w4.cell? ⟨w.heap.size+1,2,none⟩=some y2∧w4.cell? ⟨w.heap.size+1,3,none⟩=some y3∧w4.cell? ⟨w.heap.size+1,4,none⟩=some y4∧w4.cell? ⟨w.heap.size+1,5,none⟩=some y5) ∧
  ∀ b o,w.heap.size≤b→b<w.heap.size+2→w4.frozen? ⟨b,o,none⟩=false:=by
 have hc:∀ b o,b<w.heap.size+2→w4.cell? ⟨b,o,none⟩=W.cell? ⟨b,o,none⟩:=fun b o h=>hb.cell (p:=⟨b,o,none⟩) (by rw[hz];exact h);have hf:∀ b o,b<w.heap.size+2→w4.frozen? ⟨b,o,none⟩=W.frozen? ⟨b,o,none⟩:=fun b o h=>hb.frozen (p:=⟨b,o,none⟩) (by rw[hz];exact h);refine⟨⟨⟨?_,?_,?_,?_,?_,?_⟩,?_,?_,?_,?_,?_,?_⟩,?_⟩
 all_goals first|(rw[hc _ _ (by omega),hW];simp)|skip
 intro b o h1 h2;rw[hf _ _ h2,hW];rcases Nat.eq_or_lt_of_le h1 with rfl|h3
 ·simp
 ·obtain rfl:b=w.heap.size+1:=by omega
  simp
theorem qbC {B:Nat} {a w:World} (h:Below B a w) (v1 v2 v3 v4 v5 v6 v7:Value) {p1 p2 p3 p4 p5 p6 p7:Addr} (h1:B≤p1.block) (h2:B≤p2.block) (h3:B≤p3.block) (h4:B≤p4.block) (h5:B≤p5.block) (h6:B≤p6.block) (h7:B≤p7.block) :
  Below B a (((((((w.setCell p1 v1).setCell p2 v2).setCell p3 v3).setCell p4 v4).setCell p5 v5).setCell p6 v6).setCell p7 v7) :=
 ((((((h.setCell h1 _).setCell h2 _).setCell h3 _).setCell h4 _).setCell h5 _).setCell h6 _).setCell h7 _
theorem qr9 (a a2:Option Addr) (n cap i A E:Nat) (l:List UInt8) (w:World) (hn:n≤1048576) (hT:Txt w a n cap l)
  (hA:A≤n) (hAE:A≤E) (hE:E≤n) (hsp:∀ w',Below w.heap.size w w'→Calls Tryz.prog 146 #[.slice a n cap,.int .i64 i] w' fun e w''=>e=.returned (.tuple #[.int .i64 1,.int .i64 A,.int .i64 E])∧w'=w'')
  (hs2:∀ w',(Instr.slice 22 (.slice a n cap) (some (.int .i64 (A:Int))) (some (.int .i64 (E:Int))) none).run Tryz.prog w'=.ok (.slice a2 (E-A) (cap-A)) w') (x:ByteArray)
  (hC:∀ W,Below w.heap.size w W→Calls Tryz.prog 147 #[.slice a2 (E-A) (cap-A)] W fun e w'=>e=.returned (.tuple #[.string x,.int .i64 0])∧Below W.heap.size W w') :
  Calls Tryz.prog 131 #[.slice a n cap,.int .i64 i] w fun e w'=>e=.returned (.tuple #[.agg #[Value.int IntKind.i64 1,.string x,Value.int IntKind.i64 0,Value.float FloatKind.f64 0,Value.int IntKind.i64 ↑A,Value.int IntKind.i64 (↑E - ↑A)],.int .i64 0])∧Below w.heap.size w w':=by
 have HCC:=hid hC;clear hC;have sf:∀ (p:Addr) (b:Nat) (m:Mode) (w':World),(store p (.float .f64 b) m).run Tryz.prog w'=stored Tryz.prog w' p (.float .f64 b) m:=fun p b m w'=>run_store _ w' p _ m rfl;have HS:=hid hsp;have HT:=hid hT;clear hsp hT;go_enter Tryz.func131,Tryz.ntmps131;go_wp2_with fail;refine(HS.out _ ((Below.refl w.heap.size w).alloc (Nat.le_refl _) _)).mono ?_;rintro e w1 ⟨rfl,hw1⟩;subst hw1;go_wp2_with fail;obtain⟨W,hW⟩:∃ W,W=((w.alloc (Obj.cells #[Value.int IntKind.i64 0,Value.string { data:=#[] },Value.int IntKind.i64 0,Value.float FloatKind.f64 0,Value.int IntKind.i64 0,Value.int IntKind.i64 0] 158)).alloc (Obj.cells #[Value.int IntKind.i64 1,Value.string { data:=#[] },Value.int IntKind.i64 0,Value.float FloatKind.f64 0,Value.int IntKind.i64 ↑A,Value.int IntKind.i64 (↑E - ↑A)] 158)):=⟨_,rfl⟩
 rw[← hW];have hbW:Below w.heap.size w W:=by rw[hW];exact((Below.refl w.heap.size w).alloc (Nat.le_refl _) _).alloc (by simp) _
 have hWz:W.heap.size=w.heap.size+2:=by rw[hW];simp
 refine(HCC.out W hbW).mono ?_;rintro e w4 ⟨rfl,hb4⟩;have hz4:=hb4.size;rw[hWz] at hz4;obtain⟨hc4,hf4⟩:=qbR hb4 hW hWz;have hb04:Below w.heap.size w w4:=hbW.trans (hb4.mono (by omega));have HB04:=hid hb04;clear hb4 hW hbW hWz HCC HS hb04;go_wp2_with fail;refine bodyPost_ret (v:=.tuple #[.agg #[Value.int IntKind.i64 1,.string x,Value.int IntKind.i64 0,Value.float FloatKind.f64 0,Value.int IntKind.i64 ↑A,Value.int IntKind.i64 (↑E - ↑A)],.int .i64 0]) (by simp[results,Tryz.results131,go_sem,hc4]) rfl ⟨rfl,?_⟩;exact qbC HB04.out _ _ _ _ _ _ _ (by simp) (by simp) (by simp) (by simp) (by simp) (by simp) (by simp)
theorem qoX (a a2:Option Addr) (n cap i A E:Nat) (l:List UInt8) (w:World) (hn:n≤1048576) (hT:Txt w a n cap l)
  (hA:A≤n) (hAE:A≤E) (hE:E≤n) (hsp:∀ w',Below w.heap.size w w'→Calls Tryz.prog 146 #[.slice a n cap,.int .i64 i] w' fun e w''=>e=.returned (.tuple #[.int .i64 1,.int .i64 A,.int .i64 E])∧w'=w'')
  (hs2:∀ w',(Instr.slice 22 (.slice a n cap) (some (.int .i64 (A:Int))) (some (.int .i64 (E:Int))) none).run Tryz.prog w'=.ok (.slice a2 (E-A) (cap-A)) w') (x:ByteArray)
  (hC:∀ W,Below w.heap.size w W→Calls Tryz.prog 147 #[.slice a2 (E-A) (cap-A)] W fun e w'=>e=.returned (.tuple #[.string x,.int .i64 13])∧Below W.heap.size W w') :
  Calls Tryz.prog 131 #[.slice a n cap,.int .i64 i] w fun e w'=>e=.returned (.tuple #[.agg #[Value.int IntKind.i64 0,Value.string { data:=#[] },Value.int IntKind.i64 0,Value.float FloatKind.f64 0,Value.int IntKind.i64 ↑A,Value.int IntKind.i64 0],.int .i64 13])∧Below w.heap.size w w':=by
 have HCC:=hid hC;clear hC;have sf:∀ (p:Addr) (b:Nat) (m:Mode) (w':World),(store p (.float .f64 b) m).run Tryz.prog w'=stored Tryz.prog w' p (.float .f64 b) m:=fun p b m w'=>run_store _ w' p _ m rfl;have HS:=hid hsp;have HT:=hid hT;clear hsp hT;go_enter Tryz.func131,Tryz.ntmps131;go_wp2_with fail;refine(HS.out _ ((Below.refl w.heap.size w).alloc (Nat.le_refl _) _)).mono ?_;rintro e w1 ⟨rfl,hw1⟩;subst hw1;go_wp2_with fail;obtain⟨W,hW⟩:∃ W,W=((w.alloc (Obj.cells #[Value.int IntKind.i64 0,Value.string { data:=#[] },Value.int IntKind.i64 0,Value.float FloatKind.f64 0,Value.int IntKind.i64 0,Value.int IntKind.i64 0] 158)).alloc (Obj.cells #[Value.int IntKind.i64 1,Value.string { data:=#[] },Value.int IntKind.i64 0,Value.float FloatKind.f64 0,Value.int IntKind.i64 ↑A,Value.int IntKind.i64 (↑E - ↑A)] 158)):=⟨_,rfl⟩
 rw[← hW];have hbW:Below w.heap.size w W:=by rw[hW];exact((Below.refl w.heap.size w).alloc (Nat.le_refl _) _).alloc (by simp) _
 have hWz:W.heap.size=w.heap.size+2:=by rw[hW];simp
 refine(HCC.out W hbW).mono ?_;rintro e w4 ⟨rfl,hb4⟩;have hz4:=hb4.size;rw[hWz] at hz4;obtain⟨hc4,hf4⟩:=qbR hb4 hW hWz;have hb04:Below w.heap.size w w4:=hbW.trans (hb4.mono (by omega));have HB04:=hid hb04;clear hb4 hW hbW hWz HCC HS hb04;go_wp2_with fail;refine bodyPost_ret (v:=.tuple #[.agg #[Value.int IntKind.i64 0,Value.string { data:=#[] },Value.int IntKind.i64 0,Value.float FloatKind.f64 0,Value.int IntKind.i64 ↑A,Value.int IntKind.i64 0],.int .i64 13]) (by simp[results,Tryz.results131,go_sem,hc4]) rfl ⟨rfl,?_⟩;exact qbC HB04.out _ _ _ _ _ _ _ (by simp) (by simp) (by simp) (by simp) (by simp) (by simp) (by simp)
theorem qt4 (a a2:Option Addr) (n cap i A E:Nat) (l:List UInt8) (w:World) (hn:n≤1048576) (hT:Txt w a n cap l)
  (hA:A≤n) (hAE:A≤E) (hE:E≤n) (hsp:∀ w',Below w.heap.size w w'→Calls Tryz.prog 146 #[.slice a n cap,.int .i64 i] w' fun e w''=>e=.returned (.tuple #[.int .i64 2,.int .i64 A,.int .i64 E])∧w'=w'')
  (hs2:∀ w',(Instr.slice 22 (.slice a n cap) (some (.int .i64 (A:Int))) (some (.int .i64 (E:Int))) none).run Tryz.prog w'=.ok (.slice a2 (E-A) (cap-A)) w') (x:Int) (hw8:qaJ (bAt l E)=false)
  (hC:∀ W,Below w.heap.size w W→Calls Tryz.prog 148 #[.slice a2 (E-A) (cap-A)] W fun e w'=>e=.returned (.tuple #[.int .i64 x,.int .i64 0])∧Below W.heap.size W w') :
  Calls Tryz.prog 131 #[.slice a n cap,.int .i64 i] w fun e w'=>e=.returned (.tuple #[.agg #[Value.int IntKind.i64 2,Value.string { data:=#[] },.int .i64 x,Value.float FloatKind.f64 0,Value.int IntKind.i64 ↑A,Value.int IntKind.i64 (↑E - ↑A)],.int .i64 0])∧Below w.heap.size w w':=by
 have HCC:=hid hC;have HW8:=hid hw8;clear hC hw8;have sf:∀ (p:Addr) (b:Nat) (m:Mode) (w':World),(store p (.float .f64 b) m).run Tryz.prog w'=stored Tryz.prog w' p (.float .f64 b) m:=fun p b m w'=>run_store _ w' p _ m rfl;have HS:=hid hsp;have HT:=hid hT;clear hsp hT;go_enter Tryz.func131,Tryz.ntmps131;go_wp2_with fail;refine(HS.out _ ((Below.refl w.heap.size w).alloc (Nat.le_refl _) _)).mono ?_;rintro e w1 ⟨rfl,hw1⟩;subst hw1;go_wp2_with fail;obtain⟨W,hW⟩:∃ W,W=((w.alloc (Obj.cells #[Value.int IntKind.i64 0,Value.string { data:=#[] },Value.int IntKind.i64 0,Value.float FloatKind.f64 0,Value.int IntKind.i64 0,Value.int IntKind.i64 0] 158)).alloc (Obj.cells #[Value.int IntKind.i64 2,Value.string { data:=#[] },Value.int IntKind.i64 0,Value.float FloatKind.f64 0,Value.int IntKind.i64 ↑A,Value.int IntKind.i64 (↑E - ↑A)] 158)):=⟨_,rfl⟩
 rw[← hW];have hbW:Below w.heap.size w W:=by rw[hW];exact((Below.refl w.heap.size w).alloc (Nat.le_refl _) _).alloc (by simp) _
 have hWz:W.heap.size=w.heap.size+2:=by rw[hW];simp
 refine(HCC.out W hbW).mono ?_;rintro e w4 ⟨rfl,hb4⟩;have hz4:=hb4.size;rw[hWz] at hz4;obtain⟨hc4,hf4⟩:=qbR hb4 hW hWz;have hb04:Below w.heap.size w w4:=hbW.trans (hb4.mono (by omega));have HB04:=hid hb04;clear hb4 hW hbW hWz HCC HS hb04;go_wp2_with (first|(go_at_call 152;refine(qc8 _ n cap E l _ (HT.out.below (HB04.out.setCell (p:=⟨w.heap.size+1,2,none⟩) (by simp) _) (Nat.le_refl _))).mono ?_;rintro e w' ⟨rfl,rfl⟩)|(go_at_call 151;refine(qcT _ _).mono ?_;rintro e w' ⟨rfl,rfl⟩;rw[HW8.out]));refine bodyPost_ret (v:=.tuple #[.agg #[Value.int IntKind.i64 2,Value.string { data:=#[] },.int .i64 x,Value.float FloatKind.f64 0,Value.int IntKind.i64 ↑A,Value.int IntKind.i64 (↑E - ↑A)],.int .i64 0]) (by simp[results,Tryz.results131,go_sem,hc4]) rfl ⟨rfl,?_⟩;exact qbC HB04.out _ _ _ _ _ _ _ (by simp) (by simp) (by simp) (by simp) (by simp) (by simp) (by simp)
theorem qoY (a a2:Option Addr) (n cap i A E:Nat) (l:List UInt8) (w:World) (hn:n≤1048576) (hT:Txt w a n cap l)
  (hA:A≤n) (hAE:A≤E) (hE:E≤n) (hsp:∀ w',Below w.heap.size w w'→Calls Tryz.prog 146 #[.slice a n cap,.int .i64 i] w' fun e w''=>e=.returned (.tuple #[.int .i64 2,.int .i64 A,.int .i64 E])∧w'=w'')
  (hs2:∀ w',(Instr.slice 22 (.slice a n cap) (some (.int .i64 (A:Int))) (some (.int .i64 (E:Int))) none).run Tryz.prog w'=.ok (.slice a2 (E-A) (cap-A)) w') (x:Int) (hw8:qaJ (bAt l E)=true)
  (hC:∀ W,Below w.heap.size w W→Calls Tryz.prog 148 #[.slice a2 (E-A) (cap-A)] W fun e w'=>e=.returned (.tuple #[.int .i64 x,.int .i64 0])∧Below W.heap.size W w') :
  Calls Tryz.prog 131 #[.slice a n cap,.int .i64 i] w fun e w'=>e=.returned (.tuple #[.agg #[Value.int IntKind.i64 0,Value.string { data:=#[] },Value.int IntKind.i64 0,Value.float FloatKind.f64 0,Value.int IntKind.i64 ↑A,Value.int IntKind.i64 0],.int .i64 12])∧Below w.heap.size w w':=by
 have HCC:=hid hC;have HW8:=hid hw8;clear hC hw8;have sf:∀ (p:Addr) (b:Nat) (m:Mode) (w':World),(store p (.float .f64 b) m).run Tryz.prog w'=stored Tryz.prog w' p (.float .f64 b) m:=fun p b m w'=>run_store _ w' p _ m rfl;have HS:=hid hsp;have HT:=hid hT;clear hsp hT;go_enter Tryz.func131,Tryz.ntmps131;go_wp2_with fail;refine(HS.out _ ((Below.refl w.heap.size w).alloc (Nat.le_refl _) _)).mono ?_;rintro e w1 ⟨rfl,hw1⟩;subst hw1;go_wp2_with fail;obtain⟨W,hW⟩:∃ W,W=((w.alloc (Obj.cells #[Value.int IntKind.i64 0,Value.string { data:=#[] },Value.int IntKind.i64 0,Value.float FloatKind.f64 0,Value.int IntKind.i64 0,Value.int IntKind.i64 0] 158)).alloc (Obj.cells #[Value.int IntKind.i64 2,Value.string { data:=#[] },Value.int IntKind.i64 0,Value.float FloatKind.f64 0,Value.int IntKind.i64 ↑A,Value.int IntKind.i64 (↑E - ↑A)] 158)):=⟨_,rfl⟩
 rw[← hW];have hbW:Below w.heap.size w W:=by rw[hW];exact((Below.refl w.heap.size w).alloc (Nat.le_refl _) _).alloc (by simp) _
 have hWz:W.heap.size=w.heap.size+2:=by rw[hW];simp
 refine(HCC.out W hbW).mono ?_;rintro e w4 ⟨rfl,hb4⟩;have hz4:=hb4.size;rw[hWz] at hz4;obtain⟨hc4,hf4⟩:=qbR hb4 hW hWz;have hb04:Below w.heap.size w w4:=hbW.trans (hb4.mono (by omega));have HB04:=hid hb04;clear hb4 hW hbW hWz HCC HS hb04;go_wp2_with (first|(go_at_call 152;refine(qc8 _ n cap E l _ (HT.out.below (HB04.out.setCell (p:=⟨w.heap.size+1,2,none⟩) (by simp) _) (Nat.le_refl _))).mono ?_;rintro e w' ⟨rfl,rfl⟩)|(go_at_call 151;refine(qcT _ _).mono ?_;rintro e w' ⟨rfl,rfl⟩;rw[HW8.out]));refine bodyPost_ret (v:=.tuple #[.agg #[Value.int IntKind.i64 0,Value.string { data:=#[] },Value.int IntKind.i64 0,Value.float FloatKind.f64 0,Value.int IntKind.i64 ↑A,Value.int IntKind.i64 0],.int .i64 12]) (by simp[results,Tryz.results131,go_sem,hc4]) rfl ⟨rfl,?_⟩;exact qbC HB04.out _ _ _ _ _ _ _ (by simp) (by simp) (by simp) (by simp) (by simp) (by simp) (by simp)
theorem qrA (a a2:Option Addr) (n cap i A E:Nat) (l:List UInt8) (w:World) (hn:n≤1048576) (hT:Txt w a n cap l)
  (hA:A≤n) (hAE:A≤E) (hE:E≤n) (hsp:∀ w',Below w.heap.size w w'→Calls Tryz.prog 146 #[.slice a n cap,.int .i64 i] w' fun e w''=>e=.returned (.tuple #[.int .i64 2,.int .i64 A,.int .i64 E])∧w'=w'')
  (hs2:∀ w',(Instr.slice 22 (.slice a n cap) (some (.int .i64 (A:Int))) (some (.int .i64 (E:Int))) none).run Tryz.prog w'=.ok (.slice a2 (E-A) (cap-A)) w') (x:Int) (hw8:qaJ (bAt l E)=false)
  (hC:∀ W,Below w.heap.size w W→Calls Tryz.prog 148 #[.slice a2 (E-A) (cap-A)] W fun e w'=>e=.returned (.tuple #[.int .i64 x,.int .i64 12])∧Below W.heap.size W w') :
  Calls Tryz.prog 131 #[.slice a n cap,.int .i64 i] w fun e w'=>e=.returned (.tuple #[.agg #[Value.int IntKind.i64 0,Value.string { data:=#[] },Value.int IntKind.i64 0,Value.float FloatKind.f64 0,Value.int IntKind.i64 ↑A,Value.int IntKind.i64 0],.int .i64 12])∧Below w.heap.size w w':=by
 have HCC:=hid hC;have HW8:=hid hw8;clear hC hw8;have sf:∀ (p:Addr) (b:Nat) (m:Mode) (w':World),(store p (.float .f64 b) m).run Tryz.prog w'=stored Tryz.prog w' p (.float .f64 b) m:=fun p b m w'=>run_store _ w' p _ m rfl;have HS:=hid hsp;have HT:=hid hT;clear hsp hT;go_enter Tryz.func131,Tryz.ntmps131;go_wp2_with fail;refine(HS.out _ ((Below.refl w.heap.size w).alloc (Nat.le_refl _) _)).mono ?_;rintro e w1 ⟨rfl,hw1⟩;subst hw1;go_wp2_with fail;obtain⟨W,hW⟩:∃ W,W=((w.alloc (Obj.cells #[Value.int IntKind.i64 0,Value.string { data:=#[] },Value.int IntKind.i64 0,Value.float FloatKind.f64 0,Value.int IntKind.i64 0,Value.int IntKind.i64 0] 158)).alloc (Obj.cells #[Value.int IntKind.i64 2,Value.string { data:=#[] },Value.int IntKind.i64 0,Value.float FloatKind.f64 0,Value.int IntKind.i64 ↑A,Value.int IntKind.i64 (↑E - ↑A)] 158)):=⟨_,rfl⟩
 rw[← hW];have hbW:Below w.heap.size w W:=by rw[hW];exact((Below.refl w.heap.size w).alloc (Nat.le_refl _) _).alloc (by simp) _
 have hWz:W.heap.size=w.heap.size+2:=by rw[hW];simp
 refine(HCC.out W hbW).mono ?_;rintro e w4 ⟨rfl,hb4⟩;have hz4:=hb4.size;rw[hWz] at hz4;obtain⟨hc4,hf4⟩:=qbR hb4 hW hWz;have hb04:Below w.heap.size w w4:=hbW.trans (hb4.mono (by omega));have HB04:=hid hb04;clear hb4 hW hbW hWz HCC HS hb04;go_wp2_with (first|(go_at_call 152;refine(qc8 _ n cap E l _ (HT.out.below (HB04.out.setCell (p:=⟨w.heap.size+1,2,none⟩) (by simp) _) (Nat.le_refl _))).mono ?_;rintro e w' ⟨rfl,rfl⟩)|(go_at_call 151;refine(qcT _ _).mono ?_;rintro e w' ⟨rfl,rfl⟩;rw[HW8.out]));refine bodyPost_ret (v:=.tuple #[.agg #[Value.int IntKind.i64 0,Value.string { data:=#[] },Value.int IntKind.i64 0,Value.float FloatKind.f64 0,Value.int IntKind.i64 ↑A,Value.int IntKind.i64 0],.int .i64 12]) (by simp[results,Tryz.results131,go_sem,hc4]) rfl ⟨rfl,?_⟩;exact qbC HB04.out _ _ _ _ _ _ _ (by simp) (by simp) (by simp) (by simp) (by simp) (by simp) (by simp)
theorem qoZ (a a2:Option Addr) (n cap i A E:Nat) (l:List UInt8) (w:World) (hn:n≤1048576) (hT:Txt w a n cap l)
  (hA:A≤n) (hAE:A≤E) (hE:E≤n) (hsp:∀ w',Below w.heap.size w w'→Calls Tryz.prog 146 #[.slice a n cap,.int .i64 i] w' fun e w''=>e=.returned (.tuple #[.int .i64 2,.int .i64 A,.int .i64 E])∧w'=w'')
  (hs2:∀ w',(Instr.slice 22 (.slice a n cap) (some (.int .i64 (A:Int))) (some (.int .i64 (E:Int))) none).run Tryz.prog w'=.ok (.slice a2 (E-A) (cap-A)) w') (x:Int) (hw8:qaJ (bAt l E)=true)
  (hC:∀ W,Below w.heap.size w W→Calls Tryz.prog 148 #[.slice a2 (E-A) (cap-A)] W fun e w'=>e=.returned (.tuple #[.int .i64 x,.int .i64 12])∧Below W.heap.size W w') :
  Calls Tryz.prog 131 #[.slice a n cap,.int .i64 i] w fun e w'=>e=.returned (.tuple #[.agg #[Value.int IntKind.i64 0,Value.string { data:=#[] },Value.int IntKind.i64 0,Value.float FloatKind.f64 0,Value.int IntKind.i64 ↑A,Value.int IntKind.i64 0],.int .i64 12])∧Below w.heap.size w w':=by
 have HCC:=hid hC;have HW8:=hid hw8;clear hC hw8;have sf:∀ (p:Addr) (b:Nat) (m:Mode) (w':World),(store p (.float .f64 b) m).run Tryz.prog w'=stored Tryz.prog w' p (.float .f64 b) m:=fun p b m w'=>run_store _ w' p _ m rfl;have HS:=hid hsp;have HT:=hid hT;clear hsp hT;go_enter Tryz.func131,Tryz.ntmps131;go_wp2_with fail;refine(HS.out _ ((Below.refl w.heap.size w).alloc (Nat.le_refl _) _)).mono ?_;rintro e w1 ⟨rfl,hw1⟩;subst hw1;go_wp2_with fail;obtain⟨W,hW⟩:∃ W,W=((w.alloc (Obj.cells #[Value.int IntKind.i64 0,Value.string { data:=#[] },Value.int IntKind.i64 0,Value.float FloatKind.f64 0,Value.int IntKind.i64 0,Value.int IntKind.i64 0] 158)).alloc (Obj.cells #[Value.int IntKind.i64 2,Value.string { data:=#[] },Value.int IntKind.i64 0,Value.float FloatKind.f64 0,Value.int IntKind.i64 ↑A,Value.int IntKind.i64 (↑E - ↑A)] 158)):=⟨_,rfl⟩
 rw[← hW];have hbW:Below w.heap.size w W:=by rw[hW];exact((Below.refl w.heap.size w).alloc (Nat.le_refl _) _).alloc (by simp) _
 have hWz:W.heap.size=w.heap.size+2:=by rw[hW];simp
 refine(HCC.out W hbW).mono ?_;rintro e w4 ⟨rfl,hb4⟩;have hz4:=hb4.size;rw[hWz] at hz4;obtain⟨hc4,hf4⟩:=qbR hb4 hW hWz;have hb04:Below w.heap.size w w4:=hbW.trans (hb4.mono (by omega));have HB04:=hid hb04;clear hb4 hW hbW hWz HCC HS hb04;go_wp2_with (first|(go_at_call 152;refine(qc8 _ n cap E l _ (HT.out.below (HB04.out.setCell (p:=⟨w.heap.size+1,2,none⟩) (by simp) _) (Nat.le_refl _))).mono ?_;rintro e w' ⟨rfl,rfl⟩)|(go_at_call 151;refine(qcT _ _).mono ?_;rintro e w' ⟨rfl,rfl⟩;rw[HW8.out]));refine bodyPost_ret (v:=.tuple #[.agg #[Value.int IntKind.i64 0,Value.string { data:=#[] },Value.int IntKind.i64 0,Value.float FloatKind.f64 0,Value.int IntKind.i64 ↑A,Value.int IntKind.i64 0],.int .i64 12]) (by simp[results,Tryz.results131,go_sem,hc4]) rfl ⟨rfl,?_⟩;exact qbC HB04.out _ _ _ _ _ _ _ (by simp) (by simp) (by simp) (by simp) (by simp) (by simp) (by simp)
theorem qr8 (a a2:Option Addr) (n cap i A E:Nat) (l:List UInt8) (w:World) (hn:n≤1048576) (hT:Txt w a n cap l)
  (hA:A≤n) (hAE:A≤E) (hE:E≤n) (hsp:∀ w',Below w.heap.size w w'→Calls Tryz.prog 146 #[.slice a n cap,.int .i64 i] w' fun e w''=>e=.returned (.tuple #[.int .i64 3,.int .i64 A,.int .i64 E])∧w'=w'')
  (hs2:∀ w',(Instr.slice 22 (.slice a n cap) (some (.int .i64 (A:Int))) (some (.int .i64 (E:Int))) none).run Tryz.prog w'=.ok (.slice a2 (E-A) (cap-A)) w') (x:Nat) (hw8:qaJ (bAt l E)=false)
  (hC:∀ W,Below w.heap.size w W→Calls Tryz.prog 149 #[.slice a2 (E-A) (cap-A)] W fun e w'=>e=.returned (.tuple #[.float .f64 x,.int .i64 0])∧Below W.heap.size W w') :
  Calls Tryz.prog 131 #[.slice a n cap,.int .i64 i] w fun e w'=>e=.returned (.tuple #[.agg #[Value.int IntKind.i64 3,Value.string { data:=#[] },Value.int IntKind.i64 0,.float .f64 x,Value.int IntKind.i64 ↑A,Value.int IntKind.i64 (↑E - ↑A)],.int .i64 0])∧Below w.heap.size w w':=by
 have HCC:=hid hC;have HW8:=hid hw8;clear hC hw8;have sf:∀ (p:Addr) (b:Nat) (m:Mode) (w':World),(store p (.float .f64 b) m).run Tryz.prog w'=stored Tryz.prog w' p (.float .f64 b) m:=fun p b m w'=>run_store _ w' p _ m rfl;have HS:=hid hsp;have HT:=hid hT;clear hsp hT;go_enter Tryz.func131,Tryz.ntmps131;go_wp2_with fail;refine(HS.out _ ((Below.refl w.heap.size w).alloc (Nat.le_refl _) _)).mono ?_;rintro e w1 ⟨rfl,hw1⟩;subst hw1;go_wp2_with fail;obtain⟨W,hW⟩:∃ W,W=((w.alloc (Obj.cells #[Value.int IntKind.i64 0,Value.string { data:=#[] },Value.int IntKind.i64 0,Value.float FloatKind.f64 0,Value.int IntKind.i64 0,Value.int IntKind.i64 0] 158)).alloc (Obj.cells #[Value.int IntKind.i64 3,Value.string { data:=#[] },Value.int IntKind.i64 0,Value.float FloatKind.f64 0,Value.int IntKind.i64 ↑A,Value.int IntKind.i64 (↑E - ↑A)] 158)):=⟨_,rfl⟩
 rw[← hW];have hbW:Below w.heap.size w W:=by rw[hW];exact((Below.refl w.heap.size w).alloc (Nat.le_refl _) _).alloc (by simp) _
 have hWz:W.heap.size=w.heap.size+2:=by rw[hW];simp
 refine(HCC.out W hbW).mono ?_;rintro e w4 ⟨rfl,hb4⟩;have hz4:=hb4.size;rw[hWz] at hz4;obtain⟨hc4,hf4⟩:=qbR hb4 hW hWz;have hb04:Below w.heap.size w w4:=hbW.trans (hb4.mono (by omega));have HB04:=hid hb04;clear hb4 hW hbW hWz HCC HS hb04;go_wp2_with (first|(go_at_call 152;refine(qc8 _ n cap E l _ (HT.out.below (HB04.out.setCell (p:=⟨w.heap.size+1,3,none⟩) (by simp) _) (Nat.le_refl _))).mono ?_;rintro e w' ⟨rfl,rfl⟩)|(go_at_call 151;refine(qcT _ _).mono ?_;rintro e w' ⟨rfl,rfl⟩;rw[HW8.out]));refine bodyPost_ret (v:=.tuple #[.agg #[Value.int IntKind.i64 3,Value.string { data:=#[] },Value.int IntKind.i64 0,.float .f64 x,Value.int IntKind.i64 ↑A,Value.int IntKind.i64 (↑E - ↑A)],.int .i64 0]) (by simp[results,Tryz.results131,go_sem,hc4]) rfl ⟨rfl,?_⟩;exact qbC HB04.out _ _ _ _ _ _ _ (by simp) (by simp) (by simp) (by simp) (by simp) (by simp) (by simp)
theorem qmS (a a2:Option Addr) (n cap i A E:Nat) (l:List UInt8) (w:World) (hn:n≤1048576) (hT:Txt w a n cap l)
  (hA:A≤n) (hAE:A≤E) (hE:E≤n) (hsp:∀ w',Below w.heap.size w w'→Calls Tryz.prog 146 #[.slice a n cap,.int .i64 i] w' fun e w''=>e=.returned (.tuple #[.int .i64 3,.int .i64 A,.int .i64 E])∧w'=w'')
  (hs2:∀ w',(Instr.slice 22 (.slice a n cap) (some (.int .i64 (A:Int))) (some (.int .i64 (E:Int))) none).run Tryz.prog w'=.ok (.slice a2 (E-A) (cap-A)) w') (x:Nat) (hw8:qaJ (bAt l E)=true)
  (hC:∀ W,Below w.heap.size w W→Calls Tryz.prog 149 #[.slice a2 (E-A) (cap-A)] W fun e w'=>e=.returned (.tuple #[.float .f64 x,.int .i64 0])∧Below W.heap.size W w') :
  Calls Tryz.prog 131 #[.slice a n cap,.int .i64 i] w fun e w'=>e=.returned (.tuple #[.agg #[Value.int IntKind.i64 0,Value.string { data:=#[] },Value.int IntKind.i64 0,Value.float FloatKind.f64 0,Value.int IntKind.i64 ↑A,Value.int IntKind.i64 0],.int .i64 12])∧Below w.heap.size w w':=by
 have HCC:=hid hC;have HW8:=hid hw8;clear hC hw8;have sf:∀ (p:Addr) (b:Nat) (m:Mode) (w':World),(store p (.float .f64 b) m).run Tryz.prog w'=stored Tryz.prog w' p (.float .f64 b) m:=fun p b m w'=>run_store _ w' p _ m rfl;have HS:=hid hsp;have HT:=hid hT;clear hsp hT;go_enter Tryz.func131,Tryz.ntmps131;go_wp2_with fail;refine(HS.out _ ((Below.refl w.heap.size w).alloc (Nat.le_refl _) _)).mono ?_;rintro e w1 ⟨rfl,hw1⟩;subst hw1;go_wp2_with fail;obtain⟨W,hW⟩:∃ W,W=((w.alloc (Obj.cells #[Value.int IntKind.i64 0,Value.string { data:=#[] },Value.int IntKind.i64 0,Value.float FloatKind.f64 0,Value.int IntKind.i64 0,Value.int IntKind.i64 0] 158)).alloc (Obj.cells #[Value.int IntKind.i64 3,Value.string { data:=#[] },Value.int IntKind.i64 0,Value.float FloatKind.f64 0,Value.int IntKind.i64 ↑A,Value.int IntKind.i64 (↑E - ↑A)] 158)):=⟨_,rfl⟩
 rw[← hW];have hbW:Below w.heap.size w W:=by rw[hW];exact((Below.refl w.heap.size w).alloc (Nat.le_refl _) _).alloc (by simp) _
 have hWz:W.heap.size=w.heap.size+2:=by rw[hW];simp
 refine(HCC.out W hbW).mono ?_;rintro e w4 ⟨rfl,hb4⟩;have hz4:=hb4.size;rw[hWz] at hz4;obtain⟨hc4,hf4⟩:=qbR hb4 hW hWz;have hb04:Below w.heap.size w w4:=hbW.trans (hb4.mono (by omega));have HB04:=hid hb04;clear hb4 hW hbW hWz HCC HS hb04;go_wp2_with (first|(go_at_call 152;refine(qc8 _ n cap E l _ (HT.out.below (HB04.out.setCell (p:=⟨w.heap.size+1,3,none⟩) (by simp) _) (Nat.le_refl _))).mono ?_;rintro e w' ⟨rfl,rfl⟩)|(go_at_call 151;refine(qcT _ _).mono ?_;rintro e w' ⟨rfl,rfl⟩;rw[HW8.out]));refine bodyPost_ret (v:=.tuple #[.agg #[Value.int IntKind.i64 0,Value.string { data:=#[] },Value.int IntKind.i64 0,Value.float FloatKind.f64 0,Value.int IntKind.i64 ↑A,Value.int IntKind.i64 0],.int .i64 12]) (by simp[results,Tryz.results131,go_sem,hc4]) rfl ⟨rfl,?_⟩;exact qbC HB04.out _ _ _ _ _ _ _ (by simp) (by simp) (by simp) (by simp) (by simp) (by simp) (by simp)
theorem qoW (a a2:Option Addr) (n cap i A E:Nat) (l:List UInt8) (w:World) (hn:n≤1048576) (hT:Txt w a n cap l)
  (hA:A≤n) (hAE:A≤E) (hE:E≤n) (hsp:∀ w',Below w.heap.size w w'→Calls Tryz.prog 146 #[.slice a n cap,.int .i64 i] w' fun e w''=>e=.returned (.tuple #[.int .i64 3,.int .i64 A,.int .i64 E])∧w'=w'')
  (hs2:∀ w',(Instr.slice 22 (.slice a n cap) (some (.int .i64 (A:Int))) (some (.int .i64 (E:Int))) none).run Tryz.prog w'=.ok (.slice a2 (E-A) (cap-A)) w') (x:Nat) (hw8:qaJ (bAt l E)=false)
  (hC:∀ W,Below w.heap.size w W→Calls Tryz.prog 149 #[.slice a2 (E-A) (cap-A)] W fun e w'=>e=.returned (.tuple #[.float .f64 x,.int .i64 12])∧Below W.heap.size W w') :
  Calls Tryz.prog 131 #[.slice a n cap,.int .i64 i] w fun e w'=>e=.returned (.tuple #[.agg #[Value.int IntKind.i64 0,Value.string { data:=#[] },Value.int IntKind.i64 0,Value.float FloatKind.f64 0,Value.int IntKind.i64 ↑A,Value.int IntKind.i64 0],.int .i64 12])∧Below w.heap.size w w':=by
 have HCC:=hid hC;have HW8:=hid hw8;clear hC hw8;have sf:∀ (p:Addr) (b:Nat) (m:Mode) (w':World),(store p (.float .f64 b) m).run Tryz.prog w'=stored Tryz.prog w' p (.float .f64 b) m:=fun p b m w'=>run_store _ w' p _ m rfl;have HS:=hid hsp;have HT:=hid hT;clear hsp hT;go_enter Tryz.func131,Tryz.ntmps131;go_wp2_with fail;refine(HS.out _ ((Below.refl w.heap.size w).alloc (Nat.le_refl _) _)).mono ?_;rintro e w1 ⟨rfl,hw1⟩;subst hw1;go_wp2_with fail;obtain⟨W,hW⟩:∃ W,W=((w.alloc (Obj.cells #[Value.int IntKind.i64 0,Value.string { data:=#[] },Value.int IntKind.i64 0,Value.float FloatKind.f64 0,Value.int IntKind.i64 0,Value.int IntKind.i64 0] 158)).alloc (Obj.cells #[Value.int IntKind.i64 3,Value.string { data:=#[] },Value.int IntKind.i64 0,Value.float FloatKind.f64 0,Value.int IntKind.i64 ↑A,Value.int IntKind.i64 (↑E - ↑A)] 158)):=⟨_,rfl⟩
 rw[← hW];have hbW:Below w.heap.size w W:=by rw[hW];exact((Below.refl w.heap.size w).alloc (Nat.le_refl _) _).alloc (by simp) _
 have hWz:W.heap.size=w.heap.size+2:=by rw[hW];simp
 refine(HCC.out W hbW).mono ?_;rintro e w4 ⟨rfl,hb4⟩;have hz4:=hb4.size;rw[hWz] at hz4;obtain⟨hc4,hf4⟩:=qbR hb4 hW hWz;have hb04:Below w.heap.size w w4:=hbW.trans (hb4.mono (by omega));have HB04:=hid hb04;clear hb4 hW hbW hWz HCC HS hb04;go_wp2_with (first|(go_at_call 152;refine(qc8 _ n cap E l _ (HT.out.below (HB04.out.setCell (p:=⟨w.heap.size+1,3,none⟩) (by simp) _) (Nat.le_refl _))).mono ?_;rintro e w' ⟨rfl,rfl⟩)|(go_at_call 151;refine(qcT _ _).mono ?_;rintro e w' ⟨rfl,rfl⟩;rw[HW8.out]));refine bodyPost_ret (v:=.tuple #[.agg #[Value.int IntKind.i64 0,Value.string { data:=#[] },Value.int IntKind.i64 0,Value.float FloatKind.f64 0,Value.int IntKind.i64 ↑A,Value.int IntKind.i64 0],.int .i64 12]) (by simp[results,Tryz.results131,go_sem,hc4]) rfl ⟨rfl,?_⟩;exact qbC HB04.out _ _ _ _ _ _ _ (by simp) (by simp) (by simp) (by simp) (by simp) (by simp) (by simp)
theorem qmT (a a2:Option Addr) (n cap i A E:Nat) (l:List UInt8) (w:World) (hn:n≤1048576) (hT:Txt w a n cap l)
  (hA:A≤n) (hAE:A≤E) (hE:E≤n) (hsp:∀ w',Below w.heap.size w w'→Calls Tryz.prog 146 #[.slice a n cap,.int .i64 i] w' fun e w''=>e=.returned (.tuple #[.int .i64 3,.int .i64 A,.int .i64 E])∧w'=w'')
  (hs2:∀ w',(Instr.slice 22 (.slice a n cap) (some (.int .i64 (A:Int))) (some (.int .i64 (E:Int))) none).run Tryz.prog w'=.ok (.slice a2 (E-A) (cap-A)) w') (x:Nat) (hw8:qaJ (bAt l E)=true)
  (hC:∀ W,Below w.heap.size w W→Calls Tryz.prog 149 #[.slice a2 (E-A) (cap-A)] W fun e w'=>e=.returned (.tuple #[.float .f64 x,.int .i64 12])∧Below W.heap.size W w') :
  Calls Tryz.prog 131 #[.slice a n cap,.int .i64 i] w fun e w'=>e=.returned (.tuple #[.agg #[Value.int IntKind.i64 0,Value.string { data:=#[] },Value.int IntKind.i64 0,Value.float FloatKind.f64 0,Value.int IntKind.i64 ↑A,Value.int IntKind.i64 0],.int .i64 12])∧Below w.heap.size w w':=by
 have HCC:=hid hC;have HW8:=hid hw8;clear hC hw8;have sf:∀ (p:Addr) (b:Nat) (m:Mode) (w':World),(store p (.float .f64 b) m).run Tryz.prog w'=stored Tryz.prog w' p (.float .f64 b) m:=fun p b m w'=>run_store _ w' p _ m rfl;have HS:=hid hsp;have HT:=hid hT;clear hsp hT;go_enter Tryz.func131,Tryz.ntmps131;go_wp2_with fail;refine(HS.out _ ((Below.refl w.heap.size w).alloc (Nat.le_refl _) _)).mono ?_;rintro e w1 ⟨rfl,hw1⟩;subst hw1;go_wp2_with fail;obtain⟨W,hW⟩:∃ W,W=((w.alloc (Obj.cells #[Value.int IntKind.i64 0,Value.string { data:=#[] },Value.int IntKind.i64 0,Value.float FloatKind.f64 0,Value.int IntKind.i64 0,Value.int IntKind.i64 0] 158)).alloc (Obj.cells #[Value.int IntKind.i64 3,Value.string { data:=#[] },Value.int IntKind.i64 0,Value.float FloatKind.f64 0,Value.int IntKind.i64 ↑A,Value.int IntKind.i64 (↑E - ↑A)] 158)):=⟨_,rfl⟩
 rw[← hW];have hbW:Below w.heap.size w W:=by rw[hW];exact((Below.refl w.heap.size w).alloc (Nat.le_refl _) _).alloc (by simp) _
 have hWz:W.heap.size=w.heap.size+2:=by rw[hW];simp
 refine(HCC.out W hbW).mono ?_;rintro e w4 ⟨rfl,hb4⟩;have hz4:=hb4.size;rw[hWz] at hz4;obtain⟨hc4,hf4⟩:=qbR hb4 hW hWz;have hb04:Below w.heap.size w w4:=hbW.trans (hb4.mono (by omega));have HB04:=hid hb04;clear hb4 hW hbW hWz HCC HS hb04;go_wp2_with (first|(go_at_call 152;refine(qc8 _ n cap E l _ (HT.out.below (HB04.out.setCell (p:=⟨w.heap.size+1,3,none⟩) (by simp) _) (Nat.le_refl _))).mono ?_;rintro e w' ⟨rfl,rfl⟩)|(go_at_call 151;refine(qcT _ _).mono ?_;rintro e w' ⟨rfl,rfl⟩;rw[HW8.out]));refine bodyPost_ret (v:=.tuple #[.agg #[Value.int IntKind.i64 0,Value.string { data:=#[] },Value.int IntKind.i64 0,Value.float FloatKind.f64 0,Value.int IntKind.i64 ↑A,Value.int IntKind.i64 0],.int .i64 12]) (by simp[results,Tryz.results131,go_sem,hc4]) rfl ⟨rfl,?_⟩;exact qbC HB04.out _ _ _ _ _ _ _ (by simp) (by simp) (by simp) (by simp) (by simp) (by simp) (by simp)
theorem qr7 (a a2:Option Addr) (n cap i A E:Nat) (l:List UInt8) (w:World) (hn:n≤1048576) (hT:Txt w a n cap l)
  (hA:A≤n) (hAE:A≤E) (hE:E≤n) (hsp:∀ w',Below w.heap.size w w'→Calls Tryz.prog 146 #[.slice a n cap,.int .i64 i] w' fun e w''=>e=.returned (.tuple #[.int .i64 4,.int .i64 A,.int .i64 E])∧w'=w'')
  (hs2:∀ w',(Instr.slice 22 (.slice a n cap) (some (.int .i64 (A:Int))) (some (.int .i64 (E:Int))) none).run Tryz.prog w'=.ok (.slice a2 (E-A) (cap-A)) w') (x:ByteArray)
  (hC:∀ W,Below w.heap.size w W→Calls Tryz.prog 150 #[.slice a2 (E-A) (cap-A)] W fun e w'=>e=.returned (.tuple #[.string x,.int .i64 0])∧Below W.heap.size W w') :
  Calls Tryz.prog 131 #[.slice a n cap,.int .i64 i] w fun e w'=>e=.returned (.tuple #[.agg #[Value.int IntKind.i64 4,.string x,Value.int IntKind.i64 0,Value.float FloatKind.f64 0,Value.int IntKind.i64 ↑A,Value.int IntKind.i64 (↑E - ↑A)],.int .i64 0])∧Below w.heap.size w w':=by
 have HCC:=hid hC;clear hC;have sf:∀ (p:Addr) (b:Nat) (m:Mode) (w':World),(store p (.float .f64 b) m).run Tryz.prog w'=stored Tryz.prog w' p (.float .f64 b) m:=fun p b m w'=>run_store _ w' p _ m rfl;have HS:=hid hsp;have HT:=hid hT;clear hsp hT;go_enter Tryz.func131,Tryz.ntmps131;go_wp2_with fail;refine(HS.out _ ((Below.refl w.heap.size w).alloc (Nat.le_refl _) _)).mono ?_;rintro e w1 ⟨rfl,hw1⟩;subst hw1;go_wp2_with fail;obtain⟨W,hW⟩:∃ W,W=((w.alloc (Obj.cells #[Value.int IntKind.i64 0,Value.string { data:=#[] },Value.int IntKind.i64 0,Value.float FloatKind.f64 0,Value.int IntKind.i64 0,Value.int IntKind.i64 0] 158)).alloc (Obj.cells #[Value.int IntKind.i64 4,Value.string { data:=#[] },Value.int IntKind.i64 0,Value.float FloatKind.f64 0,Value.int IntKind.i64 ↑A,Value.int IntKind.i64 (↑E - ↑A)] 158)):=⟨_,rfl⟩
 rw[← hW];have hbW:Below w.heap.size w W:=by rw[hW];exact((Below.refl w.heap.size w).alloc (Nat.le_refl _) _).alloc (by simp) _
 have hWz:W.heap.size=w.heap.size+2:=by rw[hW];simp
 refine(HCC.out W hbW).mono ?_;rintro e w4 ⟨rfl,hb4⟩;have hz4:=hb4.size;rw[hWz] at hz4;obtain⟨hc4,hf4⟩:=qbR hb4 hW hWz;have hb04:Below w.heap.size w w4:=hbW.trans (hb4.mono (by omega));have HB04:=hid hb04;clear hb4 hW hbW hWz HCC HS hb04;go_wp2_with fail;refine bodyPost_ret (v:=.tuple #[.agg #[Value.int IntKind.i64 4,.string x,Value.int IntKind.i64 0,Value.float FloatKind.f64 0,Value.int IntKind.i64 ↑A,Value.int IntKind.i64 (↑E - ↑A)],.int .i64 0]) (by simp[results,Tryz.results131,go_sem,hc4]) rfl ⟨rfl,?_⟩;exact qbC HB04.out _ _ _ _ _ _ _ (by simp) (by simp) (by simp) (by simp) (by simp) (by simp) (by simp)
theorem qoV (a a2:Option Addr) (n cap i A E:Nat) (l:List UInt8) (w:World) (hn:n≤1048576) (hT:Txt w a n cap l)
  (hA:A≤n) (hAE:A≤E) (hE:E≤n) (hsp:∀ w',Below w.heap.size w w'→Calls Tryz.prog 146 #[.slice a n cap,.int .i64 i] w' fun e w''=>e=.returned (.tuple #[.int .i64 4,.int .i64 A,.int .i64 E])∧w'=w'')
  (hs2:∀ w',(Instr.slice 22 (.slice a n cap) (some (.int .i64 (A:Int))) (some (.int .i64 (E:Int))) none).run Tryz.prog w'=.ok (.slice a2 (E-A) (cap-A)) w') (x:ByteArray)
  (hC:∀ W,Below w.heap.size w W→Calls Tryz.prog 150 #[.slice a2 (E-A) (cap-A)] W fun e w'=>e=.returned (.tuple #[.string x,.int .i64 11])∧Below W.heap.size W w') :
  Calls Tryz.prog 131 #[.slice a n cap,.int .i64 i] w fun e w'=>e=.returned (.tuple #[.agg #[Value.int IntKind.i64 0,Value.string { data:=#[] },Value.int IntKind.i64 0,Value.float FloatKind.f64 0,Value.int IntKind.i64 ↑A,Value.int IntKind.i64 0],.int .i64 11])∧Below w.heap.size w w':=by
 have HCC:=hid hC;clear hC;have sf:∀ (p:Addr) (b:Nat) (m:Mode) (w':World),(store p (.float .f64 b) m).run Tryz.prog w'=stored Tryz.prog w' p (.float .f64 b) m:=fun p b m w'=>run_store _ w' p _ m rfl;have HS:=hid hsp;have HT:=hid hT;clear hsp hT;go_enter Tryz.func131,Tryz.ntmps131;go_wp2_with fail;refine(HS.out _ ((Below.refl w.heap.size w).alloc (Nat.le_refl _) _)).mono ?_;rintro e w1 ⟨rfl,hw1⟩;subst hw1;go_wp2_with fail;obtain⟨W,hW⟩:∃ W,W=((w.alloc (Obj.cells #[Value.int IntKind.i64 0,Value.string { data:=#[] },Value.int IntKind.i64 0,Value.float FloatKind.f64 0,Value.int IntKind.i64 0,Value.int IntKind.i64 0] 158)).alloc (Obj.cells #[Value.int IntKind.i64 4,Value.string { data:=#[] },Value.int IntKind.i64 0,Value.float FloatKind.f64 0,Value.int IntKind.i64 ↑A,Value.int IntKind.i64 (↑E - ↑A)] 158)):=⟨_,rfl⟩
 rw[← hW];have hbW:Below w.heap.size w W:=by rw[hW];exact((Below.refl w.heap.size w).alloc (Nat.le_refl _) _).alloc (by simp) _
 have hWz:W.heap.size=w.heap.size+2:=by rw[hW];simp
 refine(HCC.out W hbW).mono ?_;rintro e w4 ⟨rfl,hb4⟩;have hz4:=hb4.size;rw[hWz] at hz4;obtain⟨hc4,hf4⟩:=qbR hb4 hW hWz;have hb04:Below w.heap.size w w4:=hbW.trans (hb4.mono (by omega));have HB04:=hid hb04;clear hb4 hW hbW hWz HCC HS hb04;go_wp2_with fail;refine bodyPost_ret (v:=.tuple #[.agg #[Value.int IntKind.i64 0,Value.string { data:=#[] },Value.int IntKind.i64 0,Value.float FloatKind.f64 0,Value.int IntKind.i64 ↑A,Value.int IntKind.i64 0],.int .i64 11]) (by simp[results,Tryz.results131,go_sem,hc4]) rfl ⟨rfl,?_⟩;exact qbC HB04.out _ _ _ _ _ _ _ (by simp) (by simp) (by simp) (by simp) (by simp) (by simp) (by simp)
theorem q12 (a a2:Option Addr) (n cap i A E:Nat) (l:List UInt8) (w:World) (hn:n≤1048576) (hT:Txt w a n cap l)
  (hA:A≤n) (hAE:A≤E) (hE:E≤n) (hsp:∀ w',Below w.heap.size w w'→Calls Tryz.prog 146 #[.slice a n cap,.int .i64 i] w' fun e w''=>e=.returned (.tuple #[.int .i64 5,.int .i64 A,.int .i64 E])∧w'=w'')
  (hs2:∀ w',(Instr.slice 22 (.slice a n cap) (some (.int .i64 (A:Int))) (some (.int .i64 (E:Int))) none).run Tryz.prog w'=.ok (.slice a2 (E-A) (cap-A)) w') (x:ByteArray)
  (hC:∀ W,Below w.heap.size w W→(convert 22 9 (.slice a2 (E-A) (cap-A))).run Tryz.prog W=.ok (.string x) W) :
  Calls Tryz.prog 131 #[.slice a n cap,.int .i64 i] w fun e w'=>e=.returned (.tuple #[.agg #[.int .i64 5,.string x,.int .i64 0,.float .f64 0,.int .i64 A,.int .i64 ((E:Int)-A)],.int .i64 0])∧Below w.heap.size w w':=by
 have HCC:=hid hC;clear hC;have sf:∀ (p:Addr) (b:Nat) (m:Mode) (w':World),(store p (.float .f64 b) m).run Tryz.prog w'=stored Tryz.prog w' p (.float .f64 b) m:=fun p b m w'=>run_store _ w' p _ m rfl;have HS:=hid hsp;have HT:=hid hT;clear hsp hT;go_enter Tryz.func131,Tryz.ntmps131;go_wp2_with fail;refine(HS.out _ ((Below.refl w.heap.size w).alloc (Nat.le_refl _) _)).mono ?_;rintro e w1 ⟨rfl,hw1⟩;subst hw1;have hcv:=HCC.out ((w.alloc (Obj.cells #[Value.int IntKind.i64 0,Value.string { data:=#[] },Value.int IntKind.i64 0,Value.float FloatKind.f64 0,Value.int IntKind.i64 0,Value.int IntKind.i64 0] 158)).alloc (Obj.cells #[Value.int IntKind.i64 5,Value.string { data:=#[] },Value.int IntKind.i64 0,Value.float FloatKind.f64 0,Value.int IntKind.i64 ↑A,Value.int IntKind.i64 (↑E - ↑A)] 158)) (((Below.refl w.heap.size w).alloc (Nat.le_refl _) _).alloc (by simp) _);go_wp2_with fail;refine bodyPost_ret (v:=.tuple #[.agg #[.int .i64 5,.string x,.int .i64 0,.float .f64 0,.int .i64 A,.int .i64 ((E:Int)-A)],.int .i64 0]) (by simp[results,Tryz.results131,go_sem]) rfl ⟨rfl,?_⟩;exact((Below.refl w.heap.size w).alloc (Nat.le_refl _) _).alloc (by simp) _
theorem q13 (a a2:Option Addr) (n cap i A E:Nat) (l:List UInt8) (w:World) (hn:n≤1048576) (hT:Txt w a n cap l)
  (hA:A≤n) (hAE:A≤E) (hE:E≤n) (hsp:∀ w',Below w.heap.size w w'→Calls Tryz.prog 146 #[.slice a n cap,.int .i64 i] w' fun e w''=>e=.returned (.tuple #[.int .i64 0,.int .i64 A,.int .i64 E])∧w'=w'')
  (hs2:∀ w',(Instr.slice 22 (.slice a n cap) (some (.int .i64 (A:Int))) (some (.int .i64 (E:Int))) none).run Tryz.prog w'=.ok (.slice a2 (E-A) (cap-A)) w') (hlt:A<n) (hl:l.length=n) :
  Calls Tryz.prog 131 #[.slice a n cap,.int .i64 i] w fun e w'=>e=.returned (.tuple #[.agg #[.int .i64 0,.string ⟨#[]⟩,.int .i64 0,.float .f64 0,.int .i64 A,.int .i64 0],.int .i64 10])∧Below w.heap.size w w':=by
 have sf:∀ (p:Addr) (b:Nat) (m:Mode) (w':World),(store p (.float .f64 b) m).run Tryz.prog w'=stored Tryz.prog w' p (.float .f64 b) m:=fun p b m w'=>run_store _ w' p _ m rfl;have HS:=hid hsp;have HT:=hid hT;clear hsp hT;go_enter Tryz.func131,Tryz.ntmps131;go_wp2_with fail;refine(HS.out _ ((Below.refl w.heap.size w).alloc (Nat.le_refl _) _)).mono ?_;rintro e w1 ⟨rfl,hw1⟩;subst hw1;go_wp2_with fail;refine bodyPost_ret (v:=.tuple #[.agg #[.int .i64 0,.string ⟨#[]⟩,.int .i64 0,.float .f64 0,.int .i64 A,.int .i64 0],.int .i64 10]) (by simp[results,Tryz.results131,go_sem]) rfl ⟨rfl,?_⟩;exact((Below.refl w.heap.size w).alloc (Nat.le_refl _) _).alloc (by simp) _
theorem q4M (a a2:Option Addr) (n cap i A E:Nat) (l:List UInt8) (w:World) (hn:n≤1048576) (hT:Txt w a n cap l)
  (hA:A≤n) (hAE:A≤E) (hE:E≤n) (hsp:∀ w',Below w.heap.size w w'→Calls Tryz.prog 146 #[.slice a n cap,.int .i64 i] w' fun e w''=>e=.returned (.tuple #[.int .i64 0,.int .i64 A,.int .i64 E])∧w'=w'')
  (hs2:∀ w',(Instr.slice 22 (.slice a n cap) (some (.int .i64 (A:Int))) (some (.int .i64 (E:Int))) none).run Tryz.prog w'=.ok (.slice a2 (E-A) (cap-A)) w') (hlt:A=n) (heq:E=A) :
  Calls Tryz.prog 131 #[.slice a n cap,.int .i64 i] w fun e w'=>e=.returned (.tuple #[.agg #[.int .i64 0,.string ⟨#[]⟩,.int .i64 0,.float .f64 0,.int .i64 A,.int .i64 0],.int .i64 0])∧Below w.heap.size w w':=by
 subst heq hlt;have sf:∀ (p:Addr) (b:Nat) (m:Mode) (w':World),(store p (.float .f64 b) m).run Tryz.prog w'=stored Tryz.prog w' p (.float .f64 b) m:=fun p b m w'=>run_store _ w' p _ m rfl;have HS:=hid hsp;have HT:=hid hT;clear hsp hT;go_enter Tryz.func131,Tryz.ntmps131;go_wp2_with fail;refine(HS.out _ ((Below.refl w.heap.size w).alloc (Nat.le_refl _) _)).mono ?_;rintro e w1 ⟨rfl,hw1⟩;subst hw1;go_wp2_with fail;refine bodyPost_ret (v:=.tuple #[.agg #[.int .i64 0,.string ⟨#[]⟩,.int .i64 0,.float .f64 0,.int .i64 E,.int .i64 0],.int .i64 0]) (by simp[results,Tryz.results131,go_sem]) rfl ⟨rfl,?_⟩;exact((Below.refl w.heap.size w).alloc (Nat.le_refl _) _).alloc (by simp) _
theorem qtO (l:List UInt8) (A E:Nat):qcC l 1 A E=if E-A≤32 then (qa2 l A E,0,0,0) else ([],0,0,13):=rfl
theorem q2S (l:List UInt8) (A E:Nat):qcC l 2 A E=match qaK (qa2 l A E) with|some v=>([],v,0,0)|none=>([],0,0,12):=rfl
theorem q2R (l:List UInt8) (A E:Nat):qcC l 3 A E=match qcA (qa2 l A E) with|some (m,e)=>([],0,qaA m e,0)|none=>([],0,0,12):=rfl
theorem q2Q (l:List UInt8) (A E:Nat):qcC l 4 A E=match qbX (qa2 l A E) with|some s=>(s,0,0,0)|none=>([],0,0,11):=rfl
theorem q2P (l:List UInt8) (A E:Nat):qcC l 5 A E=(qa2 l A E,0,0,0):=rfl
theorem qtP (l:List UInt8) (A E:Nat):qcC l 0 A E=([],0,0,if A<l.length then 10 else 0):=rfl
theorem qdX {l:List UInt8} {A K E f:Nat} (h:qaD l A=(K,E)) (hf:qcH l K A E=f) (h0:f≠0):qaR l A=(⟨0,[],0,0,A,0⟩,f):=by
 unfold qaR;rw[h];simp only;rw[hf,if_pos h0]
theorem qh9 {l:List UInt8} {A K E:Nat} {x:List UInt8} {v:Int} {r:Nat} (h:qaD l A=(K,E)) (hf:qcH l K A E=0) (hb:qcC l K A E=(x,v,r,0)):qaR l A=(⟨K,x,v,r,A,E-A⟩,0):=by
 unfold qaR;rw[h];simp only;rw[hf,if_neg (fun h=>h rfl),hb]
theorem qd5 {l:List UInt8} {K A E:Nat} (h2:K≠2) (h3:K≠3):qcH l K A E=(qcC l K A E).2.2.2:=by
 unfold qcH;rw[if_neg (by intro h;rcases h.1 with h|h;exact h2 h;exact h3 h)]
theorem qgH {l:List UInt8} {K A E:Nat} (h:K=2∨K=3) (hw:qaJ (bAt l E)=true):qcH l K A E=12:=by
 unfold qcH;rw[if_pos ⟨h,hw⟩]
theorem qeZ {l:List UInt8} {K A E:Nat} (hw:qaJ (bAt l E)=false):qcH l K A E=(qcC l K A E).2.2.2:=by
 unfold qcH;rw[if_neg (by intro h;rw[hw] at h;cases h.2)]
theorem qwW {l:List UInt8} {A E:Nat} (h:qaD l A=(0,E)):E=A:=by
 unfold qaD qdT at h;split at h
 ·simp at h
 ·split at h
  ·split at h
   ·simp at h
   ·split at h <;> simp at h
  ·split at h
   ·simp at h
   ·split at h
    ·simp at h
    ·simp at h;exact h.symm
section
variable {a:Option Addr} {n cap i A E:Nat} {l:List UInt8} {w:World}
theorem qj5 {K:Nat} {x:List UInt8} {v:Int} {r:Nat} (hnf:qbV l i=qaR l A) (hAE:A≤E) (ht:qaR l A=(⟨K,x,v,r,A,E-A⟩,0))
  (hc:Calls Tryz.prog 131 #[.slice a n cap,.int .i64 i] w fun e w'=>e=.returned (.tuple #[.agg #[.int .i64 K,.string ⟨x.toArray⟩,.int .i64 v,.float .f64 r,.int .i64 A,.int .i64 ((E:Int)-A)],.int .i64 0])∧Below w.heap.size w w') :
  Calls Tryz.prog 131 #[.slice a n cap,.int .i64 i] w fun e w'=>e=.returned (.tuple #[qk6 (qbV l i).1,.int .i64 (qbV l i).2])∧Below w.heap.size w w':=by
 refine hc.mono ?_;rintro e w' ⟨rfl,hb⟩;refine⟨?_,hb⟩;rw[hnf,ht,← Int.ofNat_sub hAE];rfl
theorem qdM {f:Nat} (hnf:qbV l i=qaR l A) (ht:qaR l A=(⟨0,[],0,0,A,0⟩,f))
  (hc:Calls Tryz.prog 131 #[.slice a n cap,.int .i64 i] w fun e w'=>e=.returned (.tuple #[.agg #[.int .i64 0,.string ⟨#[]⟩,.int .i64 0,.float .f64 0,.int .i64 A,.int .i64 0],.int .i64 f])∧Below w.heap.size w w') :
  Calls Tryz.prog 131 #[.slice a n cap,.int .i64 i] w fun e w'=>e=.returned (.tuple #[qk6 (qbV l i).1,.int .i64 (qbV l i).2])∧Below w.heap.size w w':=by
 refine hc.mono ?_;rintro e w' ⟨rfl,hb⟩;refine⟨?_,hb⟩;rw[hnf,ht];rfl
end
theorem q4N (a:Option Addr) (n cap i:Nat) (l:List UInt8) (w:World) (hF:qg9) (hT:Txt w a n cap l) (hn:n≤1048576) (hi:i≤n) (hg:qq3 w) :
  Calls Tryz.prog 131 #[.slice a n cap,.int .i64 i] w fun e w'=>e=.returned (.tuple #[qk6 (qbV l i).1,.int .i64 (qbV l i).2])∧Below w.heap.size w w':=by
 have hl:=hT.1;obtain⟨A,hAd⟩:∃ A,A=i+qb8 false (l.drop i):=⟨_,rfl⟩
 have hAn:A≤n:=by
  have:=qzK false (l.drop i);simp at this;omega
 obtain⟨⟨K,E⟩,hKE⟩:∃ p,qaD l A=p:=⟨_,rfl⟩
 have hbd:=qbJ l A (by omega);rw[hKE] at hbd;obtain⟨hAE,hEl,hK5,hK4⟩:=hbd;simp only at hAE hEl hK5 hK4;have hEn:E≤n:=by omega
 have hnf:qbV l i=qaR l A:=by unfold qbV;rw[← hAd]
 have hsp:∀ w',Below w.heap.size w w'→Calls Tryz.prog 146 #[.slice a n cap,.int .i64 i] w' fun e w''=>e=.returned (.tuple #[.int .i64 K,.int .i64 A,.int .i64 E])∧w'=w'':=by
  intro w' hb;have h:=q3V a n cap i l w' (hT.below hb (Nat.le_refl _)) (by omega) hi;rw[← hAd,hKE] at h;exact h
 obtain⟨a2,hs2,ht2⟩:=qzI A E hT hAE hEn;have hP:(l.drop A).take (E-A)=qa2 l A E:=rfl;rw[hP] at ht2;have hw8:qaJ (bAt l E)=true∨qaJ (bAt l E)=false:=by cases qaJ (bAt l E) <;> simp
 have hcases:K=0∨K=1∨K=2∨K=3∨K=4∨K=5:=by omega
 rcases hcases with rfl|rfl|rfl|rfl|rfl|rfl
 ·have hEA:=qwW hKE;subst hEA;rcases Nat.lt_or_ge E n with hlt|hge
  ·refine qdM hnf (qdX hKE (f:=10) ?_ (by decide)) (q13 a a2 n cap i E E l w hn hT hAn hAE hEn hsp hs2 hlt hl);rw[qd5 (by decide) (by decide),qtP];exact if_pos (by omega)
  ·refine qdM hnf ?_ (q4M a a2 n cap i E E l w hn hT hAn hAE hEn hsp hs2 (by omega) rfl);have:=qh9 (x:=[]) (v:=0) (r:=0) hKE (by rw[qd5 (by decide) (by decide),qtP];exact if_neg (by omega)) (by rw[qtP,if_neg (by omega)]);rw[this,Nat.sub_self]
 ·have hC:∀ W,Below w.heap.size w W→Calls Tryz.prog 147 #[.slice a2 (E-A) (cap-A)] W fun e w'=>e=.returned (if E-A≤32 then .tuple #[.string ⟨(qa2 l A E).toArray⟩,.int .i64 0] else .tuple #[.string ⟨#[]⟩,.int .i64 13])∧Below W.heap.size W w':=fun W hb =>
   (q4P a2 (E-A) (cap-A) _ W (ht2.below hb (Nat.le_refl _))).mono (by rintro e w' ⟨rfl,rfl⟩;exact⟨rfl,Below.refl _ _⟩)
  by_cases h32:E-A≤32
  ·simp only[if_pos h32] at hC;refine qj5 (r:=0) hnf hAE (qh9 hKE ?_ ?_) (qr9 a a2 n cap i A E l w hn hT hAn hAE hEn hsp hs2 _ hC)
   ·rw[qd5 (by decide) (by decide),qtO,if_pos h32]
   ·rw[qtO,if_pos h32]
  ·simp only[if_neg h32] at hC;refine qdM hnf (qdX hKE (f:=13) ?_ (by decide)) (qoX a a2 n cap i A E l w hn hT hAn hAE hEn hsp hs2 _ hC);rw[qd5 (by decide) (by decide),qtO,if_neg h32]
 ·have hC:∀ W,Below w.heap.size w W→Calls Tryz.prog 148 #[.slice a2 (E-A) (cap-A)] W fun e w'=>e=.returned (qyS (qaK (qa2 l A E)))∧Below W.heap.size W w':=fun W hb =>
   qlC a2 (E-A) (cap-A) _ W (ht2.below hb (Nat.le_refl _)) (by omega) (hg.below hb (Nat.le_refl _))
  cases hv:qaK (qa2 l A E) with
  | none =>
   rw[hv] at hC;have hbase:qcC l 2 A E=([],0,0,12):=by rw[q2S,hv]
   rcases hw8 with h8|h8
   ·exact qdM hnf (qdX hKE (qgH (.inl rfl) h8) (by decide)) (qoZ a a2 n cap i A E l w hn hT hAn hAE hEn hsp hs2 _ h8 hC)
   ·exact qdM hnf (qdX hKE (by rw[qeZ h8,hbase]) (by decide)) (qrA a a2 n cap i A E l w hn hT hAn hAE hEn hsp hs2 _ h8 hC)
  | some v =>
   rw[hv] at hC;have hbase:qcC l 2 A E=([],v,0,0):=by rw[q2S,hv]
   rcases hw8 with h8|h8
   ·exact qdM hnf (qdX hKE (qgH (.inl rfl) h8) (by decide)) (qoY a a2 n cap i A E l w hn hT hAn hAE hEn hsp hs2 _ h8 hC)
   ·exact qj5 hnf hAE (qh9 hKE (by rw[qeZ h8,hbase]) hbase) (qt4 a a2 n cap i A E l w hn hT hAn hAE hEn hsp hs2 _ h8 hC)
 ·obtain⟨hok1,hok2⟩:=q83 hKE;have hC:∀ W,Below w.heap.size w W→Calls Tryz.prog 149 #[.slice a2 (E-A) (cap-A)] W fun e w'=>e=.returned (qoI (qcA (qa2 l A E)))∧Below W.heap.size W w':=fun W hb =>
   qx1 a2 (E-A) (cap-A) _ W hF (ht2.below hb (Nat.le_refl _)) (by omega) (hg.below hb (Nat.le_refl _)) hok1 hok2
  cases hv:qcA (qa2 l A E) with
  | none =>
   rw[hv] at hC;have hbase:qcC l 3 A E=([],0,0,12):=by rw[q2R,hv]
   rcases hw8 with h8|h8
   ·exact qdM hnf (qdX hKE (qgH (.inr rfl) h8) (by decide)) (qmT a a2 n cap i A E l w hn hT hAn hAE hEn hsp hs2 _ h8 hC)
   ·exact qdM hnf (qdX hKE (by rw[qeZ h8,hbase]) (by decide)) (qoW a a2 n cap i A E l w hn hT hAn hAE hEn hsp hs2 _ h8 hC)
  | some me =>
   obtain⟨m,e⟩:=me;rw[hv] at hC;have hbase:qcC l 3 A E=([],0,qaA m e,0):=by rw[q2R,hv]
   rcases hw8 with h8|h8
   ·exact qdM hnf (qdX hKE (qgH (.inr rfl) h8) (by decide)) (qmS a a2 n cap i A E l w hn hT hAn hAE hEn hsp hs2 _ h8 hC)
   ·exact qj5 hnf hAE (qh9 hKE (by rw[qeZ h8,hbase]) hbase) (qr8 a a2 n cap i A E l w hn hT hAn hAE hEn hsp hs2 _ h8 hC)
 ·have hC:∀ W,Below w.heap.size w W→Calls Tryz.prog 150 #[.slice a2 (E-A) (cap-A)] W fun e w'=>e=.returned (qu0 (qbX (qa2 l A E)))∧Below W.heap.size W w':=fun W hb =>
   qsG a2 (E-A) (cap-A) _ W (ht2.below hb (Nat.le_refl _)) (by have:=hK4 rfl;omega) (by omega)
  cases hv:qbX (qa2 l A E) with
  | none =>
   rw[hv] at hC;have hbase:qcC l 4 A E=([],0,0,11):=by rw[q2Q,hv]
   exact qdM hnf (qdX hKE (by rw[qd5 (by decide) (by decide),hbase]) (by decide)) (qoV a a2 n cap i A E l w hn hT hAn hAE hEn hsp hs2 _ hC)
  | some x =>
   rw[hv] at hC;have hbase:qcC l 4 A E=(x,0,0,0):=by rw[q2Q,hv]
   exact qj5 hnf hAE (qh9 hKE (by rw[qd5 (by decide) (by decide),hbase]) hbase) (qr7 a a2 n cap i A E l w hn hT hAn hAE hEn hsp hs2 _ hC)
 ·have hC:∀ W,Below w.heap.size w W→(convert 22 9 (.slice a2 (E-A) (cap-A))).run Tryz.prog W=.ok (.string ⟨(qa2 l A E).toArray⟩) W:=fun W hb=>qhV (ht2.below hb (Nat.le_refl _));refine qj5 hnf hAE (qh9 hKE ?_ (q2P l A E)) (q12 a a2 n cap i A E l w hn hT hAn hAE hEn hsp hs2 _ hC);rw[qd5 (by decide) (by decide),q2P]
def qqO (l:List UInt8):Option Nat:=if qhL 0 l≤9223372036854775807 then some (qhL 0 l) else none
def RefW (l:List UInt8) (w:World) (e:Ending) (w':World):Prop:=(match qqO l with|some v=>e=.returned (.tuple #[.int .i64 v,.bool true])|none=>e=.returned (.tuple #[.int .i64 0,.bool false]))∧w=w'
def qxZ (l:List UInt8) (d:Nat):Nat × Nat :=
 if bAt l d=112 then
  (if tw qa1 l (d+(if bAt l (d+1)=45 then 2 else 1))=0 then (0,0) else ((if bAt l (d+1)=45 then 2 else 1)+tw qa1 l (d+(if bAt l (d+1)=45 then 2 else 1)),if bAt l (d+1)=45 then 2 else 1))
 else (0,0)
end Go.Proofs.YtenlhcgpajphhaaGreatDoor
