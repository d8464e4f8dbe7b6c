import Derived.Test.YtenlhcgpajphhaaGreatDoorRealsPlain
import Derived.Test.YtenlhcgpajphhaaGreatDoorMWhole
import Derived.Laws.Bits64b
import Derived.Test.YtenlhcgpajphhaaGreatDoorMTextWalks
import Derived.WalkKit
import Derived.WalkSpells
import Derived.WalkLawsBesides
import Derived.Lib.Hide
import Derived.Test.YtenlhcgpajphhaaGreatDoorMQuotePlain
import Derived.Test.YtenlhcgpajphhaaGreatDoorNext
namespace Go.Proofs.YtenlhcgpajphhaaGreatDoor
open Go.RowKit Go.Shelf
set_option maxRecDepth 100000
set_option linter.all false
theorem sign_any (b:Nat) (hb:b<18446744073709551616) (w:World):Calls Tryz.prog 211 #[.float .f64 b] w fun e w'=>e=.returned (.bool (decide (9223372036854775808≤b)))∧w=w':=by
 have h1:=f64bits b;by_cases h:9223372036854775808≤b
 ·have e1:IntKind.i64.wrap (b:Int)=(b:Int)-18446744073709551616:=by rw[IntKind.wrap_i64];omega
  have d1:decide ((b:Int)-18446744073709551616<0)=true:=by rw[decide_eq_true_eq];omega
  have d2:decide (9223372036854775808≤b)=true:=by rw[decide_eq_true_eq];exact h
  have d3:(b:Int)<18446744073709551616:=by omega
  rw[d2];clear h hb d2;go_enter Tryz.func211,Tryz.ntmps211;go_wp2;go_ret;exact⟨rfl,rfl⟩
 ·have e1:IntKind.i64.wrap (b:Int)=(b:Int):=by rw[IntKind.wrap_i64];omega
  have d1:decide ((b:Int)<0)=false:=by rw[decide_eq_false_iff_not];omega
  have d2:decide (9223372036854775808≤b)=false:=by rw[decide_eq_false_iff_not];exact h
  rw[d2];clear h hb d2;go_enter Tryz.func211,Tryz.ntmps211;go_wp2;go_ret;exact⟨rfl,rfl⟩
open Lib(hid)
set_option maxHeartbeats 2000000
def valV (kd iv:Int) (rl re im:Nat) (tx:ByteArray):Value:=.agg #[.int .i64 kd,.int .i64 iv,.float .f64 rl,.complex .f64 re im,.string tx]
def mayB (kd iv:Int) (tx:ByteArray):Bool:=if kd=1∨kd=2∨kd=3 then true else if kd=4 then decide (tx.size≤256) else if kd=5 then decide (iv=0∨iv=1) else false
theorem may_any (kd iv:Int) (rl re im:Nat) (tx:ByteArray) (w:World) :
  Calls Tryz.prog 186 #[valV kd iv rl re im tx] w fun e w'=>e=.returned (.bool (mayB kd iv tx))∧Below w.heap.size w w':=by
 unfold valV;have hb:Below w.heap.size w (w.alloc (.cells #[.int .i64 kd,.int .i64 iv,.float .f64 rl,.complex .f64 re im,.string tx] 107)):=(Below.refl _ w).alloc (Nat.le_refl _) _;have HB:=hid hb;clear hb;by_cases h1:kd=1
 ·subst h1;go_enter Tryz.func186,Tryz.ntmps186;go_wp2_with fail;go_ret;exact⟨rfl,HB.out⟩
 by_cases h2:kd=2
 ·subst h2;clear h1;go_enter Tryz.func186,Tryz.ntmps186;go_wp2_with fail;go_ret;exact⟨rfl,HB.out⟩
 by_cases h3:kd=3
 ·subst h3;clear h1 h2;go_enter Tryz.func186,Tryz.ntmps186;go_wp2_with fail;go_ret;exact⟨rfl,HB.out⟩
 by_cases h4:kd=4
 ·subst h4;have hm:mayB 4 iv tx=decide (tx.size≤256):=rfl;rw[hm];cases hd:decide (tx.size≤256) with
  | true =>
   have t1:decide ((tx.size:Int)≤256)=true:=by rw[decide_eq_true_eq] at hd ⊢;omega
   clear h1 h2 h3 hm;go_enter Tryz.func186,Tryz.ntmps186;go_wp2_with fail;go_ret;exact⟨rfl,HB.out⟩
  | false =>
   have t1:decide ((tx.size:Int)≤256)=false:=by rw[decide_eq_false_iff_not] at hd ⊢;omega
   clear h1 h2 h3 hm;go_enter Tryz.func186,Tryz.ntmps186;go_wp2_with fail;go_ret;exact⟨rfl,HB.out⟩
 by_cases h5:kd=5
 ·subst h5;have hm:mayB 5 iv tx=decide (iv=0∨iv=1):=rfl;rw[hm];clear h1 h2 h3 h4 hm;by_cases i0:iv=0
  ·subst i0;go_enter Tryz.func186,Tryz.ntmps186;go_wp2_with fail;go_ret;exact⟨rfl,HB.out⟩
  ·by_cases i1:iv=1
   ·subst i1;clear i0;go_enter Tryz.func186,Tryz.ntmps186;go_wp2_with fail;go_ret;exact⟨rfl,HB.out⟩
   ·have t0:(iv==0)=false:=by simpa using i0
    have t1:(iv==1)=false:=by simpa using i1
    have hd:decide (iv=0∨iv=1)=false:=by simp[i0,i1]
    rw[hd];clear i0 i1 hd;go_enter Tryz.func186,Tryz.ntmps186;go_wp2_with fail;go_ret;exact⟨rfl,HB.out⟩
 ·have hm:mayB kd iv tx=false:=by unfold mayB;rw[if_neg (by omega),if_neg h4,if_neg h5]
  have t1:(kd==1)=false:=by simpa using h1
  have t2:(kd==2)=false:=by simpa using h2
  have t3:(kd==3)=false:=by simpa using h3
  have t4:(kd==4)=false:=by simpa using h4
  have t5:(kd==5)=false:=by simpa using h5
  rw[hm];clear hm h1 h2 h3 h4 h5;go_enter Tryz.func186,Tryz.ntmps186;go_wp2_with fail;go_ret;exact⟨rfl,HB.out⟩
end Go.Proofs.YtenlhcgpajphhaaGreatDoor
namespace Go.Proofs.YtenlhcgpajphhaaGreatDoor
open Go.RowKit
set_option maxRecDepth 100000
set_option linter.all false
def refW (l:List UInt8):Option Nat:=if valD 0 l≤9223372036854775807 then some (valD 0 l) else none
def RefW (l:List UInt8) (w:World) (e:Ending) (w':World):Prop:=(match refW l with|some v=>e=.returned (.tuple #[.int .i64 v,.bool true])|none=>e=.returned (.tuple #[.int .i64 0,.bool false]))∧w=w'
def endF (l:List UInt8) (d:Nat):Nat × Nat :=
 if bAt l d=112 then
  (if tw digitB l (d+(if bAt l (d+1)=45 then 2 else 1))=0 then (0,0) else ((if bAt l (d+1)=45 then 2 else 1)+tw digitB l (d+(if bAt l (d+1)=45 then 2 else 1)),if bAt l (d+1)=45 then 2 else 1))
 else (0,0)
open Lib(hid)
set_option maxHeartbeats 1000000
theorem next_mark (a a2:Option Addr) (n cap i A E:Nat) (l:List UInt8) (w:World) (hn:n≤1048576) (hT:Txt w a n cap l)
  (hA:A≤n) (hAE:A≤E) (hE:E≤n) (hsp:∀ w',Below w.heap.size w w'→Calls Tryz.prog 146 #[.slice a n cap,.int .i64 i] w' fun e w''=>e=.returned (.tuple #[.int .i64 5,.int .i64 A,.int .i64 E])∧w'=w'')
  (hs2:∀ w',(Instr.slice 22 (.slice a n cap) (some (.int .i64 (A:Int))) (some (.int .i64 (E:Int))) none).run Tryz.prog w'=.ok (.slice a2 (E-A) (cap-A)) w') (x:ByteArray)
  (hC:∀ W,Below w.heap.size w W→(convert 22 9 (.slice a2 (E-A) (cap-A))).run Tryz.prog W=.ok (.string x) W) :
  Calls Tryz.prog 131 #[.slice a n cap,.int .i64 i] w fun e w'=>e=.returned (.tuple #[.agg #[.int .i64 5,.string x,.int .i64 0,.float .f64 0,.int .i64 A,.int .i64 ((E:Int)-A)],.int .i64 0])∧Below w.heap.size w w':=by
 have HCC:=hid hC;clear hC;have sf:∀ (p:Addr) (b:Nat) (m:Mode) (w':World),(store p (.float .f64 b) m).run Tryz.prog w'=stored Tryz.prog w' p (.float .f64 b) m:=fun p b m w'=>run_store _ w' p _ m rfl;have HS:=hid hsp;have HT:=hid hT;clear hsp hT;go_enter Tryz.func131,Tryz.ntmps131;go_wp2_with fail;refine(HS.out _ ((Below.refl w.heap.size w).alloc (Nat.le_refl _) _)).mono ?_;rintro e w1 ⟨rfl,hw1⟩;subst hw1;have hcv:=HCC.out ((w.alloc (Obj.cells #[Value.int IntKind.i64 0,Value.string { data:=#[] },Value.int IntKind.i64 0,Value.float FloatKind.f64 0,Value.int IntKind.i64 0,Value.int IntKind.i64 0] 158)).alloc (Obj.cells #[Value.int IntKind.i64 5,Value.string { data:=#[] },Value.int IntKind.i64 0,Value.float FloatKind.f64 0,Value.int IntKind.i64 ↑A,Value.int IntKind.i64 (↑E - ↑A)] 158)) (((Below.refl w.heap.size w).alloc (Nat.le_refl _) _).alloc (by simp) _);go_wp2_with fail;refine bodyPost_ret (v:=.tuple #[.agg #[.int .i64 5,.string x,.int .i64 0,.float .f64 0,.int .i64 A,.int .i64 ((E:Int)-A)],.int .i64 0]) (by simp[results,Tryz.results131,go_sem]) rfl ⟨rfl,?_⟩;exact((Below.refl w.heap.size w).alloc (Nat.le_refl _) _).alloc (by simp) _
theorem next_byte (a a2:Option Addr) (n cap i A E:Nat) (l:List UInt8) (w:World) (hn:n≤1048576) (hT:Txt w a n cap l)
  (hA:A≤n) (hAE:A≤E) (hE:E≤n) (hsp:∀ w',Below w.heap.size w w'→Calls Tryz.prog 146 #[.slice a n cap,.int .i64 i] w' fun e w''=>e=.returned (.tuple #[.int .i64 0,.int .i64 A,.int .i64 E])∧w'=w'')
  (hs2:∀ w',(Instr.slice 22 (.slice a n cap) (some (.int .i64 (A:Int))) (some (.int .i64 (E:Int))) none).run Tryz.prog w'=.ok (.slice a2 (E-A) (cap-A)) w') (hlt:A<n) (hl:l.length=n) :
  Calls Tryz.prog 131 #[.slice a n cap,.int .i64 i] w fun e w'=>e=.returned (.tuple #[.agg #[.int .i64 0,.string ⟨#[]⟩,.int .i64 0,.float .f64 0,.int .i64 A,.int .i64 0],.int .i64 10])∧Below w.heap.size w w':=by
 have sf:∀ (p:Addr) (b:Nat) (m:Mode) (w':World),(store p (.float .f64 b) m).run Tryz.prog w'=stored Tryz.prog w' p (.float .f64 b) m:=fun p b m w'=>run_store _ w' p _ m rfl;have HS:=hid hsp;have HT:=hid hT;clear hsp hT;go_enter Tryz.func131,Tryz.ntmps131;go_wp2_with fail;refine(HS.out _ ((Below.refl w.heap.size w).alloc (Nat.le_refl _) _)).mono ?_;rintro e w1 ⟨rfl,hw1⟩;subst hw1;go_wp2_with fail;refine bodyPost_ret (v:=.tuple #[.agg #[.int .i64 0,.string ⟨#[]⟩,.int .i64 0,.float .f64 0,.int .i64 A,.int .i64 0],.int .i64 10]) (by simp[results,Tryz.results131,go_sem]) rfl ⟨rfl,?_⟩;exact((Below.refl w.heap.size w).alloc (Nat.le_refl _) _).alloc (by simp) _
theorem next_end (a a2:Option Addr) (n cap i A E:Nat) (l:List UInt8) (w:World) (hn:n≤1048576) (hT:Txt w a n cap l)
  (hA:A≤n) (hAE:A≤E) (hE:E≤n) (hsp:∀ w',Below w.heap.size w w'→Calls Tryz.prog 146 #[.slice a n cap,.int .i64 i] w' fun e w''=>e=.returned (.tuple #[.int .i64 0,.int .i64 A,.int .i64 E])∧w'=w'')
  (hs2:∀ w',(Instr.slice 22 (.slice a n cap) (some (.int .i64 (A:Int))) (some (.int .i64 (E:Int))) none).run Tryz.prog w'=.ok (.slice a2 (E-A) (cap-A)) w') (hlt:A=n) (heq:E=A) :
  Calls Tryz.prog 131 #[.slice a n cap,.int .i64 i] w fun e w'=>e=.returned (.tuple #[.agg #[.int .i64 0,.string ⟨#[]⟩,.int .i64 0,.float .f64 0,.int .i64 A,.int .i64 0],.int .i64 0])∧Below w.heap.size w w':=by
 subst heq hlt;have sf:∀ (p:Addr) (b:Nat) (m:Mode) (w':World),(store p (.float .f64 b) m).run Tryz.prog w'=stored Tryz.prog w' p (.float .f64 b) m:=fun p b m w'=>run_store _ w' p _ m rfl;have HS:=hid hsp;have HT:=hid hT;clear hsp hT;go_enter Tryz.func131,Tryz.ntmps131;go_wp2_with fail;refine(HS.out _ ((Below.refl w.heap.size w).alloc (Nat.le_refl _) _)).mono ?_;rintro e w1 ⟨rfl,hw1⟩;subst hw1;go_wp2_with fail;refine bodyPost_ret (v:=.tuple #[.agg #[.int .i64 0,.string ⟨#[]⟩,.int .i64 0,.float .f64 0,.int .i64 E,.int .i64 0],.int .i64 0]) (by simp[results,Tryz.results131,go_sem]) rfl ⟨rfl,?_⟩;exact((Below.refl w.heap.size w).alloc (Nat.le_refl _) _).alloc (by simp) _
theorem baseF_1 (l:List UInt8) (A E:Nat):baseF l 1 A E=if E-A≤32 then (pieceOf l A E,0,0,0) else ([],0,0,13):=rfl
theorem baseF_2 (l:List UInt8) (A E:Nat):baseF l 2 A E=match wholeF (pieceOf l A E) with|some v=>([],v,0,0)|none=>([],0,0,12):=rfl
theorem baseF_3 (l:List UInt8) (A E:Nat):baseF l 3 A E=match scaledF (pieceOf l A E) with|some (m,e)=>([],0,realBits m e,0)|none=>([],0,0,12):=rfl
theorem baseF_4 (l:List UInt8) (A E:Nat):baseF l 4 A E=match unquoteF (pieceOf l A E) with|some s=>(s,0,0,0)|none=>([],0,0,11):=rfl
theorem baseF_5 (l:List UInt8) (A E:Nat):baseF l 5 A E=(pieceOf l A E,0,0,0):=rfl
theorem baseF_0 (l:List UInt8) (A E:Nat):baseF l 0 A E=([],0,0,if A<l.length then 10 else 0):=rfl
theorem tokAt_bad {l:List UInt8} {A K E f:Nat} (h:spanE l A=(K,E)) (hf:faultF l K A E=f) (h0:f≠0):tokAt l A=(⟨0,[],0,0,A,0⟩,f):=by
 unfold tokAt;rw[h];simp only;rw[hf,if_pos h0]
theorem tokAt_ok {l:List UInt8} {A K E:Nat} {x:List UInt8} {v:Int} {r:Nat} (h:spanE l A=(K,E)) (hf:faultF l K A E=0) (hb:baseF l K A E=(x,v,r,0)):tokAt l A=(⟨K,x,v,r,A,E-A⟩,0):=by
 unfold tokAt;rw[h];simp only;rw[hf,if_neg (fun h=>h rfl),hb]
theorem faultF_other {l:List UInt8} {K A E:Nat} (h2:K≠2) (h3:K≠3):faultF l K A E=(baseF l K A E).2.2.2:=by
 unfold faultF;rw[if_neg (by intro h;rcases h.1 with h|h;exact h2 h;exact h3 h)]
theorem faultF_word {l:List UInt8} {K A E:Nat} (h:K=2∨K=3) (hw:wordB (bAt l E)=true):faultF l K A E=12:=by
 unfold faultF;rw[if_pos ⟨h,hw⟩]
theorem faultF_noword {l:List UInt8} {K A E:Nat} (hw:wordB (bAt l E)=false):faultF l K A E=(baseF l K A E).2.2.2:=by
 unfold faultF;rw[if_neg (by intro h;rw[hw] at h;cases h.2)]
theorem spanE_zero {l:List UInt8} {A E:Nat} (h:spanE l A=(0,E)):E=A:=by
 unfold spanE numEnd at h;split at h
 ·simp at h
 ·split at h
  ·split at h
   ·simp at h
   ·split at h <;> simp at h
  ·split at h
   ·simp at h
   ·split at h
    ·simp at h
    ·simp at h;exact h.symm
section
variable {a:Option Addr} {n cap i A E:Nat} {l:List UInt8} {w:World}
theorem close_ok {K:Nat} {x:List UInt8} {v:Int} {r:Nat} (hnf:nextF l i=tokAt l A) (hAE:A≤E) (ht:tokAt l A=(⟨K,x,v,r,A,E-A⟩,0))
  (hc:Calls Tryz.prog 131 #[.slice a n cap,.int .i64 i] w fun e w'=>e=.returned (.tuple #[.agg #[.int .i64 K,.string ⟨x.toArray⟩,.int .i64 v,.float .f64 r,.int .i64 A,.int .i64 ((E:Int)-A)],.int .i64 0])∧Below w.heap.size w w') :
  Calls Tryz.prog 131 #[.slice a n cap,.int .i64 i] w fun e w'=>e=.returned (.tuple #[tokVal (nextF l i).1,.int .i64 (nextF l i).2])∧Below w.heap.size w w':=by
 refine hc.mono ?_;rintro e w' ⟨rfl,hb⟩;refine⟨?_,hb⟩;rw[hnf,ht,← Int.ofNat_sub hAE];rfl
theorem close_bad {f:Nat} (hnf:nextF l i=tokAt l A) (ht:tokAt l A=(⟨0,[],0,0,A,0⟩,f))
  (hc:Calls Tryz.prog 131 #[.slice a n cap,.int .i64 i] w fun e w'=>e=.returned (.tuple #[.agg #[.int .i64 0,.string ⟨#[]⟩,.int .i64 0,.float .f64 0,.int .i64 A,.int .i64 0],.int .i64 f])∧Below w.heap.size w w') :
  Calls Tryz.prog 131 #[.slice a n cap,.int .i64 i] w fun e w'=>e=.returned (.tuple #[tokVal (nextF l i).1,.int .i64 (nextF l i).2])∧Below w.heap.size w w':=by
 refine hc.mono ?_;rintro e w' ⟨rfl,hb⟩;refine⟨?_,hb⟩;rw[hnf,ht];rfl
end
theorem next_any (a:Option Addr) (n cap i:Nat) (l:List UInt8) (w:World) (hF:LdexpSaid) (hT:Txt w a n cap l) (hn:n≤1048576) (hi:i≤n) (hg:Glob w) :
  Calls Tryz.prog 131 #[.slice a n cap,.int .i64 i] w fun e w'=>e=.returned (.tuple #[tokVal (nextF l i).1,.int .i64 (nextF l i).2])∧Below w.heap.size w w':=by
 have hl:=hT.1;obtain⟨A,hAd⟩:∃ A,A=i+skipS false (l.drop i):=⟨_,rfl⟩
 have hAn:A≤n:=by
  have:=skip_le false (l.drop i);simp at this;omega
 obtain⟨⟨K,E⟩,hKE⟩:∃ p,spanE l A=p:=⟨_,rfl⟩
 have hbd:=spanE_bounds l A (by omega);rw[hKE] at hbd;obtain⟨hAE,hEl,hK5,hK4⟩:=hbd;simp only at hAE hEl hK5 hK4;have hEn:E≤n:=by omega
 have hnf:nextF l i=tokAt l A:=by unfold nextF;rw[← hAd]
 have hsp:∀ w',Below w.heap.size w w'→Calls Tryz.prog 146 #[.slice a n cap,.int .i64 i] w' fun e w''=>e=.returned (.tuple #[.int .i64 K,.int .i64 A,.int .i64 E])∧w'=w'':=by
  intro w' hb;have h:=span_any a n cap i l w' (hT.below hb (Nat.le_refl _)) (by omega) hi;rw[← hAd,hKE] at h;exact h
 obtain⟨a2,hs2,ht2⟩:=slice_mid A E hT hAE hEn;have hP:(l.drop A).take (E-A)=pieceOf l A E:=rfl;rw[hP] at ht2;have hw8:wordB (bAt l E)=true∨wordB (bAt l E)=false:=by cases wordB (bAt l E) <;> simp
 have hcases:K=0∨K=1∨K=2∨K=3∨K=4∨K=5:=by omega
 rcases hcases with rfl|rfl|rfl|rfl|rfl|rfl
 ·have hEA:=spanE_zero hKE;subst hEA;rcases Nat.lt_or_ge E n with hlt|hge
  ·refine close_bad hnf (tokAt_bad hKE (f:=10) ?_ (by decide)) (next_byte a a2 n cap i E E l w hn hT hAn hAE hEn hsp hs2 hlt hl);rw[faultF_other (by decide) (by decide),baseF_0];exact if_pos (by omega)
  ·refine close_bad hnf ?_ (next_end a a2 n cap i E E l w hn hT hAn hAE hEn hsp hs2 (by omega) rfl);have:=tokAt_ok (x:=[]) (v:=0) (r:=0) hKE (by rw[faultF_other (by decide) (by decide),baseF_0];exact if_neg (by omega)) (by rw[baseF_0,if_neg (by omega)]);rw[this,Nat.sub_self]
 ·have hC:∀ W,Below w.heap.size w W→Calls Tryz.prog 147 #[.slice a2 (E-A) (cap-A)] W fun e w'=>e=.returned (if E-A≤32 then .tuple #[.string ⟨(pieceOf l A E).toArray⟩,.int .i64 0] else .tuple #[.string ⟨#[]⟩,.int .i64 13])∧Below W.heap.size W w':=fun W hb =>
   (name_any a2 (E-A) (cap-A) _ W (ht2.below hb (Nat.le_refl _))).mono (by rintro e w' ⟨rfl,rfl⟩;exact⟨rfl,Below.refl _ _⟩)
  by_cases h32:E-A≤32
  ·simp only[if_pos h32] at hC;refine close_ok (r:=0) hnf hAE (tokAt_ok hKE ?_ ?_) (next_name_ok a a2 n cap i A E l w hn hT hAn hAE hEn hsp hs2 _ hC)
   ·rw[faultF_other (by decide) (by decide),baseF_1,if_pos h32]
   ·rw[baseF_1,if_pos h32]
  ·simp only[if_neg h32] at hC;refine close_bad hnf (tokAt_bad hKE (f:=13) ?_ (by decide)) (next_name_bad a a2 n cap i A E l w hn hT hAn hAE hEn hsp hs2 _ hC);rw[faultF_other (by decide) (by decide),baseF_1,if_neg h32]
 ·have hC:∀ W,Below w.heap.size w W→Calls Tryz.prog 148 #[.slice a2 (E-A) (cap-A)] W fun e w'=>e=.returned (wholeV (wholeF (pieceOf l A E)))∧Below W.heap.size W w':=fun W hb =>
   whole_any a2 (E-A) (cap-A) _ W (ht2.below hb (Nat.le_refl _)) (by omega) (hg.below hb (Nat.le_refl _))
  cases hv:wholeF (pieceOf l A E) with
  | none =>
   rw[hv] at hC;have hbase:baseF l 2 A E=([],0,0,12):=by rw[baseF_2,hv]
   rcases hw8 with h8|h8
   ·exact close_bad hnf (tokAt_bad hKE (faultF_word (.inl rfl) h8) (by decide)) (next_int_bad2 a a2 n cap i A E l w hn hT hAn hAE hEn hsp hs2 _ h8 hC)
   ·exact close_bad hnf (tokAt_bad hKE (by rw[faultF_noword h8,hbase]) (by decide)) (next_int_bad a a2 n cap i A E l w hn hT hAn hAE hEn hsp hs2 _ h8 hC)
  | some v =>
   rw[hv] at hC;have hbase:baseF l 2 A E=([],v,0,0):=by rw[baseF_2,hv]
   rcases hw8 with h8|h8
   ·exact close_bad hnf (tokAt_bad hKE (faultF_word (.inl rfl) h8) (by decide)) (next_int_word a a2 n cap i A E l w hn hT hAn hAE hEn hsp hs2 _ h8 hC)
   ·exact close_ok hnf hAE (tokAt_ok hKE (by rw[faultF_noword h8,hbase]) hbase) (next_int_ok a a2 n cap i A E l w hn hT hAn hAE hEn hsp hs2 _ h8 hC)
 ·obtain⟨hok1,hok2⟩:=real_ok hKE;have hC:∀ W,Below w.heap.size w W→Calls Tryz.prog 149 #[.slice a2 (E-A) (cap-A)] W fun e w'=>e=.returned (scaledV (scaledF (pieceOf l A E)))∧Below W.heap.size W w':=fun W hb =>
   scaled_any a2 (E-A) (cap-A) _ W hF (ht2.below hb (Nat.le_refl _)) (by omega) (hg.below hb (Nat.le_refl _)) hok1 hok2
  cases hv:scaledF (pieceOf l A E) with
  | none =>
   rw[hv] at hC;have hbase:baseF l 3 A E=([],0,0,12):=by rw[baseF_3,hv]
   rcases hw8 with h8|h8
   ·exact close_bad hnf (tokAt_bad hKE (faultF_word (.inr rfl) h8) (by decide)) (next_real_bad2 a a2 n cap i A E l w hn hT hAn hAE hEn hsp hs2 _ h8 hC)
   ·exact close_bad hnf (tokAt_bad hKE (by rw[faultF_noword h8,hbase]) (by decide)) (next_real_bad a a2 n cap i A E l w hn hT hAn hAE hEn hsp hs2 _ h8 hC)
  | some me =>
   obtain⟨m,e⟩:=me;rw[hv] at hC;have hbase:baseF l 3 A E=([],0,realBits m e,0):=by rw[baseF_3,hv]
   rcases hw8 with h8|h8
   ·exact close_bad hnf (tokAt_bad hKE (faultF_word (.inr rfl) h8) (by decide)) (next_real_word a a2 n cap i A E l w hn hT hAn hAE hEn hsp hs2 _ h8 hC)
   ·exact close_ok hnf hAE (tokAt_ok hKE (by rw[faultF_noword h8,hbase]) hbase) (next_real_ok a a2 n cap i A E l w hn hT hAn hAE hEn hsp hs2 _ h8 hC)
 ·have hC:∀ W,Below w.heap.size w W→Calls Tryz.prog 150 #[.slice a2 (E-A) (cap-A)] W fun e w'=>e=.returned (unquoteV (unquoteF (pieceOf l A E)))∧Below W.heap.size W w':=fun W hb =>
   unquote_any a2 (E-A) (cap-A) _ W (ht2.below hb (Nat.le_refl _)) (by have:=hK4 rfl;omega) (by omega)
  cases hv:unquoteF (pieceOf l A E) with
  | none =>
   rw[hv] at hC;have hbase:baseF l 4 A E=([],0,0,11):=by rw[baseF_4,hv]
   exact close_bad hnf (tokAt_bad hKE (by rw[faultF_other (by decide) (by decide),hbase]) (by decide)) (next_text_bad a a2 n cap i A E l w hn hT hAn hAE hEn hsp hs2 _ hC)
  | some x =>
   rw[hv] at hC;have hbase:baseF l 4 A E=(x,0,0,0):=by rw[baseF_4,hv]
   exact close_ok hnf hAE (tokAt_ok hKE (by rw[faultF_other (by decide) (by decide),hbase]) hbase) (next_text_ok a a2 n cap i A E l w hn hT hAn hAE hEn hsp hs2 _ hC)
 ·have hC:∀ W,Below w.heap.size w W→(convert 22 9 (.slice a2 (E-A) (cap-A))).run Tryz.prog W=.ok (.string ⟨(pieceOf l A E).toArray⟩) W:=fun W hb=>text_of (ht2.below hb (Nat.le_refl _));refine close_ok hnf hAE (tokAt_ok hKE ?_ (baseF_5 l A E)) (next_mark a a2 n cap i A E l w hn hT hAn hAE hEn hsp hs2 _ hC);rw[faultF_other (by decide) (by decide),baseF_5]
end Go.Proofs.YtenlhcgpajphhaaGreatDoor
