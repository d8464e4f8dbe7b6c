import Derived.Test.YtkpboalccpancaaGreatDoorQRealsPlain
import Derived.Test.YtkpboalccpancaaGreatDoorQMWhole
import Derived.Laws.Bits64b
import Derived.Test.YtkpboalccpancaaGreatDoorQMExPlain
import Derived.Test.YtkpboalccpancaaGreatDoorQMNextPlain
import Derived.Test.YtkpboalccpancaaGreatDoorQNext
import Derived.Test.YtkpboalccpancaaGreatDoorQMTextWalks
import Derived.WalkKit
import Derived.WalkSpells
import Derived.WalkLawsBesides
import Derived.Lib.Hide
import Derived.Test.YtkpboalccpancaaGreatDoorQMQuotePlain
namespace Go.Proofs.YtkpboalccpancaaGreatDoor
open Go.RowKit Go.Shelf
set_option maxRecDepth 100000
set_option linter.all false
theorem sign_any (b:Nat) (hb:b<18446744073709551616) (w:World):Calls Tryz.prog 205 #[.float .f64 b] w fun e w'=>e=.returned (.bool (decide (9223372036854775808≤b)))∧w=w':=by
 have h1:=f64bits b;by_cases h:9223372036854775808≤b
 ·have e1:IntKind.i64.wrap (b:Int)=(b:Int)-18446744073709551616:=by rw[IntKind.wrap_i64];omega
  have d1:decide ((b:Int)-18446744073709551616<0)=true:=by rw[decide_eq_true_eq];omega
  have d2:decide (9223372036854775808≤b)=true:=by rw[decide_eq_true_eq];exact h
  have d3:(b:Int)<18446744073709551616:=by omega
  rw[d2];clear h hb d2;go_enter Tryz.func205,Tryz.ntmps205;go_wp2;go_ret;exact⟨rfl,rfl⟩
 ·have e1:IntKind.i64.wrap (b:Int)=(b:Int):=by rw[IntKind.wrap_i64];omega
  have d1:decide ((b:Int)<0)=false:=by rw[decide_eq_false_iff_not];omega
  have d2:decide (9223372036854775808≤b)=false:=by rw[decide_eq_false_iff_not];exact h
  rw[d2];clear h hb d2;go_enter Tryz.func205,Tryz.ntmps205;go_wp2;go_ret;exact⟨rfl,rfl⟩
open Lib(hid)
set_option maxHeartbeats 2000000
def valV (kd iv:Int) (rl re im:Nat) (tx:ByteArray):Value:=.agg #[.int .i64 kd,.int .i64 iv,.float .f64 rl,.complex .f64 re im,.string tx]
def mayB (kd iv:Int) (tx:ByteArray):Bool:=if kd=1∨kd=2∨kd=3 then true else if kd=4 then decide (tx.size≤256) else if kd=5 then decide (iv=0∨iv=1) else false
theorem may_any (kd iv:Int) (rl re im:Nat) (tx:ByteArray) (w:World) :
  Calls Tryz.prog 198 #[valV kd iv rl re im tx] w fun e w'=>e=.returned (.bool (mayB kd iv tx))∧Below w.heap.size w w':=by
 unfold valV;have hb:Below w.heap.size w (w.alloc (.cells #[.int .i64 kd,.int .i64 iv,.float .f64 rl,.complex .f64 re im,.string tx] 102)):=(Below.refl _ w).alloc (Nat.le_refl _) _;have HB:=hid hb;clear hb;by_cases h1:kd=1
 ·subst h1;go_enter Tryz.func198,Tryz.ntmps198;go_wp2_with fail;go_ret;exact⟨rfl,HB.out⟩
 by_cases h2:kd=2
 ·subst h2;clear h1;go_enter Tryz.func198,Tryz.ntmps198;go_wp2_with fail;go_ret;exact⟨rfl,HB.out⟩
 by_cases h3:kd=3
 ·subst h3;clear h1 h2;go_enter Tryz.func198,Tryz.ntmps198;go_wp2_with fail;go_ret;exact⟨rfl,HB.out⟩
 by_cases h4:kd=4
 ·subst h4;have hm:mayB 4 iv tx=decide (tx.size≤256):=rfl;rw[hm];cases hd:decide (tx.size≤256) with
  | true =>
   have t1:decide ((tx.size:Int)≤256)=true:=by rw[decide_eq_true_eq] at hd ⊢;omega
   clear h1 h2 h3 hm;go_enter Tryz.func198,Tryz.ntmps198;go_wp2_with fail;go_ret;exact⟨rfl,HB.out⟩
  | false =>
   have t1:decide ((tx.size:Int)≤256)=false:=by rw[decide_eq_false_iff_not] at hd ⊢;omega
   clear h1 h2 h3 hm;go_enter Tryz.func198,Tryz.ntmps198;go_wp2_with fail;go_ret;exact⟨rfl,HB.out⟩
 by_cases h5:kd=5
 ·subst h5;have hm:mayB 5 iv tx=decide (iv=0∨iv=1):=rfl;rw[hm];clear h1 h2 h3 h4 hm;by_cases i0:iv=0
  ·subst i0;go_enter Tryz.func198,Tryz.ntmps198;go_wp2_with fail;go_ret;exact⟨rfl,HB.out⟩
  ·by_cases i1:iv=1
   ·subst i1;clear i0;go_enter Tryz.func198,Tryz.ntmps198;go_wp2_with fail;go_ret;exact⟨rfl,HB.out⟩
   ·have t0:(iv==0)=false:=by simpa using i0
    have t1:(iv==1)=false:=by simpa using i1
    have hd:decide (iv=0∨iv=1)=false:=by simp[i0,i1]
    rw[hd];clear i0 i1 hd;go_enter Tryz.func198,Tryz.ntmps198;go_wp2_with fail;go_ret;exact⟨rfl,HB.out⟩
 ·have hm:mayB kd iv tx=false:=by unfold mayB;rw[if_neg (by omega),if_neg h4,if_neg h5]
  have t1:(kd==1)=false:=by simpa using h1
  have t2:(kd==2)=false:=by simpa using h2
  have t3:(kd==3)=false:=by simpa using h3
  have t4:(kd==4)=false:=by simpa using h4
  have t5:(kd==5)=false:=by simpa using h5
  rw[hm];clear hm h1 h2 h3 h4 h5;go_enter Tryz.func198,Tryz.ntmps198;go_wp2_with fail;go_ret;exact⟨rfl,HB.out⟩
end Go.Proofs.YtkpboalccpancaaGreatDoor
namespace Go.Proofs.YtkpboalccpancaaGreatDoor
open Go.RowKit
set_option linter.all false
def inR (N:Nat):Rs→Prop
 | .ok _ q=>q≤N
 | .bad q=>q≤N
theorem gL_no {L:List TokE} {k:Nat} (h:¬ k<L.length):gL L k=.no:=by unfold gL;rw[if_neg h]
theorem isM_lt {L:List TokE} {k:Nat} {s:List UInt8} (h:isM (gL L k) s=true):k<L.length:=by
 rcases Nat.lt_or_ge k L.length with h'|h'
 ·exact h'
 ·rw[gL_no (by omega)] at h;cases h
theorem thenR_in {N:Nat} {o:Option Rs} {k:Ex→Nat→Option Rs} {r:Rs} (h:thenR o k=some r) (h1:∀ x,o=some x→inR N x) (h2:∀ a q,q≤N→k a q=some r→inR N r):inR N r:=by
 unfold thenR at h;cases ho:o with
 | none=>rw[ho] at h;cases h
 | some x =>
  rw[ho] at h;have hx:=h1 x ho;cases x with
  | ok a e=>exact h2 a e hx h
  | bad e=>cases h;exact hx
theorem rd_in (L:List TokE):∀ (f:Nat) (X:Nt) (p:Nat) (r:Rs),(∀ n a,X=.loop n a→1≤n)→(∀ n,X=.lvl n→1≤n)→p≤L.length→rd (gL L) f X p=some r→inR L.length r:=by
 intro f
 induction f with
 | zero=>intro X p r _ _ _ h;unfold rd at h;cases h
 | succ f ih =>
  intro X p r hl hv hp h;have ih1:∀ n p r,1≤n→p≤L.length→rd (gL L) f (.lvl n) p=some r→inR L.length r:=fun n p r hn hp h=>ih _ _ _ (fun _ _ e=>by cases e) (fun _ e=>by cases e;exact hn) hp h;cases X with
  | lvl n =>
   have hn:=hv n rfl;rw[rd] at h;split at h
   ·cases hg:gL L p with
    | leaf l =>
     rw[hg] at h;have hlt:p<L.length:=by
      rcases Nat.lt_or_ge p L.length with h'|h'
      ·exact h'
      ·rw[gL_no (by omega)] at hg;cases hg
     cases h;exact hlt
    | mark s =>
     rw[hg] at h;have hlt:p<L.length:=by
      rcases Nat.lt_or_ge p L.length with h'|h'
      ·exact h'
      ·rw[gL_no (by omega)] at hg;cases hg
     simp only at h;split at h
     ·refine thenR_in h (fun x hx=>ih1 1 _ _ (by omega) hlt hx) (fun a q hq hk=>?_);split at hk
      ·rename_i hm;cases hk;exact isM_lt hm
      ·cases hk;exact hq
     ·cases h;exact hp
    | word k =>
     rw[hg] at h;have hlt:p<L.length:=by
      rcases Nat.lt_or_ge p L.length with h'|h'
      ·exact h'
      ·rw[gL_no (by omega)] at hg;cases hg
     simp only at h;split at h
     ·rename_i hb;have hlt2:=isM_lt hb;refine thenR_in h (fun x hx=>ih1 1 _ _ (by omega) hlt2 hx) (fun a q hq hk=>?_);split at hk
      ·split at hk
       ·rename_i hm;cases hk;exact isM_lt hm
       ·cases hk;exact hq
      ·split at hk
       ·rename_i hm;have hlt3:=isM_lt hm;refine thenR_in hk (fun x hx=>ih1 1 _ _ (by omega) hlt3 hx) (fun b q2 hq2 hk2=>?_);split at hk2
        ·rename_i hm2;cases hk2;exact isM_lt hm2
        ·cases hk2;exact hq2
       ·cases hk;exact hq
     ·cases h;exact hlt
    | no=>rw[hg] at h;cases h;exact hp
   ·split at h
    ·split at h
     ·exact ih1 _ _ _ (by omega) hp h
     ·rename_i hs;have hlt:p<L.length:=by
       rcases Nat.lt_or_ge p L.length with h'|h'
       ·exact h'
       ·rw[gL_no (by omega)] at hs;exact absurd rfl hs
      exact thenR_in h (fun x hx=>ih1 6 _ _ (by omega) hlt hx) (fun a q hq hk=>by cases hk;exact hq)
    ·exact thenR_in h (fun x hx=>ih1 _ _ _ (by omega) hp hx) (fun a q hq hk=>ih _ _ _ (fun _ _ e=>by cases e;exact hn) (fun _ e=>by cases e) hq hk)
  | loop n a =>
   have hn:=hl n a rfl;rw[rd] at h;split at h
   ·rename_i hop;have hlt:p<L.length:=by
     rcases Nat.lt_or_ge p L.length with h'|h'
     ·exact h'
     ·rw[gL_no (by omega)] at hop;have e0:opL (clK .no)=0:=rfl;omega
    refine thenR_in h (fun x hx=>ih1 _ _ _ (by omega) hlt hx) (fun b q hq hk=>?_);split at hk
    ·cases hk;exact hq
    ·exact ih _ _ _ (fun _ _ e=>by cases e;exact hn) (fun _ e=>by cases e) hq hk
   ·cases h;exact hp
theorem Rd.bad_le {L:List TokE} {n p q:Nat} (hn:1≤n) (hp:p≤L.length) (h:Rd (gL L) (.lvl n) p (.bad q)):q≤L.length:=by
 obtain⟨f,hf⟩:=h;exact rd_in L f _ _ _ (fun _ _ e=>by cases e) (fun _ e=>by cases e;exact hn) hp hf
theorem Rd.ok_le {L:List TokE} {n p q:Nat} {t:Ex} (hn:1≤n) (hp:p≤L.length) (h:Rd (gL L) (.lvl n) p (.ok t q)):q≤L.length:=by
 obtain⟨f,hf⟩:=h;exact rd_in L f _ _ _ (fun _ _ e=>by cases e) (fun _ e=>by cases e;exact hn) hp hf
def tokE (t:Tok):TokE:=⟨t.kind,⟨t.text.toArray⟩,t.int,t.real,t.at_,t.size⟩
open Lib(hid)
set_option maxRecDepth 100000
set_option maxHeartbeats 1000000
theorem next_mark (a a2:Option Addr) (n cap i A E:Nat) (l:List UInt8) (w:World) (hn:n≤1048576) (hT:Txt w a n cap l)
  (hA:A≤n) (hAE:A≤E) (hE:E≤n) (hsp:∀ w',Below w.heap.size w w'→Calls Tryz.prog 107 #[.slice a n cap,.int .i64 i] w' fun e w''=>e=.returned (.tuple #[.int .i64 5,.int .i64 A,.int .i64 E])∧w'=w'')
  (hs2:∀ w',(Instr.slice 22 (.slice a n cap) (some (.int .i64 (A:Int))) (some (.int .i64 (E:Int))) none).run Tryz.prog w'=.ok (.slice a2 (E-A) (cap-A)) w') (x:ByteArray)
  (hC:∀ W,Below w.heap.size w W→(convert 22 9 (.slice a2 (E-A) (cap-A))).run Tryz.prog W=.ok (.string x) W) :
  Calls Tryz.prog 94 #[.slice a n cap,.int .i64 i] w fun e w'=>e=.returned (.tuple #[.agg #[.int .i64 5,.string x,.int .i64 0,.float .f64 0,.int .i64 A,.int .i64 ((E:Int)-A)],.int .i64 0])∧Below w.heap.size w w':=by
 have HCC:=hid hC;clear hC;have sf:∀ (p:Addr) (b:Nat) (m:Mode) (w':World),(store p (.float .f64 b) m).run Tryz.prog w'=stored Tryz.prog w' p (.float .f64 b) m:=fun p b m w'=>run_store _ w' p _ m rfl;have HS:=hid hsp;have HT:=hid hT;clear hsp hT;go_enter Tryz.func94,Tryz.ntmps94;go_wp2_with fail;refine(HS.out _ ((Below.refl w.heap.size w).alloc (Nat.le_refl _) _)).mono ?_;rintro e w1 ⟨rfl,hw1⟩;subst hw1;have hcv:=HCC.out ((w.alloc (Obj.cells #[Value.int IntKind.i64 0,Value.string { data:=#[] },Value.int IntKind.i64 0,Value.float FloatKind.f64 0,Value.int IntKind.i64 0,Value.int IntKind.i64 0] 132)).alloc (Obj.cells #[Value.int IntKind.i64 5,Value.string { data:=#[] },Value.int IntKind.i64 0,Value.float FloatKind.f64 0,Value.int IntKind.i64 ↑A,Value.int IntKind.i64 (↑E - ↑A)] 132)) (((Below.refl w.heap.size w).alloc (Nat.le_refl _) _).alloc (by simp) _);go_wp2_with fail;refine bodyPost_ret (v:=.tuple #[.agg #[.int .i64 5,.string x,.int .i64 0,.float .f64 0,.int .i64 A,.int .i64 ((E:Int)-A)],.int .i64 0]) (by simp[results,Tryz.results94,go_sem]) rfl ⟨rfl,?_⟩;exact((Below.refl w.heap.size w).alloc (Nat.le_refl _) _).alloc (by simp) _
theorem next_byte (a a2:Option Addr) (n cap i A E:Nat) (l:List UInt8) (w:World) (hn:n≤1048576) (hT:Txt w a n cap l)
  (hA:A≤n) (hAE:A≤E) (hE:E≤n) (hsp:∀ w',Below w.heap.size w w'→Calls Tryz.prog 107 #[.slice a n cap,.int .i64 i] w' fun e w''=>e=.returned (.tuple #[.int .i64 0,.int .i64 A,.int .i64 E])∧w'=w'')
  (hs2:∀ w',(Instr.slice 22 (.slice a n cap) (some (.int .i64 (A:Int))) (some (.int .i64 (E:Int))) none).run Tryz.prog w'=.ok (.slice a2 (E-A) (cap-A)) w') (hlt:A<n) (hl:l.length=n) :
  Calls Tryz.prog 94 #[.slice a n cap,.int .i64 i] w fun e w'=>e=.returned (.tuple #[.agg #[.int .i64 0,.string ⟨#[]⟩,.int .i64 0,.float .f64 0,.int .i64 A,.int .i64 0],.int .i64 10])∧Below w.heap.size w w':=by
 have sf:∀ (p:Addr) (b:Nat) (m:Mode) (w':World),(store p (.float .f64 b) m).run Tryz.prog w'=stored Tryz.prog w' p (.float .f64 b) m:=fun p b m w'=>run_store _ w' p _ m rfl;have HS:=hid hsp;have HT:=hid hT;clear hsp hT;go_enter Tryz.func94,Tryz.ntmps94;go_wp2_with fail;refine(HS.out _ ((Below.refl w.heap.size w).alloc (Nat.le_refl _) _)).mono ?_;rintro e w1 ⟨rfl,hw1⟩;subst hw1;go_wp2_with fail;refine bodyPost_ret (v:=.tuple #[.agg #[.int .i64 0,.string ⟨#[]⟩,.int .i64 0,.float .f64 0,.int .i64 A,.int .i64 0],.int .i64 10]) (by simp[results,Tryz.results94,go_sem]) rfl ⟨rfl,?_⟩;exact((Below.refl w.heap.size w).alloc (Nat.le_refl _) _).alloc (by simp) _
theorem next_end (a a2:Option Addr) (n cap i A E:Nat) (l:List UInt8) (w:World) (hn:n≤1048576) (hT:Txt w a n cap l)
  (hA:A≤n) (hAE:A≤E) (hE:E≤n) (hsp:∀ w',Below w.heap.size w w'→Calls Tryz.prog 107 #[.slice a n cap,.int .i64 i] w' fun e w''=>e=.returned (.tuple #[.int .i64 0,.int .i64 A,.int .i64 E])∧w'=w'')
  (hs2:∀ w',(Instr.slice 22 (.slice a n cap) (some (.int .i64 (A:Int))) (some (.int .i64 (E:Int))) none).run Tryz.prog w'=.ok (.slice a2 (E-A) (cap-A)) w') (hlt:A=n) (heq:E=A) :
  Calls Tryz.prog 94 #[.slice a n cap,.int .i64 i] w fun e w'=>e=.returned (.tuple #[.agg #[.int .i64 0,.string ⟨#[]⟩,.int .i64 0,.float .f64 0,.int .i64 A,.int .i64 0],.int .i64 0])∧Below w.heap.size w w':=by
 subst heq hlt;have sf:∀ (p:Addr) (b:Nat) (m:Mode) (w':World),(store p (.float .f64 b) m).run Tryz.prog w'=stored Tryz.prog w' p (.float .f64 b) m:=fun p b m w'=>run_store _ w' p _ m rfl;have HS:=hid hsp;have HT:=hid hT;clear hsp hT;go_enter Tryz.func94,Tryz.ntmps94;go_wp2_with fail;refine(HS.out _ ((Below.refl w.heap.size w).alloc (Nat.le_refl _) _)).mono ?_;rintro e w1 ⟨rfl,hw1⟩;subst hw1;go_wp2_with fail;refine bodyPost_ret (v:=.tuple #[.agg #[.int .i64 0,.string ⟨#[]⟩,.int .i64 0,.float .f64 0,.int .i64 E,.int .i64 0],.int .i64 0]) (by simp[results,Tryz.results94,go_sem]) rfl ⟨rfl,?_⟩;exact((Below.refl w.heap.size w).alloc (Nat.le_refl _) _).alloc (by simp) _
theorem baseF_1 (l:List UInt8) (A E:Nat):baseF l 1 A E=if E-A≤32 then (pieceOf l A E,0,0,0) else ([],0,0,13):=rfl
theorem baseF_2 (l:List UInt8) (A E:Nat):baseF l 2 A E=match wholeF (pieceOf l A E) with|some v=>([],v,0,0)|none=>([],0,0,12):=rfl
theorem baseF_3 (l:List UInt8) (A E:Nat):baseF l 3 A E=match scaledF (pieceOf l A E) with|some (m,e)=>([],0,realBits m e,0)|none=>([],0,0,12):=rfl
theorem baseF_4 (l:List UInt8) (A E:Nat):baseF l 4 A E=match unquoteF (pieceOf l A E) with|some s=>(s,0,0,0)|none=>([],0,0,11):=rfl
theorem baseF_5 (l:List UInt8) (A E:Nat):baseF l 5 A E=(pieceOf l A E,0,0,0):=rfl
theorem baseF_0 (l:List UInt8) (A E:Nat):baseF l 0 A E=([],0,0,if A<l.length then 10 else 0):=rfl
theorem tokAt_bad {l:List UInt8} {A K E f:Nat} (h:spanE l A=(K,E)) (hf:faultF l K A E=f) (h0:f≠0):tokAt l A=(⟨0,[],0,0,A,0⟩,f):=by
 unfold tokAt;rw[h];simp only;rw[hf,if_pos h0]
theorem tokAt_ok {l:List UInt8} {A K E:Nat} {x:List UInt8} {v:Int} {r:Nat} (h:spanE l A=(K,E)) (hf:faultF l K A E=0) (hb:baseF l K A E=(x,v,r,0)):tokAt l A=(⟨K,x,v,r,A,E-A⟩,0):=by
 unfold tokAt;rw[h];simp only;rw[hf,if_neg (fun h=>h rfl),hb]
theorem faultF_other {l:List UInt8} {K A E:Nat} (h2:K≠2) (h3:K≠3):faultF l K A E=(baseF l K A E).2.2.2:=by
 unfold faultF;rw[if_neg (by intro h;rcases h.1 with h|h;exact h2 h;exact h3 h)]
theorem faultF_word {l:List UInt8} {K A E:Nat} (h:K=2∨K=3) (hw:wordB (bAt l E)=true):faultF l K A E=12:=by
 unfold faultF;rw[if_pos ⟨h,hw⟩]
theorem faultF_noword {l:List UInt8} {K A E:Nat} (hw:wordB (bAt l E)=false):faultF l K A E=(baseF l K A E).2.2.2:=by
 unfold faultF;rw[if_neg (by intro h;rw[hw] at h;cases h.2)]
theorem spanE_zero {l:List UInt8} {A E:Nat} (h:spanE l A=(0,E)):E=A:=by
 unfold spanE numEnd at h;split at h
 ·simp at h
 ·split at h
  ·split at h
   ·simp at h
   ·split at h <;> simp at h
  ·split at h
   ·simp at h
   ·split at h
    ·simp at h
    ·simp at h;exact h.symm
section
variable {a:Option Addr} {n cap i A E:Nat} {l:List UInt8} {w:World}
theorem close_ok {K:Nat} {x:List UInt8} {v:Int} {r:Nat} (hnf:nextF l i=tokAt l A) (hAE:A≤E) (ht:tokAt l A=(⟨K,x,v,r,A,E-A⟩,0))
  (hc:Calls Tryz.prog 94 #[.slice a n cap,.int .i64 i] w fun e w'=>e=.returned (.tuple #[.agg #[.int .i64 K,.string ⟨x.toArray⟩,.int .i64 v,.float .f64 r,.int .i64 A,.int .i64 ((E:Int)-A)],.int .i64 0])∧Below w.heap.size w w') :
  Calls Tryz.prog 94 #[.slice a n cap,.int .i64 i] w fun e w'=>e=.returned (.tuple #[tokVal (nextF l i).1,.int .i64 (nextF l i).2])∧Below w.heap.size w w':=by
 refine hc.mono ?_;rintro e w' ⟨rfl,hb⟩;refine⟨?_,hb⟩;rw[hnf,ht,← Int.ofNat_sub hAE];rfl
theorem close_bad {f:Nat} (hnf:nextF l i=tokAt l A) (ht:tokAt l A=(⟨0,[],0,0,A,0⟩,f))
  (hc:Calls Tryz.prog 94 #[.slice a n cap,.int .i64 i] w fun e w'=>e=.returned (.tuple #[.agg #[.int .i64 0,.string ⟨#[]⟩,.int .i64 0,.float .f64 0,.int .i64 A,.int .i64 0],.int .i64 f])∧Below w.heap.size w w') :
  Calls Tryz.prog 94 #[.slice a n cap,.int .i64 i] w fun e w'=>e=.returned (.tuple #[tokVal (nextF l i).1,.int .i64 (nextF l i).2])∧Below w.heap.size w w':=by
 refine hc.mono ?_;rintro e w' ⟨rfl,hb⟩;refine⟨?_,hb⟩;rw[hnf,ht];rfl
end
theorem next_any (a:Option Addr) (n cap i:Nat) (l:List UInt8) (w:World) (hF:LdexpSaid) (hT:Txt w a n cap l) (hn:n≤1048576) (hi:i≤n) (hg:Glob w) :
  Calls Tryz.prog 94 #[.slice a n cap,.int .i64 i] w fun e w'=>e=.returned (.tuple #[tokVal (nextF l i).1,.int .i64 (nextF l i).2])∧Below w.heap.size w w':=by
 have hl:=hT.1;obtain⟨A,hAd⟩:∃ A,A=i+skipS false (l.drop i):=⟨_,rfl⟩
 have hAn:A≤n:=by
  have:=skip_le false (l.drop i);simp at this;omega
 obtain⟨⟨K,E⟩,hKE⟩:∃ p,spanE l A=p:=⟨_,rfl⟩
 have hbd:=spanE_bounds l A (by omega);rw[hKE] at hbd;obtain⟨hAE,hEl,hK5,hK4⟩:=hbd;simp only at hAE hEl hK5 hK4;have hEn:E≤n:=by omega
 have hnf:nextF l i=tokAt l A:=by unfold nextF;rw[← hAd]
 have hsp:∀ w',Below w.heap.size w w'→Calls Tryz.prog 107 #[.slice a n cap,.int .i64 i] w' fun e w''=>e=.returned (.tuple #[.int .i64 K,.int .i64 A,.int .i64 E])∧w'=w'':=by
  intro w' hb;have h:=span_any a n cap i l w' (hT.below hb (Nat.le_refl _)) (by omega) hi;rw[← hAd,hKE] at h;exact h
 obtain⟨a2,hs2,ht2⟩:=slice_mid A E hT hAE hEn;have hP:(l.drop A).take (E-A)=pieceOf l A E:=rfl;rw[hP] at ht2;have hw8:wordB (bAt l E)=true∨wordB (bAt l E)=false:=by cases wordB (bAt l E) <;> simp
 have hcases:K=0∨K=1∨K=2∨K=3∨K=4∨K=5:=by omega
 rcases hcases with rfl|rfl|rfl|rfl|rfl|rfl
 ·have hEA:=spanE_zero hKE;subst hEA;rcases Nat.lt_or_ge E n with hlt|hge
  ·refine close_bad hnf (tokAt_bad hKE (f:=10) ?_ (by decide)) (next_byte a a2 n cap i E E l w hn hT hAn hAE hEn hsp hs2 hlt hl);rw[faultF_other (by decide) (by decide),baseF_0];exact if_pos (by omega)
  ·refine close_bad hnf ?_ (next_end a a2 n cap i E E l w hn hT hAn hAE hEn hsp hs2 (by omega) rfl);have:=tokAt_ok (x:=[]) (v:=0) (r:=0) hKE (by rw[faultF_other (by decide) (by decide),baseF_0];exact if_neg (by omega)) (by rw[baseF_0,if_neg (by omega)]);rw[this,Nat.sub_self]
 ·have hC:∀ W,Below w.heap.size w W→Calls Tryz.prog 108 #[.slice a2 (E-A) (cap-A)] W fun e w'=>e=.returned (if E-A≤32 then .tuple #[.string ⟨(pieceOf l A E).toArray⟩,.int .i64 0] else .tuple #[.string ⟨#[]⟩,.int .i64 13])∧Below W.heap.size W w':=fun W hb =>
   (name_any a2 (E-A) (cap-A) _ W (ht2.below hb (Nat.le_refl _))).mono (by rintro e w' ⟨rfl,rfl⟩;exact⟨rfl,Below.refl _ _⟩)
  by_cases h32:E-A≤32
  ·simp only[if_pos h32] at hC;refine close_ok (r:=0) hnf hAE (tokAt_ok hKE ?_ ?_) (next_name_ok a a2 n cap i A E l w hn hT hAn hAE hEn hsp hs2 _ hC)
   ·rw[faultF_other (by decide) (by decide),baseF_1,if_pos h32]
   ·rw[baseF_1,if_pos h32]
  ·simp only[if_neg h32] at hC;refine close_bad hnf (tokAt_bad hKE (f:=13) ?_ (by decide)) (next_name_bad a a2 n cap i A E l w hn hT hAn hAE hEn hsp hs2 _ hC);rw[faultF_other (by decide) (by decide),baseF_1,if_neg h32]
 ·have hC:∀ W,Below w.heap.size w W→Calls Tryz.prog 109 #[.slice a2 (E-A) (cap-A)] W fun e w'=>e=.returned (wholeV (wholeF (pieceOf l A E)))∧Below W.heap.size W w':=fun W hb =>
   whole_any a2 (E-A) (cap-A) _ W (ht2.below hb (Nat.le_refl _)) (by omega) (hg.below hb (Nat.le_refl _))
  cases hv:wholeF (pieceOf l A E) with
  | none =>
   rw[hv] at hC;have hbase:baseF l 2 A E=([],0,0,12):=by rw[baseF_2,hv]
   rcases hw8 with h8|h8
   ·exact close_bad hnf (tokAt_bad hKE (faultF_word (.inl rfl) h8) (by decide)) (next_int_bad2 a a2 n cap i A E l w hn hT hAn hAE hEn hsp hs2 _ h8 hC)
   ·exact close_bad hnf (tokAt_bad hKE (by rw[faultF_noword h8,hbase]) (by decide)) (next_int_bad a a2 n cap i A E l w hn hT hAn hAE hEn hsp hs2 _ h8 hC)
  | some v =>
   rw[hv] at hC;have hbase:baseF l 2 A E=([],v,0,0):=by rw[baseF_2,hv]
   rcases hw8 with h8|h8
   ·exact close_bad hnf (tokAt_bad hKE (faultF_word (.inl rfl) h8) (by decide)) (next_int_word a a2 n cap i A E l w hn hT hAn hAE hEn hsp hs2 _ h8 hC)
   ·exact close_ok hnf hAE (tokAt_ok hKE (by rw[faultF_noword h8,hbase]) hbase) (next_int_ok a a2 n cap i A E l w hn hT hAn hAE hEn hsp hs2 _ h8 hC)
 ·obtain⟨hok1,hok2⟩:=real_ok hKE;have hC:∀ W,Below w.heap.size w W→Calls Tryz.prog 110 #[.slice a2 (E-A) (cap-A)] W fun e w'=>e=.returned (scaledV (scaledF (pieceOf l A E)))∧Below W.heap.size W w':=fun W hb =>
   scaled_any a2 (E-A) (cap-A) _ W hF (ht2.below hb (Nat.le_refl _)) (by omega) (hg.below hb (Nat.le_refl _)) hok1 hok2
  cases hv:scaledF (pieceOf l A E) with
  | none =>
   rw[hv] at hC;have hbase:baseF l 3 A E=([],0,0,12):=by rw[baseF_3,hv]
   rcases hw8 with h8|h8
   ·exact close_bad hnf (tokAt_bad hKE (faultF_word (.inr rfl) h8) (by decide)) (next_real_bad2 a a2 n cap i A E l w hn hT hAn hAE hEn hsp hs2 _ h8 hC)
   ·exact close_bad hnf (tokAt_bad hKE (by rw[faultF_noword h8,hbase]) (by decide)) (next_real_bad a a2 n cap i A E l w hn hT hAn hAE hEn hsp hs2 _ h8 hC)
  | some me =>
   obtain⟨m,e⟩:=me;rw[hv] at hC;have hbase:baseF l 3 A E=([],0,realBits m e,0):=by rw[baseF_3,hv]
   rcases hw8 with h8|h8
   ·exact close_bad hnf (tokAt_bad hKE (faultF_word (.inr rfl) h8) (by decide)) (next_real_word a a2 n cap i A E l w hn hT hAn hAE hEn hsp hs2 _ h8 hC)
   ·exact close_ok hnf hAE (tokAt_ok hKE (by rw[faultF_noword h8,hbase]) hbase) (next_real_ok a a2 n cap i A E l w hn hT hAn hAE hEn hsp hs2 _ h8 hC)
 ·have hC:∀ W,Below w.heap.size w W→Calls Tryz.prog 111 #[.slice a2 (E-A) (cap-A)] W fun e w'=>e=.returned (unquoteV (unquoteF (pieceOf l A E)))∧Below W.heap.size W w':=fun W hb =>
   unquote_any a2 (E-A) (cap-A) _ W (ht2.below hb (Nat.le_refl _)) (by have:=hK4 rfl;omega) (by omega)
  cases hv:unquoteF (pieceOf l A E) with
  | none =>
   rw[hv] at hC;have hbase:baseF l 4 A E=([],0,0,11):=by rw[baseF_4,hv]
   exact close_bad hnf (tokAt_bad hKE (by rw[faultF_other (by decide) (by decide),hbase]) (by decide)) (next_text_bad a a2 n cap i A E l w hn hT hAn hAE hEn hsp hs2 _ hC)
  | some x =>
   rw[hv] at hC;have hbase:baseF l 4 A E=(x,0,0,0):=by rw[baseF_4,hv]
   exact close_ok hnf hAE (tokAt_ok hKE (by rw[faultF_other (by decide) (by decide),hbase]) hbase) (next_text_ok a a2 n cap i A E l w hn hT hAn hAE hEn hsp hs2 _ hC)
 ·have hC:∀ W,Below w.heap.size w W→(convert 22 9 (.slice a2 (E-A) (cap-A))).run Tryz.prog W=.ok (.string ⟨(pieceOf l A E).toArray⟩) W:=fun W hb=>text_of (ht2.below hb (Nat.le_refl _));refine close_ok hnf hAE (tokAt_ok hKE ?_ (baseF_5 l A E)) (next_mark a a2 n cap i A E l w hn hT hAn hAE hEn hsp hs2 _ hC);rw[faultF_other (by decide) (by decide),baseF_5]
theorem refDigit_any (c:UInt8) (w:World):Calls Tryz.prog 65 #[.int .u8 c.toNat] w fun e w'=>e=.returned (.bool (digitB c))∧w=w':=by
 have hc:=c.toNat_lt;unfold digitB;by_cases h1:48≤c.toNat
 ·by_cases h2:c.toNat≤57 <;>
  ·go_enter Tryz.func65,Tryz.ntmps65;go_wp2;go_ret;exact⟨by simp[h1,h2];omega,rfl⟩
 ·go_enter Tryz.func65,Tryz.ntmps65;go_wp2;go_ret;exact⟨by simp[h1],rfl⟩
theorem refLetter_any (c:UInt8) (w:World):Calls Tryz.prog 64 #[.int .u8 c.toNat] w fun e w'=>e=.returned (.bool (letterB c))∧w=w':=by
 have hc:=c.toNat_lt;have h0:c.toNat<65∨(65≤c.toNat∧c.toNat≤90)∨(90<c.toNat∧c.toNat<97)∨(97≤c.toNat∧c.toNat≤122)∨122<c.toNat:=by omega
 have hb:letterB c=true∨letterB c=false:=by cases letterB c <;> simp
 unfold letterB;rcases h0 with h1|⟨h1,h2⟩|⟨h1,h2⟩|⟨h1,h2⟩|h1
 ·have d1:decide ((65:Int)≤c.toNat)=false:=by simp;omega
  have d2:decide ((97:Int)≤c.toNat)=false:=by simp;omega
  go_enter Tryz.func64,Tryz.ntmps64;go_wp2;go_ret;exact⟨by simp;omega,rfl⟩
 ·have d1:decide ((65:Int)≤c.toNat)=true:=by simp;omega
  have d2:decide ((c.toNat:Int)≤90)=true:=by simp;omega
  go_enter Tryz.func64,Tryz.ntmps64;go_wp2;go_ret;exact⟨by simp;omega,rfl⟩
 ·have d1:decide ((65:Int)≤c.toNat)=true:=by simp;omega
  have d2:decide ((c.toNat:Int)≤90)=false:=by simp;omega
  have d3:decide ((97:Int)≤c.toNat)=false:=by simp;omega
  go_enter Tryz.func64,Tryz.ntmps64;go_wp2;go_ret;exact⟨by simp;omega,rfl⟩
 ·have d1:decide ((65:Int)≤c.toNat)=true:=by simp;omega
  have d2:decide ((c.toNat:Int)≤90)=false:=by simp;omega
  have d3:decide ((97:Int)≤c.toNat)=true:=by simp;omega
  have d4:decide ((c.toNat:Int)≤122)=true:=by simp;omega
  go_enter Tryz.func64,Tryz.ntmps64;go_wp2;go_ret;exact⟨by simp;omega,rfl⟩
 ·have d1:decide ((65:Int)≤c.toNat)=true:=by simp;omega
  have d2:decide ((c.toNat:Int)≤90)=false:=by simp;omega
  have d3:decide ((97:Int)≤c.toNat)=true:=by simp;omega
  have d4:decide ((c.toNat:Int)≤122)=false:=by simp;omega
  go_enter Tryz.func64,Tryz.ntmps64;go_wp2;go_ret;exact⟨by simp;omega,rfl⟩
theorem refBlank_any (c:UInt8) (w:World):Calls Tryz.prog 42 #[.int .u8 c.toNat] w fun e w'=>e=.returned (.bool (blankB c))∧w=w':=by
 have f (k:Nat) (hk:k<256):(c==UInt8.ofNat k)=((c.toNat:Int)==(k:Int)):=by
  by_cases h:c.toNat=k
  ·rw[u8_eq h,h];simp
  ·rw[u8_ne h hk];symm;rw[beq_eq_false_iff_ne];omega
 have f32:=f 32 (by omega);have f9:=f 9 (by omega);have f10:=f 10 (by omega);have f13:=f 13 (by omega);have hB:blankB c=(((c.toNat:Int)==32) || ((c.toNat:Int)==9) || ((c.toNat:Int)==10) || ((c.toNat:Int)==13)):=by
  unfold blankB;rw[show (32:UInt8)=UInt8.ofNat 32 from rfl,show (9:UInt8)=UInt8.ofNat 9 from rfl,show (10:UInt8)=UInt8.ofNat 10 from rfl,show (13:UInt8)=UInt8.ofNat 13 from rfl,f32,f9,f10,f13];rfl
 clear f f32 f9 f10 f13;rw[hB];clear hB;cases e1:((c.toNat:Int)==32) <;> cases e2:((c.toNat:Int)==9) <;> cases e3:((c.toNat:Int)==10) <;> cases e4:((c.toNat:Int)==13) <;>
 ·go_enter Tryz.func42,Tryz.ntmps42;go_wp2;go_ret;exact⟨rfl,rfl⟩
theorem Txt.cellAt {w:World} {a:Option Addr} {n cap:Nat} {l:List UInt8} (ht:Txt w a n cap l) {i:Nat} (hi:i<n):∃ b o,a=some ⟨b,o,none⟩∧w.cell? ⟨b,o+i,none⟩=some (.int .u8 ((bAt l i).toNat:Int)):=by
 obtain⟨hl,hnc,hm,h4⟩:=ht;rcases h4 with ⟨_,h0,_⟩|⟨⟨b,o,s⟩,rfl,hx⟩
 ·omega
 ·obtain⟨rfl,hc⟩:=hx.spot (by omega);refine⟨b,o,rfl,?_⟩;rw[bAt_lt (by omega)];exact hc i (by omega)
theorem digits_any (a:Option Addr) (n cap f:Nat) (l:List UInt8) (w:World) (ht:Txt w a n cap l) (hr:n≤140737488351232) (hf:f≤140737488351300) :
  Calls Tryz.prog 84 #[.slice a n cap,.int .i64 f] w fun e w'=>e=.returned (.int .i64 (tw digitB l f))∧w=w':=by
 have hl:=ht.1;have HT:=hid ht;have HL:=hid hl;clear ht hl;go_enter Tryz.func84,Tryz.ntmps84;go_wp2;go_loop [5] (fun i=>∃ j:Nat,(j=0∨f+j≤n)∧i=.int .i64 j∧Hid (tw digitB l f=j+tw digitB l (f+j))) (fun i=>n-(intOf i).toNat)
 case atStart=>exact⟨0,.inl rfl,rfl,by show tw digitB l f=0+tw digitB l (f+0);rw[Nat.add_zero,Nat.zero_add]⟩
 case round =>
  obtain⟨j,hj,rfl,hg⟩:=hrel;have hjn:j≤n:=by omega
  rcases Nat.lt_or_ge (f+j) n with hlt|hge
  ·obtain⟨b,o,rfl,hcell⟩:=HT.out.cellAt hlt;obtain⟨c,hc⟩:∃ c,c=bAt l (f+j):=⟨_,rfl⟩
   rw[← hc] at hcell;have HD:=refDigit_any c;cases hd:digitB c
   ·rw[hd] at HD;have HD2:=hid HD;have HE:Hid (tw digitB l f=j):=by
     have:tw digitB l f=j:=by rw[hg.out,tw_no (by rw[← hc];exact hd)];rfl
     exact this
    clear HD hc hd;go_wp2_with (go_at_call 65;refine(HD2.out _).mono ?_;rintro e w' ⟨rfl,rfl⟩);go_ret;exact⟨by rw[HE.out];rfl,rfl⟩
   ·rw[hd] at HD;have HD2:=hid HD;have HE:Hid (tw digitB l f=(j+1)+tw digitB l (f+(j+1))):=by
     have:tw digitB l f=(j+1)+tw digitB l (f+(j+1)):=by
      rw[hg.out,(tw_yes (by rw[← hc];exact hd) digit0).2,← Nat.add_assoc,← Nat.add_assoc]
     exact this
    clear HD hc hd;go_wp2_with (go_at_call 65;refine(HD2.out _).mono ?_;rintro e w' ⟨rfl,rfl⟩)
    go_round
    case rel=>exact⟨j+1,.inr (by omega),by go_num,HE⟩
    case measure=>simp[intOf];omega
  ·have HE:Hid (tw digitB l f=j):=by
    have:tw digitB l f=j:=by
     rw[hg.out];have:tw digitB l (f+j)=0:=by have:=tw_le digitB l (f+j);rw[HL.out] at this;omega
     omega
    exact this
   go_wp2;go_ret;exact⟨by rw[HE.out];rfl,rfl⟩
def refW (l:List UInt8):Option Nat:=if valD 0 l≤9223372036854775807 then some (valD 0 l) else none
def RefW (l:List UInt8) (w:World) (e:Ending) (w':World):Prop:=(match refW l with|some v=>e=.returned (.tuple #[.int .i64 v,.bool true])|none=>e=.returned (.tuple #[.int .i64 0,.bool false]))∧w=w'
theorem valD_snoc (l:List UInt8) (k:Nat) (hk:k<l.length):valD 0 (l.take (k+1))=valD 0 (l.take k) * 10+((bAt l k).toNat-48):=by
 unfold valD;rw[take_snoc _ _ hk,List.foldl_append,bAt_lt hk];rfl
theorem valD_take (l:List UInt8) (k:Nat):valD 0 (l.take k)≤valD 0 l:=by
 have h:valD 0 l=valD (valD 0 (l.take k)) (l.drop k):=by
  unfold valD;rw[← List.foldl_append,List.take_append_drop]
 rw[h];exact valD_le _ _
theorem refWhole_any (a:Option Addr) (n cap:Nat) (l:List UInt8) (w:World) (ht:Txt w a n cap l) (hr:n≤140737488351232) (hd:∀ c ∈ l,48≤c.toNat∧c.toNat≤57) :
  Calls Tryz.prog 87 #[.slice a n cap] w fun e w'=>RefW l w e w':=by
 have hl:=ht.1;have HT:=hid ht;have HL:=hid hl;have HD:=hid hd;clear ht hl hd;go_enter Tryz.func87,Tryz.ntmps87;go_wp2;go_loop [4,5] (fun v i=>∃ k u:Nat,k≤n∧i=.int .i64 k∧v=.int .u64 u∧u≤9223372036854775807∧Hid (u=valD 0 (l.take k))) (fun _ i=>n-(intOf i).toNat)
 case atStart=>exact⟨0,0,Nat.zero_le _,rfl,rfl,Nat.zero_le _,rfl⟩
 case round =>
  obtain⟨k,u,hk,rfl,rfl,hu,hv⟩:=hrel;rcases Nat.lt_or_ge k n with hlt|hge
  ·obtain⟨b,o,rfl,hcell⟩:=HT.out.cellAt hlt;have hkl:k<l.length:=by rw[HL.out];exact hlt
   have hdc:48≤(bAt l k).toNat∧(bAt l k).toNat≤57:=HD.out _ (by rw[bAt_lt hkl];exact List.getElem_mem _);have hsn:=valD_snoc l k hkl;obtain⟨c,hc⟩:∃ c,c=(bAt l k).toNat:=⟨_,rfl⟩
   rw[← hc] at hcell hdc hsn;rw[← hv.out] at hsn;have HSN:=hid hsn;have hq1:0≤(9223372036854775807-((c:Int)-48)):=by omega
   have c1:=hdc.1;have c2:=hdc.2;clear hsn hc hdc;rcases Nat.lt_or_ge 9223372036854775807 (u * 10+(c-48)) with hbig|hsmall
   ·have hgt:decide ((9223372036854775807-((c:Int)-48)) / 10<(u:Int))=true:=by rw[decide_eq_true_eq];omega
    have HN:Hid (refW l=none):=by
     have:refW l=none:=by
      unfold refW;have:=valD_take l (k+1);rw[HSN.out] at this;rw[if_neg (by omega)]
     exact this
    clear hbig;go_wp2
    go_ret2
    unfold RefW;rw[HN.out];exact⟨rfl,rfl⟩
   ·have hgt:decide ((9223372036854775807-((c:Int)-48)) / 10<(u:Int))=false:=by rw[decide_eq_false_iff_not];omega
    have hw:IntKind.u64.wrap (10 * (u:Int)+((c:Int)-48))=((u * 10+(c-48):Nat):Int):=by rw[IntKind.wrap_u64];omega
    go_wp2
    go_round
    case rel=>exact⟨k+1,u * 10+(c-48),by omega,by go_num,by congr 1,hsmall,HSN.out.symm⟩
    case measure=>simp[intOf];omega
  ·obtain rfl:k=n:=by omega
   have HS:Hid (refW l=some u):=by
    have:refW l=some u:=by
     unfold refW;have h:=hv.out;rw[← HL.out,List.take_length] at h;rw[← h,if_pos hu]
    exact this
   go_wp2
   go_ret2
   unfold RefW;rw[HS.out];exact⟨rfl,rfl⟩
theorem refHex_any (c:UInt8) (w:World):Calls Tryz.prog 103 #[.int .u8 c.toNat] w fun e w'=>e=.returned (.int .i64 (hexI c))∧w=w':=by
 have hc:=c.toNat_lt;have HD:=refDigit_any c;by_cases h1:48≤c.toNat∧c.toNat≤57
 ·have hd:digitB c=true:=by simpa [digitB] using h1
  rw[hd] at HD;have HD2:=hid HD;have HE:Hid (hexI c=(c.toNat:Int)-48):=by
   have:hexI c=(c.toNat:Int)-48:=by unfold hexI hexVal;rw[if_pos h1];simp only;omega
   exact this
  have h2:=h1.1;clear HD hd h1;go_enter Tryz.func103,Tryz.ntmps103;go_wp2_with (go_at_call 65;refine(HD2.out _).mono ?_;rintro e w' ⟨rfl,rfl⟩);go_ret;exact⟨by rw[HE.out];rfl,rfl⟩
 ·have hd:digitB c=false:=by simp only[digitB,decide_eq_false_iff_not];exact h1
  rw[hd] at HD;have HD2:=hid HD;by_cases h2:97≤c.toNat∧c.toNat≤102
  ·have HE:Hid (hexI c=(c.toNat:Int)-97+10):=by
    have:hexI c=(c.toNat:Int)-97+10:=by unfold hexI hexVal;rw[if_neg h1,if_pos h2];simp only;omega
    exact this
   have d1:decide ((97:Int)≤c.toNat)=true:=by simp;omega
   have d2:decide ((c.toNat:Int)≤102)=true:=by simp;omega
   have h3:=h2.1;clear HD hd h1 h2;go_enter Tryz.func103,Tryz.ntmps103;go_wp2_with (go_at_call 65;refine(HD2.out _).mono ?_;rintro e w' ⟨rfl,rfl⟩);go_ret;exact⟨by rw[HE.out];rfl,rfl⟩
  ·have HE:Hid (hexI c=-1):=by
    have:hexI c=-1:=by unfold hexI hexVal;rw[if_neg h1,if_neg h2]
    exact this
   have d0:decide ((97:Int)≤c.toNat)=false∨(decide ((97:Int)≤c.toNat)=true∧decide ((c.toNat:Int)≤102)=false):=by
    by_cases h:97≤c.toNat
    ·right;simp;omega
    ·left;simp;omega
   clear HD hd h1 h2;rcases d0 with d1|⟨d1,d2⟩
   all_goals
    go_enter Tryz.func103,Tryz.ntmps103;go_wp2_with (go_at_call 65;refine(HD2.out _).mono ?_;rintro e w' ⟨rfl,rfl⟩);go_ret;exact⟨by rw[HE.out];rfl,rfl⟩
def endF (l:List UInt8) (d:Nat):Nat × Nat :=
 if bAt l d=112 then
  (if tw digitB l (d+(if bAt l (d+1)=45 then 2 else 1))=0 then (0,0) else ((if bAt l (d+1)=45 then 2 else 1)+tw digitB l (d+(if bAt l (d+1)=45 then 2 else 1)),if bAt l (d+1)=45 then 2 else 1))
 else (0,0)
theorem u8_is {c:UInt8} {k:Nat} (hk:k<256):(c=UInt8.ofNat k→((c.toNat:Int)==(k:Int))=true∧((c.toNat:Int) != (k:Int))=false)∧(c≠UInt8.ofNat k→((c.toNat:Int)==(k:Int))=false∧((c.toNat:Int) != (k:Int))=true):=by
 constructor
 ·rintro rfl;have:(UInt8.ofNat k).toNat=k:=by simp;omega
  rw[this];simp
 ·intro h;have:(c.toNat:Int)≠(k:Int):=by
   intro e;apply h;have:c.toNat=k:=by omega
   rw[← this];simp
  simpa using this
theorem refEnd_any (a:Option Addr) (n cap d:Nat) (l:List UInt8) (w:World) (ht:Txt w a n cap l) (hr:n≤140737488351232) (hd:d≤n) :
  Calls Tryz.prog 85 #[.slice a n cap,.int .i64 d] w fun e w'=>e=.returned (.tuple #[.int .i64 (endF l d).1,.int .i64 (endF l d).2])∧w=w':=by
 have hl:=ht.1;rcases Nat.lt_or_ge d n with hlt|hge
 ·obtain⟨b,o,rfl,hcell⟩:=ht.cellAt hlt;obtain⟨i112,n112⟩:=u8_is (c:=bAt l d) (k:=112) (by decide);by_cases h1:bAt l d=112
  ·obtain⟨e1,e2⟩:=i112 h1;have hcase:∃ h:Nat,(h=1∨h=2)∧(if bAt l (d+1)=45 then 2 else 1)=h∧(h=2 ↔ bAt l (d+1)=45):=by
    by_cases h:bAt l (d+1)=45
    ·exact⟨2,.inr rfl,by rw[if_pos h],by simp[h]⟩
    ·exact⟨1,.inl rfl,by rw[if_neg h],by simp[h]⟩
   obtain⟨h,hh,hif,hiff⟩:=hcase;have HDG:=hid (digits_any (some ⟨b,o,none⟩) n cap (d+h) l w ht hr (by omega));obtain⟨t,htw⟩:∃ t,t=tw digitB l (d+h):=⟨_,rfl⟩
   have HT2:Hid (tw digitB l (d+h)=t):=htw.symm;have htl:t≤n:=by have:=tw_le digitB l (d+h);omega
   have HE:Hid (endF l d=if t=0 then (0,0) else (h+t,h)):=by
    have:endF l d=if t=0 then (0,0) else (h+t,h):=by unfold endF;rw[if_pos h1,hif,← htw]
    exact this
   have hw1:IntKind.i64.wrap ((d:Int)+(h:Int))=((d+h:Nat):Int):=by rw[IntKind.wrap_i64];omega
   have hnext:(n≤d+1∧h=1)∨(d+1<n∧h=1∧∃ c,w.cell? ⟨b,o+(d+1),none⟩=some (.int .u8 c)∧(c==45)=false)∨(d+1<n∧h=2∧∃ c,w.cell? ⟨b,o+(d+1),none⟩=some (.int .u8 c)∧(c==45)=true):=by
    rcases Nat.lt_or_ge (d+1) n with h'|h'
    ·right;obtain⟨b',o',e,hc'⟩:=ht.cellAt h';cases e;obtain⟨j1,j2⟩:=u8_is (c:=bAt l (d+1)) (k:=45) (by decide);by_cases h45:bAt l (d+1)=45
     ·exact .inr ⟨h',hiff.2 h45,_,hc',(j1 h45).1⟩
     ·left;refine⟨h',?_,_,hc',(j2 h45).1⟩;rcases hh with h0|h0
      ·exact h0
      ·exact absurd (hiff.1 h0) h45
    ·left;refine⟨h',?_⟩;rcases hh with h0|h0
     ·exact h0
     ·have:=hiff.1 h0;rw[bAt_ge (by omega)] at this;cases this
   have hz:(t=0∧((t:Int)==0)=true)∨(t≠0∧((t:Int)==0)=false):=by
    rcases Nat.eq_zero_or_pos t with h0|h0
    ·left;exact⟨h0,by rw[h0];rfl⟩
    ·right;exact⟨by omega,by rw[beq_eq_false_iff_ne];omega⟩
   have q0:decide (n≤d)=false:=by rw[decide_eq_false_iff_not];omega
   clear ht hl htw hif hiff hh i112 n112 h1;rcases hnext with ⟨g1,rfl⟩|⟨g1,rfl,c,g2,g3⟩|⟨g1,rfl,c,g2,g3⟩ <;> rcases hz with ⟨z1,z2⟩|⟨z1,z2⟩
   all_goals
    have Z1:=hid z1;clear z1
    first
    | (have q1:decide (d+1<n)=true:=by (rw[decide_eq_true_eq];omega))
    | (have q1:decide (d+1<n)=false:=by (rw[decide_eq_false_iff_not];omega))
    go_enter Tryz.func85,Tryz.ntmps85;go_wp2_with fail;refine HDG.out.mono ?_;rintro e w' ⟨rfl,rfl⟩;rw[HT2.out];go_wp2_with fail
    go_ret2
    rw[HE.out]
    first
    | (rw[if_pos Z1.out];exact⟨rfl,rfl⟩)
    | (rw[if_neg Z1.out];exact⟨by simp,rfl⟩)
  ·obtain⟨e1,e2⟩:=n112 h1;have q0:decide (n≤d)=false:=by rw[decide_eq_false_iff_not];omega
   have HE:Hid (endF l d=(0,0)):=by
    have:endF l d=(0,0):=by unfold endF;rw[if_neg h1]
    exact this
   clear ht hl i112 n112 h1;go_enter Tryz.func85,Tryz.ntmps85;go_wp2_with fail
   go_ret2
   rw[HE.out];exact⟨rfl,rfl⟩
 ·have q0:decide (n≤d)=true:=by rw[decide_eq_true_eq];omega
  have HE:Hid (endF l d=(0,0)):=by
   have:endF l d=(0,0):=by unfold endF;rw[if_neg];rw[bAt_ge (by omega)];decide
   exact this
  clear ht hl;go_enter Tryz.func85,Tryz.ntmps85;go_wp2_with fail
  go_ret2
  rw[HE.out];exact⟨rfl,rfl⟩
end Go.Proofs.YtkpboalccpancaaGreatDoor
