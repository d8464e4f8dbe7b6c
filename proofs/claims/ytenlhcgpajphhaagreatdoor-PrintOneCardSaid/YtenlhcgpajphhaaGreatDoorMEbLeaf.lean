import Derived.Test.YtenlhcgpajphhaaGreatDoorMEbName
import Derived.Test.YtenlhcgpajphhaaGreatDoorMEbSmall
import Derived.Test.YtenlhcgpajphhaaGreatDoorMVReal
import Derived.Test.YtenlhcgpajphhaaGreatDoorMQuotePlain
import Derived.Laws.Rows
import Derived.Laws.FloatArith
namespace Go.Proofs.YtenlhcgpajphhaaGreatDoor
open Go.RowKit Go.Shelf
open Lib(hid)
set_option maxRecDepth 100000
set_option linter.all false
set_option maxHeartbeats 2000000
def Bx (w:World) (g:Nat) (T:TypeId) (cs:List Value):Prop:=w.heap[g]?=some (.cells cs.toArray T (0,0))
theorem Bx.c {w:World} {g:Nat} {T:TypeId} {cs:List Value} (h:Bx w g T cs) (j:Nat) {v:Value} (hj:cs[j]?=some v):w.cell? ⟨g,j,none⟩=some v:=by
 rw[cell_of_row w g j _ _ _ h]
 simpa using hj
theorem Bx.fz {w:World} {g:Nat} {T:TypeId} {cs:List Value} (h:Bx w g T cs) (j:Nat):w.frozen? ⟨g,j,none⟩=false:=frozen_of_row w g j _ _ h
theorem Bx.lt {w:World} {g:Nat} {T:TypeId} {cs:List Value} (h:Bx w g T cs):g<w.heap.size:=lt_of_block h
theorem Bx.keep {w w':World} {B g:Nat} {T:TypeId} {cs:List Value} (h:Bx w g T cs) (hb:Below B w w') (hg:g<B):Bx w' g T cs:=(hb.block g hg).trans h
theorem Bx.set {w:World} {g:Nat} {T:TypeId} {cs:List Value} (h:Bx w g T cs) (j:Nat) (v:Value):Bx (w.setCell ⟨g,j,none⟩ v) g T (cs.set j v):=by
 have:=heap_setCell_same w g j _ _ v h;unfold Bx;rw[this];simp
theorem Bx.other {w:World} {g h:Nat} {T:TypeId} {cs:List Value} (hx:Bx w g T cs) (hne:g≠h) (j:Nat) (v:Value):Bx (w.setCell ⟨h,j,none⟩ v) g T cs:=(Below.heap_setCell w ⟨h,j,none⟩ v g hne).trans hx
theorem Bx.new (w:World) (T:TypeId) (cs:List Value):Bx (w.alloc (.cells cs.toArray T)) w.heap.size T cs:=heap_alloc_new _ _
def qrI (l:Lf):Value:=qgK (qaG l).vk (qaG l).vi (qaG l).rl 0 0 (qaG l).tx
theorem jbQ {a b:Int} (h:a<b):compare a b=.lt:=by
 show compareOfLessAndEq a b=.lt;unfold compareOfLessAndEq;rw[if_pos h]
theorem q75 {a b:Int} (h:b<a):compare a b=.gt:=by
 show compareOfLessAndEq a b=.gt;unfold compareOfLessAndEq;rw[if_neg (by omega),if_neg (by omega)]
theorem jbR (a:Int):compare a a=.eq:=by
 show compareOfLessAndEq a a=.eq;unfold compareOfLessAndEq;rw[if_neg (by omega),if_pos rfl]
theorem jaN {b:Nat} (hb:b<9223372036854775808):(FloatKind.f64.format.order b 9218868437227405311==some Ordering.lt || FloatKind.f64.format.order b 9218868437227405311==some Ordering.eq)=decide (b<9218868437227405312):=by
 show (Ieee.double.order b 9218868437227405311==some Ordering.lt || Ieee.double.order b 9218868437227405311==some Ordering.eq)=_;by_cases h:b<9218868437227405312
 ·have hn:qnM b=false:=by unfold qnM qbU;exact decide_eq_false (by omega)
  have hn2:qnM 9218868437227405311=false:=by decide
  have k1:qkA b=b:=by unfold qkA qiQ qbU;rw[show b / 9223372036854775808=0 by omega];simp;omega
  have k2:qkA 9218868437227405311=9218868437227405311:=by decide
  rw[qf9 _ _ hn hn2,k1,k2,decide_eq_true h];rcases Nat.lt_or_ge b 9218868437227405311 with h2|h2
  ·rw[show compare (b:Int) 9218868437227405311=.lt from jbQ (by omega)];rfl
  ·obtain rfl:b=9218868437227405311:=by omega
   decide
 ·rw[decide_eq_false h];by_cases hn:qnM b=true
  ·rw[qsY _ _ hn];rfl
  ·have hn':qnM b=false:=by simpa using hn
   have hn2:qnM 9218868437227405311=false:=by decide
   have k1:qkA b=b:=by unfold qkA qiQ qbU;rw[show b / 9223372036854775808=0 by omega];simp;omega
   have k2:qkA 9218868437227405311=9218868437227405311:=by decide
   rw[qf9 _ _ hn' hn2,k1,k2,show compare (b:Int) 9218868437227405311=.gt from q75 (by omega)];rfl
theorem q1P (l:Lf) (hv:∀ t,l≠.var t) (hr:∀ b,l=.real b→b<18446744073709551616) (w:World) :
  Calls Tryz.prog 237 #[qrI l] w fun e w'=>e=.returned (.bool (okL l))∧Below w.heap.size w w':=by
 cases l with
 | var t=>exact absurd rfl (hv t)
 | int v =>
  have HB:Hid (Below w.heap.size w (w.alloc (.cells #[.int .i64 1,.int .i64 v,.float .f64 0,.complex .f64 0 0,.string ⟨#[]⟩] 107))):=hid ((Below.refl _ w).alloc (Nat.le_refl _) _);show Calls Tryz.prog 237 #[.agg #[.int .i64 1,.int .i64 v,.float .f64 0,.complex .f64 0 0,.string ⟨#[]⟩]] w fun e w'=>e=.returned (.bool (decide (0≤v)))∧Below w.heap.size w w';clear hv hr;go_enter Tryz.func237,Tryz.ntmps237;go_wp2;go_ret;exact⟨rfl,HB.out⟩
 | real b =>
  have hb:=hr b rfl;have HB:Hid (Below w.heap.size w (w.alloc (.cells #[.int .i64 2,.int .i64 0,.float .f64 b,.complex .f64 0 0,.string ⟨#[]⟩] 107))):=hid ((Below.refl _ w).alloc (Nat.le_refl _) _);show Calls Tryz.prog 237 #[.agg #[.int .i64 2,.int .i64 0,.float .f64 b,.complex .f64 0 0,.string ⟨#[]⟩]] w fun e w'=>e=.returned (.bool (decide (b<9218868437227405312)))∧Below w.heap.size w w';have HS:=hid (fun W=>quC b hb W);by_cases h1:9223372036854775808≤b
  ·have D1:Hid (decide (9223372036854775808≤b)=true):=hid (decide_eq_true h1);have D2:Hid (decide (b<9218868437227405312)=false):=hid (decide_eq_false (by omega));clear hv hr hb h1;go_enter Tryz.func237,Tryz.ntmps237;go_wp2_with (go_at_call 211;refine(HS.out _).mono ?_;rintro e w' ⟨rfl,rfl⟩;rw[D1.out]);go_ret;exact⟨by rw[D2.out];rfl,HB.out⟩
  ·have D1:Hid (decide (9223372036854775808≤b)=false):=hid (decide_eq_false h1);have h2:=jaN (b:=b) (by omega);generalize decide (b<9218868437227405312)=r at h2 ⊢;clear hv hr hb h1;go_enter Tryz.func237,Tryz.ntmps237;go_wp2_with (go_at_call 211;refine(HS.out _).mono ?_;rintro e w' ⟨rfl,rfl⟩;rw[D1.out]);go_ret;exact⟨by first|rfl|(congr 2),HB.out⟩
 | text t =>
  have HB:Hid (Below w.heap.size w (w.alloc (.cells #[.int .i64 4,.int .i64 0,.float .f64 0,.complex .f64 0 0,.string t] 107))):=hid ((Below.refl _ w).alloc (Nat.le_refl _) _);show Calls Tryz.prog 237 #[.agg #[.int .i64 4,.int .i64 0,.float .f64 0,.complex .f64 0 0,.string t]] w fun e w'=>e=.returned (.bool (decide (t.size≤256)))∧Below w.heap.size w w';have HM:=hid (fun W=>qp4 4 0 0 0 0 t W);unfold qgK at HM;clear hv hr;go_enter Tryz.func237,Tryz.ntmps237;go_wp2_with (go_at_call 186;refine(HM.out _).mono ?_;rintro e w1 ⟨rfl,hb1⟩;have HB1:=hid (HB.out.trans (hb1.mono HB.out.size));clear hb1);go_ret;exact⟨rfl,HB1.out⟩
 | bool b =>
  have HB:Hid (Below w.heap.size w (w.alloc (.cells #[.int .i64 5,.int .i64 (if b then 1 else 0),.float .f64 0,.complex .f64 0 0,.string ⟨#[]⟩] 107))):=hid ((Below.refl _ w).alloc (Nat.le_refl _) _);show Calls Tryz.prog 237 #[.agg #[.int .i64 5,.int .i64 (if b then 1 else 0),.float .f64 0,.complex .f64 0 0,.string ⟨#[]⟩]] w fun e w'=>e=.returned (.bool true)∧Below w.heap.size w w';have HM:=hid (fun W=>qp4 5 (if b then 1 else 0) 0 0 0 ⟨#[]⟩ W);have HMB:Hid (qkW 5 (if b then 1 else 0) ⟨#[]⟩=true):=hid (by cases b <;> decide);unfold qgK at HM;generalize (if b then (1:Int) else 0)=bi at HB HM HMB ⊢;clear hv hr;go_enter Tryz.func237,Tryz.ntmps237;go_wp2_with (go_at_call 186;refine(HM.out _).mono ?_;rintro e w1 ⟨rfl,hb1⟩;have HB1:=hid (HB.out.trans (hb1.mono HB.out.size));clear hb1);go_ret;exact⟨by rw[HMB.out];rfl,HB1.out⟩
theorem qnP (l:Lf) (hr:∀ b,l=.real b→b<18446744073709551616) (w:World) (hT:Tab w) (hg:0<w.heap.size) :
  Calls Tryz.prog 208 #[ndV (qaG l)] w fun e w'=>e=.returned (.bool (okL l))∧Below w.heap.size w w':=by
 by_cases hv:∃ t,l=.var t
 ·obtain⟨t,rfl⟩:=hv;show Calls Tryz.prog 208 #[.agg #[.int .i64 2,.int .i64 0,.int .i64 0,.string t,.int .i64 0,.int .i64 0,.float .f64 0,.complex .f64 0 0,.string ⟨#[]⟩]] w fun e w'=>e=.returned (.bool (qd2 t.data.toList && !(t.data.toList==[116,114,117,101]) && !(t.data.toList==[102,97,108,115,101]) && decide (qcX t.data.toList=0)))∧Below w.heap.size w w';have hB:Below w.heap.size w (w.alloc (.cells #[.int .i64 2,.int .i64 0,.int .i64 0,.string t,.int .i64 0,.int .i64 0,.float .f64 0,.complex .f64 0 0,.string ⟨#[]⟩] 109)):=(Below.refl _ w).alloc (Nat.le_refl _) _;have HN:=hid (fun W=>qxS t W);have HW:=hid (qtU t _ (hT.of_block (hB.block _ hg)) (by have:=hB.size;omega));have HB:=hid hB;have e1:(t.toList==[116,114,117,101])=(t.data.toList==[116,114,117,101]):=by rw[qbT]
  have e2:(t.toList==[102,97,108,115,101])=(t.data.toList==[102,97,108,115,101]):=by rw[qbT]
  cases hn:qd2 t.data.toList with
  | false =>
   have HNB:=hid hn;clear hr hT hB e1 e2 hn;go_enter Tryz.func208,Tryz.ntmps208;go_wp2_with (go_at_call 238;refine(HN.out _).mono ?_;rintro e w' ⟨rfl,rfl⟩;rw[HNB.out]);go_ret;exact⟨by simp,HB.out⟩
  | true =>
   have HNB:=hid hn;cases h1:(t.data.toList==[116,114,117,101]) with
   | true =>
    rw[h1] at e1;clear hr hT hB e2 hn h1;go_enter Tryz.func208,Tryz.ntmps208;go_wp2_with (go_at_call 238;refine(HN.out _).mono ?_;rintro e w' ⟨rfl,rfl⟩;rw[HNB.out]);go_ret;exact⟨by simp,HB.out⟩
   | false =>
    rw[h1] at e1;cases h2:(t.data.toList==[102,97,108,115,101]) with
    | true =>
     rw[h2] at e2;clear hr hT hB hn h1 h2;go_enter Tryz.func208,Tryz.ntmps208;go_wp2_with (go_at_call 238;refine(HN.out _).mono ?_;rintro e w' ⟨rfl,rfl⟩;rw[HNB.out]);go_ret;exact⟨by simp,HB.out⟩
    | false =>
     rw[h2] at e2;generalize qcX t.data.toList=K at HW ⊢;have hd:(((K:Nat):Int)==0)=decide (K=0):=by
      by_cases h0:K=0
      ·subst h0;rfl
      ·rw[decide_eq_false h0];exact beq_eq_false_iff_ne.2 (by omega)
     generalize decide (K=0)=d at hd ⊢;clear hr hT hB hn h1 h2;go_enter Tryz.func208,Tryz.ntmps208;go_wp2_with (first|(go_at_call 238;refine(HN.out _).mono ?_;rintro e w' ⟨rfl,rfl⟩;rw[HNB.out])|(go_at_call 233;refine HW.out.mono ?_;rintro e w1 ⟨rfl,hb1⟩;have HB1:=hid (HB.out.trans (hb1.mono HB.out.size));clear hb1));go_ret;exact⟨by first|rfl|simp,HB1.out⟩
 ·have hv2:∀ t,l≠.var t:=fun t h=>hv ⟨t,h⟩;have hL:=fun W=>q1P l hv2 hr W;have hk:(qaG l).k=1∧(qaG l).a=0∧(qaG l).b=0∧(qaG l).nm=⟨#[]⟩∧(qaG l).re=0∧(qaG l).im=0:=by
   cases l with
   | var t=>exact absurd rfl (hv2 t)
   | int v=>exact⟨rfl,rfl,rfl,rfl,rfl,rfl⟩
   | real v=>exact⟨rfl,rfl,rfl,rfl,rfl,rfl⟩
   | text v=>exact⟨rfl,rfl,rfl,rfl,rfl,rfl⟩
   | bool v=>exact⟨rfl,rfl,rfl,rfl,rfl,rfl⟩
  obtain⟨k1,k2,k3,k4,k5,k6⟩:=hk;unfold qrI qgK at hL;unfold ndV;rw[k1,k2,k3,k4,k5,k6];generalize (qaG l).vk=vk at hL ⊢;generalize (qaG l).vi=vi at hL ⊢;generalize (qaG l).rl=rl at hL ⊢;generalize (qaG l).tx=tx at hL ⊢;have HL:=hid hL;have HB:Hid (Below w.heap.size w (w.alloc (.cells #[.int .i64 1,.int .i64 0,.int .i64 0,.string ⟨#[]⟩,.int .i64 vk,.int .i64 vi,.float .f64 rl,.complex .f64 0 0,.string tx] 109))):=hid ((Below.refl _ w).alloc (Nat.le_refl _) _);clear hL hT hr hv hv2 k1 k2 k3 k4 k5 k6;go_enter Tryz.func208,Tryz.ntmps208;go_wp2_with (go_at_call 237;refine(HL.out _).mono ?_;rintro e w1 ⟨rfl,hb1⟩;have HB1:=hid (HB.out.trans (hb1.mono HB.out.size));clear hb1);go_ret;exact⟨rfl,HB1.out⟩
theorem qbQ (p:Addr) (b:Nat) (mo:Mode) (w':World):(store p (.float .f64 b) mo).run Tryz.prog w'=stored Tryz.prog w' p (.float .f64 b) mo:=run_store _ w' p _ mo rfl
theorem qe9 (p:Addr) (b c:Nat) (mo:Mode) (w':World):(store p (.complex .f64 b c) mo).run Tryz.prog w'=stored Tryz.prog w' p (.complex .f64 b c) mo:=run_store _ w' p _ mo rfl
theorem quD (x y z:Value) (w:World):(Instr.field 218 (.agg #[x,y,z]) 2).run Tryz.prog w=.ok z w:=by kernel_rfl
theorem ql6 {b:Nat} (h:b<9218868437227405312):eqB b b=true:=by
 show (Ieee.double.order b b==some Ordering.eq)=true;have hn:qnM b=false:=by unfold qnM qbU;exact decide_eq_false (by omega)
 rw[qf9 _ _ hn hn,show compare (qkA b) (qkA b)=.eq from jbR _];rfl
theorem qoR (b:Nat) (h:b<9218868437227405312) (w:World):Calls Tryz.prog 235 #[.float .f64 b] w fun e w'=>e=.returned (.float .f64 b)∧w=w':=by
 have HN:=hid (fun W=>qiW b W);have HE:Hid ((!eqB b b)=false):=hid (by rw[ql6 h];rfl);clear h;go_enter Tryz.func235,Tryz.ntmps235;go_wp2_with (go_at_call 210;refine(HN.out _).mono ?_;rintro e w' ⟨rfl,rfl⟩;rw[HE.out]);go_ret;exact⟨rfl,rfl⟩
theorem qrY (t:ByteArray) (w:World) (h:t.size≤256):Calls Tryz.prog 236 #[.string t] w fun e w'=>e=.returned (.string t)∧Below w.heap.size w w':=by
 have HC:=hid (Tryz.stringslite_Clone t w (by omega));clear h;go_enter Tryz.func236,Tryz.ntmps236;go_wp2_with (go_at_call 249;refine HC.out.mono ?_;rintro e w1 ⟨rfl,hb1⟩;have HB:=hid hb1;clear hb1);go_ret;exact⟨rfl,HB.out⟩
def qk5 (kd iv:Int) (rl:Nat) (tx:ByteArray):List Value:=[.int .i64 kd,.int .i64 iv,.float .f64 rl,.complex .f64 0 0,.string tx]
theorem jc2 {W:World} {g:Nat} (h:∃ cs,cs.length=5∧Bx W g 107 cs) (kd iv:Int) (rl:Nat) (tx:ByteArray) :
  Bx (((((W.setCell ⟨g,0,none⟩ (.int .i64 kd)).setCell ⟨g,1,none⟩ (.int .i64 iv)).setCell ⟨g,2,none⟩ (.float .f64 rl)).setCell ⟨g,3,none⟩ (.complex .f64 0 0)).setCell ⟨g,4,none⟩ (.string tx)) g 107 (qk5 kd iv rl tx):=by
 obtain⟨cs,hl,hb⟩:=h;have h5:=((((hb.set 0 (.int .i64 kd)).set 1 (.int .i64 iv)).set 2 (.float .f64 rl)).set 3 (.complex .f64 0 0)).set 4 (.string tx)
 match cs,hl with
 | [a,b,c,d,e],_=>exact h5
theorem jc1 {fn:Func} {p:Tmp} {tmps:Array Value} {W:World} {g:Nat} {kd iv:Int} {rl:Nat} {tx:ByteArray} (hf:fn.results=#[.cell p 107]) (hp:tmps.getD p undef=.pointer (some ⟨g,0,none⟩)) (h:Bx W g 107 (qk5 kd iv rl tx)) :
  (results fn tmps).run Tryz.prog W=.ok (qgK kd iv rl 0 0 tx) W:=results_cell_row hf _ _ g 107 _ (0,0) _ hp h Tryz.underlying107 rfl (by kernel_rfl)
theorem qhK {B:Nat} {w W:World} {g:Nat} (hb:Below B w W) (hg:B≤g) (a b c d e:Value):Below B w (((((W.setCell ⟨g,0,none⟩ a).setCell ⟨g,1,none⟩ b).setCell ⟨g,2,none⟩ c).setCell ⟨g,3,none⟩ d).setCell ⟨g,4,none⟩ e) :=
 ((((hb.setCell hg _).setCell hg _).setCell hg _).setCell hg _).setCell hg _
theorem qwO (l:Lf) (hv:∀ t,l≠.var t) (hl:okL l=true) (w:World) :
  Calls Tryz.prog 206 #[qrI l] w fun e w'=>e=.returned (qrI l)∧Below w.heap.size w w':=by
 have hk:((qaG l).vk=1∨(qaG l).vk=5∨(qaG l).vk=2∨(qaG l).vk=4)∧qkW (qaG l).vk (qaG l).vi (qaG l).tx=true∧(qaG l).rl<9218868437227405312∧(qaG l).tx.size≤256 ∧
   ((qaG l).vk=1∨(qaG l).vk=5→(qaG l).rl=0∧(qaG l).tx=⟨#[]⟩)∧((qaG l).vk=2→(qaG l).vi=0∧(qaG l).tx=⟨#[]⟩)∧((qaG l).vk=4→(qaG l).vi=0∧(qaG l).rl=0):=by
  cases l with
  | var t=>exact absurd rfl (hv t)
  | int v=>exact⟨.inl rfl,rfl,(by decide:0<9218868437227405312),(by decide:0≤256),fun _=>⟨rfl,rfl⟩,fun h=>(by cases h),fun h=>(by cases h)⟩
  | real b=>exact⟨.inr (.inr (.inl rfl)),rfl,of_decide_eq_true hl,(by decide:0≤256),fun h=>(by rcases h with h|h <;> cases h),fun _=>⟨rfl,rfl⟩,fun h=>(by cases h)⟩
  | text t=>exact⟨.inr (.inr (.inr rfl)),hl,(by decide:0<9218868437227405312),of_decide_eq_true hl,fun h=>(by rcases h with h|h <;> cases h),fun h=>(by cases h),fun _=>⟨rfl,rfl⟩⟩
  | bool b=>exact⟨.inr (.inl rfl),by cases b <;> rfl,(by decide:0<9218868437227405312),(by decide:0≤256),fun _=>⟨rfl,rfl⟩,fun h=>(by cases h),fun h=>(by cases h)⟩
 unfold qrI;obtain⟨hk1,hm,hr,ht,h15,h2,h4⟩:=hk;generalize (qaG l).vk=vk at *
 generalize (qaG l).vi=vi at *
 generalize (qaG l).rl=rl at *
 generalize (qaG l).tx=tx at *
 have sf:=qbQ;have sc:=qe9;have HM:=hid (fun W=>qp4 vk vi rl 0 0 tx W);have HMB:=hid hm;have HP:=hid (fun W=>qoR rl hr W);have HT:=hid ht;unfold qgK at HM ⊢;obtain⟨W0,hW0⟩:∃ W0,W0=((w.alloc (.cells #[.int .i64 vk,.int .i64 vi,.float .f64 rl,.complex .f64 0 0,.string tx] 107)).alloc (.cells #[.int .i64 0,.int .i64 0,.float .f64 0,.complex .f64 0 0,.string ⟨#[]⟩] 107)):=⟨_,rfl⟩
 have hB0:Below w.heap.size w W0:=by rw[hW0];exact((Below.refl w.heap.size w).alloc (Nat.le_refl _) _).alloc (by simp) _
 have hv0:Bx W0 w.heap.size 107 (qk5 vk vi rl tx):=by rw[hW0];exact(Bx.new w 107 (qk5 vk vi rl tx)).keep ((Below.refl _ _).alloc (Nat.le_refl _) _) (by simp)
 have hr0:Bx W0 (w.heap.size+1) 107 (qk5 0 0 0 ⟨#[]⟩):=by rw[hW0];have:=Bx.new (w.alloc (.cells #[.int .i64 vk,.int .i64 vi,.float .f64 rl,.complex .f64 0 0,.string tx] 107)) 107 (qk5 0 0 0 ⟨#[]⟩);rw[show (w.alloc (.cells #[.int .i64 vk,.int .i64 vi,.float .f64 rl,.complex .f64 0 0,.string tx] 107)).heap.size=w.heap.size+1 by simp] at this;exact this
 have v0:=hv0.c 0 rfl;have v1:=hv0.c 1 rfl;have v2:=hv0.c 2 rfl;have v3:=hv0.c 3 rfl;have v4:=hv0.c 4 rfl;have HW0:=hid hW0;have HB0:=hid hB0;have HV0:=hid hv0;have HR0:=hid hr0;have H15:=hid h15;have H2:=hid h2;have H4:=hid h4;have HK:=hid hk1;clear hW0 hB0 hv0 hr0 h15 h2 h4 hm hr ht hv hl hk1;go_enter Tryz.func206,Tryz.ntmps206;go_upto_region 1 with (fail);rw[← HW0.out];go_upto_region 3 with (go_at_call 186;refine(HM.out _).mono ?_;rintro e w1 ⟨rfl,hb1⟩;rw[HMB.out];have HB1:=hid (HB0.out.trans (hb1.mono HB0.out.size));have HV1:=hid (HV0.out.keep hb1 HV0.out.lt);have HR1:=hid (HR0.out.keep hb1 HR0.out.lt);clear hb1);clear v0 v1 v2 v3 v4;have v0:=HV1.out.c 0 rfl;have v1:=HV1.out.c 1 rfl;have v2:=HV1.out.c 2 rfl;have v4:=HV1.out.c 4 rfl;have n0:=HR1.out.c 0 rfl;have n1:=HR1.out.c 1 rfl;have n2:=HR1.out.c 2 rfl;have n3:=HR1.out.c 3 rfl;have n4:=HR1.out.c 4 rfl;have f0:=HR1.out.fz 0;have f1:=HR1.out.fz 1;have f2:=HR1.out.fz 2;have f3:=HR1.out.fz 3;have f4:=HR1.out.fz 4;have hgr:w.heap.size<w1.heap.size:=HV1.out.lt;rcases HK.out with rfl|rfl|rfl|rfl
 ·obtain⟨rfl,rfl⟩:=H15.out (.inl rfl);go_wp2;exact bodyPost_ret (jc1 rfl rfl (jc2 ⟨_,rfl,HR1.out⟩ _ _ _ _)) rfl ⟨rfl,qhK HB1.out (by omega) _ _ _ _ _⟩
 ·obtain⟨rfl,rfl⟩:=H15.out (.inr rfl);go_wp2;exact bodyPost_ret (jc1 rfl rfl (jc2 ⟨_,rfl,HR1.out⟩ _ _ _ _)) rfl ⟨rfl,qhK HB1.out (by omega) _ _ _ _ _⟩
 ·obtain⟨rfl,rfl⟩:=H2.out rfl;go_wp2_with (go_at_call 235;refine(HP.out _).mono ?_;rintro e w' ⟨rfl,rfl⟩);exact bodyPost_ret (jc1 rfl rfl (jc2 ⟨_,rfl,HR1.out⟩ _ _ _ _)) rfl ⟨rfl,qhK HB1.out (by omega) _ _ _ _ _⟩
 ·obtain⟨rfl,rfl⟩:=H4.out rfl;have HCL:=hid (qrY tx w1 HT.out);clear n0 n1 n2 n3 n4 f0 f1 f2 f3 f4;go_wp2_with (go_at_call 236;refine HCL.out.mono ?_;rintro e w2 ⟨rfl,hb2⟩;have HB2:=hid (HB1.out.trans (hb2.mono HB1.out.size));have HR2:=hid (HR1.out.keep hb2 HR1.out.lt);clear hb2;have n0:=HR2.out.c 0 rfl;have n1:=HR2.out.c 1 rfl;have n2:=HR2.out.c 2 rfl;have n3:=HR2.out.c 3 rfl;have n4:=HR2.out.c 4 rfl;have f0:=HR2.out.fz 0;have f1:=HR2.out.fz 1;have f2:=HR2.out.fz 2;have f3:=HR2.out.fz 3;have f4:=HR2.out.fz 4);exact bodyPost_ret (jc1 rfl rfl (jc2 ⟨_,rfl,HR2.out⟩ _ _ _ _)) rfl ⟨rfl,qhK HB2.out (by omega) _ _ _ _ _⟩
set_option maxHeartbeats 8000000
def zNd:Nd:=⟨0,0,0,⟨#[]⟩,0,0,0,0,0,⟨#[]⟩⟩
theorem jb0 {W:World} {g:Nat} (h:∃ cs,cs.length=9∧Bx W g 109 cs) (n:Nd) :
  Bx (((((((((W.setCell ⟨g,0,none⟩ (.int .i64 n.k)).setCell ⟨g,1,none⟩ (.int .i64 n.a)).setCell ⟨g,2,none⟩ (.int .i64 n.b)).setCell ⟨g,3,none⟩ (.string n.nm)).setCell ⟨g,4,none⟩ (.int .i64 n.vk)).setCell ⟨g,5,none⟩ (.int .i64 n.vi)).setCell ⟨g,6,none⟩ (.float .f64 n.rl)).setCell ⟨g,7,none⟩ (.complex .f64 n.re n.im)).setCell ⟨g,8,none⟩ (.string n.tx)) g 109 (qaB n):=by
 obtain⟨cs,hl,hb⟩:=h;have h9:=((((((((hb.set 0 (.int .i64 n.k)).set 1 (.int .i64 n.a)).set 2 (.int .i64 n.b)).set 3 (.string n.nm)).set 4 (.int .i64 n.vk)).set 5 (.int .i64 n.vi)).set 6 (.float .f64 n.rl)).set 7 (.complex .f64 n.re n.im)).set 8 (.string n.tx)
 match cs,hl with
 | [_,_,_,_,_,_,_,_,_],_=>exact h9
theorem jaZ {fn:Func} {p:Tmp} {tmps:Array Value} {W:World} {g:Nat} {n:Nd} (hf:fn.results=#[.cell p 109]) (hp:tmps.getD p undef=.pointer (some ⟨g,0,none⟩)) (h:Bx W g 109 (qaB n)) :
  (results fn tmps).run Tryz.prog W=.ok (ndV n) W:=results_cell_row hf _ _ g 109 _ (0,0) _ hp h Tryz.underlying109 rfl (by kernel_rfl)
theorem qg7 {B:Nat} {w W:World} {g:Nat} (hb:Below B w W) (hg:B≤g) (a b c d e f i j k:Value) :
  Below B w (((((((((W.setCell ⟨g,0,none⟩ a).setCell ⟨g,1,none⟩ b).setCell ⟨g,2,none⟩ c).setCell ⟨g,3,none⟩ d).setCell ⟨g,4,none⟩ e).setCell ⟨g,5,none⟩ f).setCell ⟨g,6,none⟩ i).setCell ⟨g,7,none⟩ j).setCell ⟨g,8,none⟩ k) :=
 ((((((((hb.setCell hg _).setCell hg _).setCell hg _).setCell hg _).setCell hg _).setCell hg _).setCell hg _).setCell hg _).setCell hg _
theorem qm0 (w:World) (T:TypeId) (a b:List Value):∃ W,W=((w.alloc (.cells a.toArray T)).alloc (.cells b.toArray T))∧Bx W w.heap.size T a∧Bx W (w.heap.size+1) T b∧Below w.heap.size w W∧W.heap.size=w.heap.size+2:=by
 refine⟨_,rfl,?_,?_,?_,?_⟩
 ·exact(Bx.new w T a).keep ((Below.refl _ _).alloc (by simp) _) (Nat.lt_succ_self _)
 ·have:=(Bx.new (w.alloc (.cells a.toArray T)) T b)
  rw[show (w.alloc (.cells a.toArray T)).heap.size=w.heap.size+1 by simp] at this;exact this
 ·exact((Below.refl w.heap.size w).alloc (Nat.le_refl _) _).alloc (by simp) _
 ·simp
inductive PlainN (K:Nat) (n:Nd):Prop
 | val (l:Lf) (hv:∀ t,l≠.var t) (hl:okL l=true) (hK:K=1) (hn:n=qaG l)
 | var (t:ByteArray) (hK:K=2) (hn:n=qaG (.var t))
 | one (x:Int) (hx:-9223372036854775808≤x∧x≤9223372036854775807) (hc:qeJ K=1) (hn:n=qdU K x 0)
 | two (x y:Int) (hx:-9223372036854775808≤x∧x≤9223372036854775807) (hy:-9223372036854775808≤y∧y≤9223372036854775807) (hc:qeJ K=2) (hn:n=qdU K x y)
theorem qqY (K:Nat) (n:Nd) (hK:K<27) (hP:PlainN K n) (w:World) (hT:Tab w) (hg:0<w.heap.size) :
  Calls Tryz.prog 184 #[ndV n,.int .i64 0] w fun e w'=>e=.returned (ndV n)∧Below w.heap.size w w':=by
 have sf:=qbQ;have sc:=qe9;have sh:=quD;have hnk:n.k=K:=by
  cases hP with
  | val l hv hl hK hn =>
   rw[hn,hK];cases l with
   | var t=>exact absurd rfl (hv t)
   | int v=>rfl
   | real v=>rfl
   | text v=>rfl
   | bool v=>rfl
  | var t hK hn=>rw[hn,hK];rfl
  | one x hx hc hn=>rw[hn];rfl
  | two x y hx hy hc hn=>rw[hn];rfl
 obtain⟨W0,hW0,ha,hb,hB,hsz⟩:=qm0 w 109 (qaB n) (qaB zNd);have HW0:Hid (W0=(w.alloc (.cells #[.int .i64 K,.int .i64 n.a,.int .i64 n.b,.string n.nm,.int .i64 n.vk,.int .i64 n.vi,.float .f64 n.rl,.complex .f64 n.re n.im,.string n.tx] 109)).alloc (.cells #[.int .i64 0,.int .i64 0,.int .i64 0,.string ⟨#[]⟩,.int .i64 0,.int .i64 0,.float .f64 0,.complex .f64 0 0,.string ⟨#[]⟩] 109)):=hid (by rw[← hnk];exact hW0);have k0:=ha.c 0 rfl;rw[hnk] at k0;have hgr0:w.heap.size<W0.heap.size:=by omega
 have hgr1:w.heap.size+1<W0.heap.size:=by omega
 have hB1:Below W0.heap.size W0 (W0.alloc (.cells #[.int .i64 K,.int .i64 0,.int .i64 0,.string ⟨#[]⟩,.int .i64 0,.int .i64 0,.float .f64 0,.complex .f64 0 0,.string ⟨#[]⟩] 109)):=(Below.refl _ _).alloc (Nat.le_refl _) _;have hc1:Bx (W0.alloc (.cells #[.int .i64 K,.int .i64 0,.int .i64 0,.string ⟨#[]⟩,.int .i64 0,.int .i64 0,.float .f64 0,.complex .f64 0 0,.string ⟨#[]⟩] 109)) W0.heap.size 109 (qaB ⟨K,0,0,⟨#[]⟩,0,0,0,0,0,⟨#[]⟩⟩):=Bx.new W0 _ _;have hsz1:(W0.alloc (.cells #[.int .i64 K,.int .i64 0,.int .i64 0,.string ⟨#[]⟩,.int .i64 0,.int .i64 0,.float .f64 0,.complex .f64 0 0,.string ⟨#[]⟩] 109)).heap.size=W0.heap.size+1:=by simp
 have HSZ1:=hid hsz1;have HA1:=hid (ha.keep hB1 hgr0);have HB1:=hid (hb.keep hB1 hgr1);have HC1:=hid hc1;have hBW1:=hB.trans (hB1.mono (by omega));have HBW1:=hid hBW1;have HT1:=hid (hT.of_block (hBW1.block _ hg));have HGR:=hid hsz;have HNK:=hid hnk;have HPP:=hid hP;have HKK:=hid hK;clear hP ha hb hB hsz hB1 hc1 hsz1 hBW1 hW0 hT;unfold ndV;rw[hnk];clear hnk;go_enter Tryz.func184,Tryz.ntmps184;go_upto_region 1 with (fail);rw[← HW0.out];go_upto_region 2 with (fail);generalize W0.alloc (.cells #[.int .i64 K,.int .i64 0,.int .i64 0,.string ⟨#[]⟩,.int .i64 0,.int .i64 0,.float .f64 0,.complex .f64 0 0,.string ⟨#[]⟩] 109)=W1 at HSZ1 HA1 HB1 HC1 HBW1 HT1 ⊢;obtain⟨P,hP⟩:∃ P,P=W0.heap.size:=⟨_,rfl⟩
 rw[← hP] at HSZ1 HC1 hgr0 hgr1 ⊢;clear k0 HW0;have k0:=HA1.out.c 0 rfl;rw[HNK.out] at k0;have HSH:=hid (qgC K HKK.out W1 HT1.out (by have:=HBW1.out.size;omega));have hPs:P<W1.heap.size:=HC1.out.lt;have hP2:w.heap.size+2=P:=by rw[hP];exact HGR.out.symm
 clear hP;have HP2:=hid hP2;clear hP2;rcases HPP.out with ⟨l,hv,hl,hK1,hn⟩|⟨t,hK1,hn⟩|⟨x,hx,hch,hn⟩|⟨x,y,hx,hy,hch,hn⟩
 ·subst hK1;have hlf:n.a=0∧n.b=0∧n.nm=⟨#[]⟩∧n.re=0∧n.im=0:=by
   rw[hn];cases l with
   | var t=>exact absurd rfl (hv t)
   | int v=>exact⟨rfl,rfl,rfl,rfl,rfl⟩
   | real v=>exact⟨rfl,rfl,rfl,rfl,rfl⟩
   | text v=>exact⟨rfl,rfl,rfl,rfl,rfl⟩
   | bool v=>exact⟨rfl,rfl,rfl,rfl,rfl⟩
  obtain⟨h1,h2,h3,h4,h5⟩:=hlf;have HVP:=hid (fun W=>qwO l hv hl W);unfold qrI qgK at HVP;rw[← hn] at HVP;have HN:=hid (show n=⟨1,0,0,⟨#[]⟩,n.vk,n.vi,n.rl,0,0,n.tx⟩ by rw[← h1,← h4];cases n;simp_all;exact HNK.out);generalize n.vk=vk at HVP HN;generalize n.vi=vi at HVP HN;generalize n.rl=rl at HVP HN;generalize n.tx=tx at HVP HN;clear h1 h2 h3 h4 h5 hn hl hv;have hn:=HN.out;clear HN HNK HPP;subst hn;rw[show qeJ 1=0 from rfl] at HSH;go_upto_region 7 with (go_at_call 205;refine HSH.out.mono ?_;rintro e w2 ⟨rfl,hb2⟩;have HA2:=hid (HA1.out.keep hb2 HA1.out.lt);have HB2:=hid (HB1.out.keep hb2 HB1.out.lt);have HC2:=hid (HC1.out.keep hb2 HC1.out.lt);have HBW2:=hid (HBW1.out.trans (hb2.mono HBW1.out.size));have hP3:P<w2.heap.size:=HC2.out.lt;have k2:=HA2.out.c 0 rfl;clear hb2);clear k0;have k0:=HA2.out.c 0 rfl;have v4:=HA2.out.c 4 rfl;have v5:=HA2.out.c 5 rfl;have v6:=HA2.out.c 6 rfl;have v7:=HA2.out.c 7 rfl;have v8:=HA2.out.c 8 rfl;go_upto_region 12 with (go_at_call 206;refine(HVP.out _).mono ?_;rintro e w3 ⟨rfl,hb3⟩;have HB3:=hid (HB2.out.keep hb3 HB2.out.lt);have HC3:=hid (HC2.out.keep hb3 HC2.out.lt);have HBW3:=hid (HBW2.out.trans (hb3.mono HBW2.out.size));have hP4:P<w3.heap.size:=HC3.out.lt;clear hb3;have n4:=HC3.out.c 4 rfl;have n5:=HC3.out.c 5 rfl;have n6:=HC3.out.c 6 rfl;have n7:=HC3.out.c 7 rfl;have n8:=HC3.out.c 8 rfl;have f4:=HC3.out.fz 4;have f5:=HC3.out.fz 5;have f6:=HC3.out.fz 6;have f7:=HC3.out.fz 7;have f8:=HC3.out.fz 8);have HC4:Hid (Bx (((((w3.setCell ⟨P,4,none⟩ (.int .i64 vk)).setCell ⟨P,5,none⟩ (.int .i64 vi)).setCell ⟨P,6,none⟩ (.float .f64 rl)).setCell ⟨P,7,none⟩ (.complex .f64 0 0)).setCell ⟨P,8,none⟩ (.string tx)) P 109 (qaB ⟨1,0,0,⟨#[]⟩,vk,vi,rl,0,0,tx⟩)):=hid (((((HC3.out.set 4 _).set 5 _).set 6 _).set 7 _).set 8 _);have HB4:Hid (Bx (((((w3.setCell ⟨P,4,none⟩ (.int .i64 vk)).setCell ⟨P,5,none⟩ (.int .i64 vi)).setCell ⟨P,6,none⟩ (.float .f64 rl)).setCell ⟨P,7,none⟩ (.complex .f64 0 0)).setCell ⟨P,8,none⟩ (.string tx)) (w.heap.size+1) 109 (qaB zNd)):=hid (((((HB3.out.other (by omega) _ _).other (by omega) _ _).other (by omega) _ _).other (by omega) _ _).other (by omega) _ _);have HBW4:Hid (Below w.heap.size w (((((w3.setCell ⟨P,4,none⟩ (.int .i64 vk)).setCell ⟨P,5,none⟩ (.int .i64 vi)).setCell ⟨P,6,none⟩ (.float .f64 rl)).setCell ⟨P,7,none⟩ (.complex .f64 0 0)).setCell ⟨P,8,none⟩ (.string tx))):=hid (((((HBW3.out.setCell (by show _≤P;omega) _).setCell (by show _≤P;omega) _).setCell (by show _≤P;omega) _).setCell (by show _≤P;omega) _).setCell (by show _≤P;omega) _);generalize ((((w3.setCell ⟨P,4,none⟩ (.int .i64 vk)).setCell ⟨P,5,none⟩ (.int .i64 vi)).setCell ⟨P,6,none⟩ (.float .f64 rl)).setCell ⟨P,7,none⟩ (.complex .f64 0 0)).setCell ⟨P,8,none⟩ (.string tx)=W4 at HC4 HB4 HBW4 ⊢;clear n4 n5 n6 n7 n8 f4 f5 f6 f7 f8 v4 v5 v6 v7 v8;clear k0;have v0:=HC4.out.c 0 rfl;have v1:=HC4.out.c 1 rfl;have v2:=HC4.out.c 2 rfl;have v3:=HC4.out.c 3 rfl;have v4:=HC4.out.c 4 rfl;have v5:=HC4.out.c 5 rfl;have v6:=HC4.out.c 6 rfl;have v7:=HC4.out.c 7 rfl;have v8:=HC4.out.c 8 rfl;have n0:=HB4.out.c 0 rfl;have n1:=HB4.out.c 1 rfl;have n2:=HB4.out.c 2 rfl;have n3:=HB4.out.c 3 rfl;have n4:=HB4.out.c 4 rfl;have n5:=HB4.out.c 5 rfl;have n6:=HB4.out.c 6 rfl;have n7:=HB4.out.c 7 rfl;have n8:=HB4.out.c 8 rfl;have f0:=HB4.out.fz 0;have f1:=HB4.out.fz 1;have f2:=HB4.out.fz 2;have f3:=HB4.out.fz 3;have f4:=HB4.out.fz 4;have f5:=HB4.out.fz 5;have f6:=HB4.out.fz 6;have f7:=HB4.out.fz 7;have f8:=HB4.out.fz 8;go_wp2;exact bodyPost_ret (jaZ rfl rfl (jb0 ⟨_,rfl,HB4.out⟩ ⟨1,0,0,⟨#[]⟩,vk,vi,rl,0,0,tx⟩)) rfl ⟨rfl,qg7 HBW4.out (by omega) _ _ _ _ _ _ _ _ _⟩
 ·subst hK1;clear HNK HPP;subst hn;rw[show qeJ 2=0 from rfl] at HSH;go_upto_region 7 with (go_at_call 205;refine HSH.out.mono ?_;rintro e w2 ⟨rfl,hb2⟩;have HA2:=hid (HA1.out.keep hb2 HA1.out.lt);have HB2:=hid (HB1.out.keep hb2 HB1.out.lt);have HC2:=hid (HC1.out.keep hb2 HC1.out.lt);have HBW2:=hid (HBW1.out.trans (hb2.mono HBW1.out.size));have hP3:P<w2.heap.size:=HC2.out.lt;have k2:=HA2.out.c 0 rfl;clear hb2);clear k0;have k0:=HA2.out.c 0 rfl;have v3:w2.cell? ⟨w.heap.size,3,none⟩=some (.string t):=HA2.out.c 3 rfl;have n3:=HC2.out.c 3 rfl;have f3:=HC2.out.fz 3;go_upto_region 12 with (fail);have HC4:Hid (Bx (w2.setCell ⟨P,3,none⟩ (.string t)) P 109 (qaB ⟨2,0,0,t,0,0,0,0,0,⟨#[]⟩⟩)):=hid (HC2.out.set 3 _);have HB4:Hid (Bx (w2.setCell ⟨P,3,none⟩ (.string t)) (w.heap.size+1) 109 (qaB zNd)):=hid (HB2.out.other (by omega) _ _);have HBW4:Hid (Below w.heap.size w (w2.setCell ⟨P,3,none⟩ (.string t))):=hid (HBW2.out.setCell (by show _≤P;omega) _);generalize w2.setCell ⟨P,3,none⟩ (.string t)=W4 at HC4 HB4 HBW4 ⊢;clear n3 f3 v3;clear k0;have v0:=HC4.out.c 0 rfl;have v1:=HC4.out.c 1 rfl;have v2:=HC4.out.c 2 rfl;have v3:=HC4.out.c 3 rfl;have v4:=HC4.out.c 4 rfl;have v5:=HC4.out.c 5 rfl;have v6:=HC4.out.c 6 rfl;have v7:=HC4.out.c 7 rfl;have v8:=HC4.out.c 8 rfl;have n0:=HB4.out.c 0 rfl;have n1:=HB4.out.c 1 rfl;have n2:=HB4.out.c 2 rfl;have n3:=HB4.out.c 3 rfl;have n4:=HB4.out.c 4 rfl;have n5:=HB4.out.c 5 rfl;have n6:=HB4.out.c 6 rfl;have n7:=HB4.out.c 7 rfl;have n8:=HB4.out.c 8 rfl;have f0:=HB4.out.fz 0;have f1:=HB4.out.fz 1;have f2:=HB4.out.fz 2;have f3:=HB4.out.fz 3;have f4:=HB4.out.fz 4;have f5:=HB4.out.fz 5;have f6:=HB4.out.fz 6;have f7:=HB4.out.fz 7;have f8:=HB4.out.fz 8;go_wp2;exact bodyPost_ret (jaZ rfl rfl (jb0 ⟨_,rfl,HB4.out⟩ ⟨2,0,0,t,0,0,0,0,0,⟨#[]⟩⟩)) rfl ⟨rfl,qg7 HBW4.out (by omega) _ _ _ _ _ _ _ _ _⟩
 ·clear HNK HPP;subst hn;rw[hch] at HSH;have hk12:K≠1∧K≠2:=⟨fun h=>(by rw[h] at hch;cases hch),fun h=>(by rw[h] at hch;cases hch)⟩
  have d1:((K:Int)==1)=false:=beq_eq_false_iff_ne.2 (by omega);have d2:((K:Int)==2)=false:=beq_eq_false_iff_ne.2 (by omega);clear hk12;clear hch;go_upto_region 6 with (go_at_call 205;refine HSH.out.mono ?_;rintro e w2 ⟨rfl,hb2⟩;have HA2:=hid (HA1.out.keep hb2 HA1.out.lt);have HB2:=hid (HB1.out.keep hb2 HB1.out.lt);have HC2:=hid (HC1.out.keep hb2 HC1.out.lt);have HBW2:=hid (HBW1.out.trans (hb2.mono HBW1.out.size));have hP3:P<w2.heap.size:=HC2.out.lt;have k2:=HA2.out.c 0 rfl;clear hb2);clear k0;have k0:=HA2.out.c 0 rfl;have v1:w2.cell? ⟨w.heap.size,1,none⟩=some (.int .i64 x):=HA2.out.c 1 rfl;have n1:=HC2.out.c 1 rfl;have f1:=HC2.out.fz 1;go_upto_region 7 with (fail);have HC4:Hid (Bx (w2.setCell ⟨P,1,none⟩ (.int .i64 x)) P 109 (qaB ⟨K,x,0,⟨#[]⟩,0,0,0,0,0,⟨#[]⟩⟩)):=hid (HC2.out.set 1 _);have HB4:Hid (Bx (w2.setCell ⟨P,1,none⟩ (.int .i64 x)) (w.heap.size+1) 109 (qaB zNd)):=hid (HB2.out.other (by omega) _ _);have HA4:Hid (Bx (w2.setCell ⟨P,1,none⟩ (.int .i64 x)) w.heap.size 109 (qaB (qdU K x 0))):=hid (HA2.out.other (by omega) _ _);have HBW4:Hid (Below w.heap.size w (w2.setCell ⟨P,1,none⟩ (.int .i64 x))):=hid (HBW2.out.setCell (by show _≤P;omega) _);generalize w2.setCell ⟨P,1,none⟩ (.int .i64 x)=W4 at HC4 HB4 HA4 HBW4 ⊢;clear n1 f1 v1 k0 k2;have k0:W4.cell? ⟨w.heap.size,0,none⟩=some (.int .i64 K):=HA4.out.c 0 rfl;go_upto_region 12 with (fail);clear k0;have v0:=HC4.out.c 0 rfl;have v1:=HC4.out.c 1 rfl;have v2:=HC4.out.c 2 rfl;have v3:=HC4.out.c 3 rfl;have v4:=HC4.out.c 4 rfl;have v5:=HC4.out.c 5 rfl;have v6:=HC4.out.c 6 rfl;have v7:=HC4.out.c 7 rfl;have v8:=HC4.out.c 8 rfl;have n0:=HB4.out.c 0 rfl;have n1:=HB4.out.c 1 rfl;have n2:=HB4.out.c 2 rfl;have n3:=HB4.out.c 3 rfl;have n4:=HB4.out.c 4 rfl;have n5:=HB4.out.c 5 rfl;have n6:=HB4.out.c 6 rfl;have n7:=HB4.out.c 7 rfl;have n8:=HB4.out.c 8 rfl;have f0:=HB4.out.fz 0;have f1:=HB4.out.fz 1;have f2:=HB4.out.fz 2;have f3:=HB4.out.fz 3;have f4:=HB4.out.fz 4;have f5:=HB4.out.fz 5;have f6:=HB4.out.fz 6;have f7:=HB4.out.fz 7;have f8:=HB4.out.fz 8;go_wp2;exact bodyPost_ret (jaZ rfl rfl (jb0 ⟨_,rfl,HB4.out⟩ ⟨K,x,0,⟨#[]⟩,0,0,0,0,0,⟨#[]⟩⟩)) rfl ⟨rfl,qg7 HBW4.out (by omega) _ _ _ _ _ _ _ _ _⟩
 ·clear HNK HPP;subst hn;rw[hch] at HSH;have hk12:K≠1∧K≠2:=⟨fun h=>(by rw[h] at hch;cases hch),fun h=>(by rw[h] at hch;cases hch)⟩
  have d1:((K:Int)==1)=false:=beq_eq_false_iff_ne.2 (by omega);have d2:((K:Int)==2)=false:=beq_eq_false_iff_ne.2 (by omega);clear hk12;clear hch;go_upto_region 5 with (go_at_call 205;refine HSH.out.mono ?_;rintro e w2 ⟨rfl,hb2⟩;have HA2:=hid (HA1.out.keep hb2 HA1.out.lt);have HB2:=hid (HB1.out.keep hb2 HB1.out.lt);have HC2:=hid (HC1.out.keep hb2 HC1.out.lt);have HBW2:=hid (HBW1.out.trans (hb2.mono HBW1.out.size));have hP3:P<w2.heap.size:=HC2.out.lt;have k2:=HA2.out.c 0 rfl;clear hb2);clear k0;have k0:=HA2.out.c 0 rfl;have v1:w2.cell? ⟨w.heap.size,1,none⟩=some (.int .i64 x):=HA2.out.c 1 rfl;have v2:w2.cell? ⟨w.heap.size,2,none⟩=some (.int .i64 y):=HA2.out.c 2 rfl;have n1:=HC2.out.c 1 rfl;have f1:=HC2.out.fz 1;have n2:=HC2.out.c 2 rfl;have f2:=HC2.out.fz 2;go_upto_region 7 with (fail);have HC4:Hid (Bx ((w2.setCell ⟨P,2,none⟩ (.int .i64 y)).setCell ⟨P,1,none⟩ (.int .i64 x)) P 109 (qaB ⟨K,x,y,⟨#[]⟩,0,0,0,0,0,⟨#[]⟩⟩)):=hid ((HC2.out.set 2 _).set 1 _);have HB4:Hid (Bx ((w2.setCell ⟨P,2,none⟩ (.int .i64 y)).setCell ⟨P,1,none⟩ (.int .i64 x)) (w.heap.size+1) 109 (qaB zNd)):=hid ((HB2.out.other (by omega) _ _).other (by omega) _ _);have HA4:Hid (Bx ((w2.setCell ⟨P,2,none⟩ (.int .i64 y)).setCell ⟨P,1,none⟩ (.int .i64 x)) w.heap.size 109 (qaB (qdU K x y))):=hid ((HA2.out.other (by omega) _ _).other (by omega) _ _);have HBW4:Hid (Below w.heap.size w ((w2.setCell ⟨P,2,none⟩ (.int .i64 y)).setCell ⟨P,1,none⟩ (.int .i64 x))):=hid ((HBW2.out.setCell (by show _≤P;omega) _).setCell (by show _≤P;omega) _);generalize ((w2.setCell ⟨P,2,none⟩ (.int .i64 y)).setCell ⟨P,1,none⟩ (.int .i64 x))=W4 at HC4 HB4 HA4 HBW4 ⊢;clear n1 f1 v1 n2 f2 v2 k0 k2;have k0:W4.cell? ⟨w.heap.size,0,none⟩=some (.int .i64 K):=HA4.out.c 0 rfl;go_upto_region 12 with (fail);clear k0;have v0:=HC4.out.c 0 rfl;have v1:=HC4.out.c 1 rfl;have v2:=HC4.out.c 2 rfl;have v3:=HC4.out.c 3 rfl;have v4:=HC4.out.c 4 rfl;have v5:=HC4.out.c 5 rfl;have v6:=HC4.out.c 6 rfl;have v7:=HC4.out.c 7 rfl;have v8:=HC4.out.c 8 rfl;have n0:=HB4.out.c 0 rfl;have n1:=HB4.out.c 1 rfl;have n2:=HB4.out.c 2 rfl;have n3:=HB4.out.c 3 rfl;have n4:=HB4.out.c 4 rfl;have n5:=HB4.out.c 5 rfl;have n6:=HB4.out.c 6 rfl;have n7:=HB4.out.c 7 rfl;have n8:=HB4.out.c 8 rfl;have f0:=HB4.out.fz 0;have f1:=HB4.out.fz 1;have f2:=HB4.out.fz 2;have f3:=HB4.out.fz 3;have f4:=HB4.out.fz 4;have f5:=HB4.out.fz 5;have f6:=HB4.out.fz 6;have f7:=HB4.out.fz 7;have f8:=HB4.out.fz 8;go_wp2;exact bodyPost_ret (jaZ rfl rfl (jb0 ⟨_,rfl,HB4.out⟩ ⟨K,x,y,⟨#[]⟩,0,0,0,0,0,⟨#[]⟩⟩)) rfl ⟨rfl,qg7 HBW4.out (by omega) _ _ _ _ _ _ _ _ _⟩
theorem q88 (K:Nat) (n:Nd) (hK:K<27) (hP:PlainN K n) (hs:n.nm.size≤256) (w:World) (hT:Tab w) (hg:0<w.heap.size) :
  Calls Tryz.prog 254 #[ndV n,.int .i64 0] w fun e w'=>e=.returned (ndV n)∧Below w.heap.size w w':=by
 have sf:=qbQ;have sc:=qe9;obtain⟨W0,hW0,ha,hb,hB,hsz⟩:=qm0 w 109 (qaB n) (qaB zNd);have HW0:Hid (W0=(w.alloc (.cells #[.int .i64 n.k,.int .i64 n.a,.int .i64 n.b,.string n.nm,.int .i64 n.vk,.int .i64 n.vi,.float .f64 n.rl,.complex .f64 n.re n.im,.string n.tx] 109)).alloc (.cells #[.int .i64 0,.int .i64 0,.int .i64 0,.string ⟨#[]⟩,.int .i64 0,.int .i64 0,.float .f64 0,.complex .f64 0 0,.string ⟨#[]⟩] 109)):=hid hW0;have HP:=hid (qqY K n hK hP W0 (hT.of_block (hB.block _ hg)) (by omega));unfold ndV at HP;have HA0:=hid ha;have HB0:=hid hb;have HBW0:=hid hB;have HSZ:=hid hsz;have HS:=hid hs;have k0:=ha.c 0 rfl;have k1:=ha.c 1 rfl;have k2:=ha.c 2 rfl;have k3:=ha.c 3 rfl;have k4:=ha.c 4 rfl;have k5:=ha.c 5 rfl;have k6:=ha.c 6 rfl;have k7:=ha.c 7 rfl;have k8:=ha.c 8 rfl;clear ha hb hB hsz hs hW0 hT hP;unfold ndV;go_enter Tryz.func254,Tryz.ntmps254;go_upto_region 1 with (fail);rw[← HW0.out];go_upto_region 2 with (go_at_call 184;refine HP.out.mono ?_;rintro e w1 ⟨rfl,hb1⟩;have HA1:=hid (HA0.out.keep hb1 HA0.out.lt);have HB1:=hid (HB0.out.keep hb1 HB0.out.lt);have HBW1:=hid (HBW0.out.trans (hb1.mono HBW0.out.size));clear hb1);have hb2:Below w1.heap.size w1 (w1.alloc (.cells (qaB n).toArray 109)):=(Below.refl _ _).alloc (Nat.le_refl _) _;have HC2:=hid (Bx.new w1 109 (qaB n));have HB2:=hid (HB1.out.keep hb2 HB1.out.lt);have HBW2:=hid (HBW1.out.trans (hb2.mono HBW1.out.size));have hlt1:w.heap.size+1<w1.heap.size:=HB1.out.lt;clear hb2 k0 k1 k2 k3 k4 k5 k6 k7 k8;have hW2:∃ W2,W2=w1.alloc (.cells #[.int .i64 n.k,.int .i64 n.a,.int .i64 n.b,.string n.nm,.int .i64 n.vk,.int .i64 n.vi,.float .f64 n.rl,.complex .f64 n.re n.im,.string n.tx] 109):=⟨_,rfl⟩
 obtain⟨W2,hW2⟩:=hW2;have hW2':W2=w1.alloc (.cells (qaB n).toArray 109):=hW2;rw[← hW2'] at HC2 HB2 HBW2;rw[← hW2];clear hW2 hW2';have k3:=HC2.out.c 3 rfl;have HCL:=hid (qrY n.nm W2 HS.out);obtain⟨P,hP⟩:∃ P,P=w1.heap.size:=⟨_,rfl⟩
 rw[← hP] at HC2 k3 hlt1 ⊢;clear hP;go_upto_region 3 with (go_at_call 236;refine HCL.out.mono ?_;rintro e w3 ⟨rfl,hb3⟩;have HB3:=hid (HB2.out.keep hb3 HB2.out.lt);have HC3:=hid (HC2.out.keep hb3 HC2.out.lt);have HBW3:=hid (HBW2.out.trans (hb3.mono HBW2.out.size));have hP4:P<w3.heap.size:=HC3.out.lt;clear hb3;have n3:=HC3.out.c 3 rfl;have f3:=HC3.out.fz 3);have HC4:Hid (Bx (w3.setCell ⟨P,3,none⟩ (.string n.nm)) P 109 (qaB n)):=hid (HC3.out.set 3 _);have HB4:Hid (Bx (w3.setCell ⟨P,3,none⟩ (.string n.nm)) (w.heap.size+1) 109 (qaB zNd)):=hid (HB3.out.other (by omega) _ _);have HBW4:Hid (Below w.heap.size w (w3.setCell ⟨P,3,none⟩ (.string n.nm))):=hid (HBW3.out.setCell (by show _≤P;omega) _);generalize w3.setCell ⟨P,3,none⟩ (.string n.nm)=W4 at HC4 HB4 HBW4 ⊢;clear n3 f3 k3;have v0:=HC4.out.c 0 rfl;have v1:=HC4.out.c 1 rfl;have v2:=HC4.out.c 2 rfl;have v3:=HC4.out.c 3 rfl;have v4:=HC4.out.c 4 rfl;have v5:=HC4.out.c 5 rfl;have v6:=HC4.out.c 6 rfl;have v7:=HC4.out.c 7 rfl;have v8:=HC4.out.c 8 rfl;have n0:=HB4.out.c 0 rfl;have n1:=HB4.out.c 1 rfl;have n2:=HB4.out.c 2 rfl;have n3:=HB4.out.c 3 rfl;have n4:=HB4.out.c 4 rfl;have n5:=HB4.out.c 5 rfl;have n6:=HB4.out.c 6 rfl;have n7:=HB4.out.c 7 rfl;have n8:=HB4.out.c 8 rfl;have f0:=HB4.out.fz 0;have f1:=HB4.out.fz 1;have f2:=HB4.out.fz 2;have f3:=HB4.out.fz 3;have f4:=HB4.out.fz 4;have f5:=HB4.out.fz 5;have f6:=HB4.out.fz 6;have f7:=HB4.out.fz 7;have f8:=HB4.out.fz 8;go_wp2;exact bodyPost_ret (jaZ rfl rfl (jb0 ⟨_,rfl,HB4.out⟩ n)) rfl ⟨rfl,qg7 HBW4.out (by omega) _ _ _ _ _ _ _ _ _⟩
theorem qnF {l:Lf} (h:okL l=true):∃ K,K<27∧PlainN K (qaG l)∧(qaG l).nm.size≤256:=by
 by_cases hv:∃ t,l=.var t
 ·obtain⟨t,rfl⟩:=hv;refine⟨2,by decide,.var t rfl rfl,?_⟩;show t.size≤256;unfold okL qd2 at h;simp only[Bool.and_eq_true,decide_eq_true_eq] at h;have:=h.1.1.1.1.1.2;simp at this;omega
 ·refine⟨1,by decide,.val l (fun t h=>hv ⟨t,h⟩) h rfl rfl,?_⟩;cases l with
  | var t=>exact absurd ⟨t,rfl⟩ hv
  | int v=>exact Nat.zero_le _
  | real v=>exact Nat.zero_le _
  | text v=>exact Nat.zero_le _
  | bool v=>exact Nat.zero_le _
def qq2 (L:List TokE) (l:Lf) (k p cap:Nat) (a:Option Addr) (ns:List Nd) (w:World) (e:Ending) (w':World):Prop :=
 ((okL l=false∧e=qbO k 50)∨(okL l=true∧e=.returned (.int .i64 ns.length)∧∃ nv',St w' p cap a L (k+1) nv' (ns++[qaG l])))∧Below p w w'
theorem qv8 (p cap k:Nat) (a:Option Addr) (L:List TokE) (nv:Value) (ns:List Nd) (l:Lf) (w:World) (h:St w p cap a L k nv ns) (hk:k<L.length) (hcap:L.length≤1000000000000) (hlen:ns.length≤1000000000000) (hr:∀ b,l=.real b→b<18446744073709551616) :
  Calls Tryz.prog 232 #[.pointer (some ⟨p,0,none⟩),ndV (qaG l)] w (qq2 L l k p cap a ns w):=by
 have hlt:=h.rdr.lt;have hgp:=h.gp;obtain⟨W0,hW0,ha,hB⟩:∃ W0,W0=w.alloc (.cells (qaB (qaG l)).toArray 109)∧Bx W0 w.heap.size 109 (qaB (qaG l))∧Below w.heap.size w W0:=⟨_,rfl,Bx.new w _ _,(Below.refl _ w).alloc (Nat.le_refl _) _⟩
 have hst0:=h.below hB;have HL:=hid (qnP l hr W0 hst0.tab (Nat.lt_trans hgp hst0.rdr.lt));obtain⟨n,hn⟩:∃ n,n=qaG l:=⟨_,rfl⟩
 rw[← hn] at HL ha hW0 ⊢;have HW0:Hid (W0=w.alloc (.cells #[.int .i64 n.k,.int .i64 n.a,.int .i64 n.b,.string n.nm,.int .i64 n.vk,.int .i64 n.vi,.float .f64 n.rl,.complex .f64 n.re n.im,.string n.tx] 109)):=hid hW0;have HST0:=hid hst0;have HA0:=hid ha;have HBW0:=hid hB;have HN:=hid hn;have k0:=ha.c 0 rfl;have k1:=ha.c 1 rfl;have k2:=ha.c 2 rfl;have k3:=ha.c 3 rfl;have k4:=ha.c 4 rfl;have k5:=ha.c 5 rfl;have k6:=ha.c 6 rfl;have k7:=ha.c 7 rfl;have k8:=ha.c 8 rfl;unfold ndV at HL ⊢;unfold qq2;cases hok:okL l with
 | false =>
  rw[hok] at HL;clear ha hB hst0 hW0 h hr hn hok;go_enter Tryz.func232,Tryz.ntmps232;go_upto_region 1 with (fail);rw[← HW0.out];go_wp2_with (first|(go_at_call 208;refine HL.out.mono ?_;rintro e w1 ⟨rfl,hb1⟩;have HS:=hid (HST0.out.below hb1);have HB:=hid (HBW0.out.trans (hb1.mono HBW0.out.size));clear hb1)|(go_at_call 202;refine(ql3 p k _ nv _ HS.out.rdr).mono ?_;rintro e w' ⟨rfl,rfl⟩;unfold qbO));exact⟨rfl,.inl ⟨by first|rfl|trivial,rfl⟩,HB.out.mono (Nat.le_of_lt hlt)⟩
 | true =>
  rw[hok] at HL;obtain⟨K,hK,hP,hs⟩:=qnF hok;rw[← hn] at hP hs;have HP:=hid hP;have HS0:=hid hs;clear ha hB hst0 hW0 h hr hn hok hP hs;go_enter Tryz.func232,Tryz.ntmps232;go_upto_region 1 with (fail);rw[← HW0.out];go_upto_region 3 with (go_at_call 208;refine HL.out.mono ?_;rintro e w1 ⟨rfl,hb1⟩;have HS:=hid (HST0.out.below hb1);have HA1:=hid (HA0.out.keep hb1 HA0.out.lt);have HB:=hid (HBW0.out.trans (hb1.mono HBW0.out.size));clear hb1);have c1:=HS.out.rdr.c1;have fz:w1.frozen? ⟨p,1,none⟩=false:=HS.out.rdr.fz;go_upto_region 4 with (fail);rw[show (k:Int)+1=((k+1:Nat):Int) from rfl];have HMV:=hid (HS.out.move (k+1) (by omega));have HBM:Hid (Below p w (w1.setCell ⟨p,1,none⟩ (.int .i64 ((k+1:Nat):Int)))):=hid ((HB.out.mono (Nat.le_of_lt hlt)).setCell (Nat.le_refl p) _);have HAM:Hid (Bx (w1.setCell ⟨p,1,none⟩ (.int .i64 ((k+1:Nat):Int))) w.heap.size 109 (qaB n)):=hid (HA1.out.other (by omega) _ _);generalize w1.setCell ⟨p,1,none⟩ (.int .i64 ((k+1:Nat):Int))=WM at HMV HBM HAM ⊢;clear k0 k1 k2 k3 k4 k5 k6 k7 k8 c1 fz;have k0:=HAM.out.c 0 rfl;have k1:=HAM.out.c 1 rfl;have k2:=HAM.out.c 2 rfl;have k3:=HAM.out.c 3 rfl;have k4:=HAM.out.c 4 rfl;have k5:=HAM.out.c 5 rfl;have k6:=HAM.out.c 6 rfl;have k7:=HAM.out.c 7 rfl;have k8:=HAM.out.c 8 rfl;have HO:=hid (q88 K n hK HP.out HS0.out WM HMV.out.tab (Nat.lt_trans hgp HMV.out.rdr.lt));unfold ndV at HO;go_wp2_with (first
   | (go_at_call 254;refine HO.out.mono ?_;rintro e w2 ⟨rfl,hb2⟩;have HS2:=hid (HMV.out.below hb2);have HB2:=hid (HBM.out.trans (hb2.mono (Nat.le_of_lt HMV.out.rdr.lt)));clear hb2;have HADD:=hid (qtR p cap (k+1) a L nv ns n w2 HS2.out hlen);unfold ndV at HADD)
   | (go_at_call 183;refine HADD.out.mono ?_;rintro e w3 ⟨⟨rfl,nv',hs3⟩,hb3⟩;have HS3:=hid hs3;have HB3:=hid (HB2.out.trans hb3);clear hs3 hb3))
  go_ret;refine⟨.inr ⟨by first|rfl|trivial,rfl,nv',?_⟩,HB3.out⟩;rw[← HN.out];exact HS3.out
theorem qq2.below {L:List TokE} {l:Lf} {k p cap:Nat} {a:Option Addr} {ns:List Nd} {w w1:World} {e:Ending} {w':World} (h:qq2 L l k p cap a ns w1 e w') (hb:Below p w w1):qq2 L l k p cap a ns w e w':=⟨h.1,hb.trans h.2⟩
theorem qq2.rdd {L:List TokE} {l:Lf} {k p cap:Nat} {a:Option Addr} {ns:List Nd} {w:World} {e:Ending} {w':World} (h:qq2 L l k p cap a ns w e w') (h1:okL l=true→gL L k=.leaf l) (h0:okL l=false→gL L k=.no) :
  Rdd L (.lvl 7) k p cap a ns w e w':=by
 obtain⟨h,hb⟩:=h;refine⟨?_,hb⟩;rcases h with ⟨hl,rfl⟩|⟨hl,rfl,nv',hs⟩
 ·exact .inl ⟨k,Rd.no (h0 hl),rfl⟩
 ·exact .inr ⟨.lf l,k+1,nv',Rd.leaf (h1 hl),by show 1+k≤k+1;omega,by show Ending.returned _=Ending.returned (.int .i64 (ns.length+1-1:Nat));rfl,hs⟩
theorem qfB (p cap k:Nat) (a:Option Addr) (L:List TokE) (nv:Value) (ns:List Nd) (l:Lf) (hv:∀ t,l≠.var t) (w:World) (h:St w p cap a L k nv ns) (hk:k<L.length) (hcap:L.length≤1000000000000) (hlen:ns.length≤1000000000000) (hr:∀ b,l=.real b→b<18446744073709551616) :
  Calls Tryz.prog 203 #[.pointer (some ⟨p,0,none⟩),qrI l] w (qq2 L l k p cap a ns w):=by
 have hlt:=h.rdr.lt;obtain⟨W0,hW0,ha,hB⟩:∃ W0,W0=w.alloc (.cells (qk5 (qaG l).vk (qaG l).vi (qaG l).rl (qaG l).tx).toArray 107)∧Bx W0 w.heap.size 107 (qk5 (qaG l).vk (qaG l).vi (qaG l).rl (qaG l).tx)∧Below w.heap.size w W0:=⟨_,rfl,Bx.new w _ _,(Below.refl _ w).alloc (Nat.le_refl _) _⟩
 have HL:=hid (qv8 p cap k a L nv ns l W0 (h.below hB) hk hcap hlen hr);have hlf:(qaG l).k=1∧(qaG l).a=0∧(qaG l).b=0∧(qaG l).nm=⟨#[]⟩∧(qaG l).re=0∧(qaG l).im=0:=by
  cases l with
  | var t=>exact absurd rfl (hv t)
  | int v=>exact⟨rfl,rfl,rfl,rfl,rfl,rfl⟩
  | real v=>exact⟨rfl,rfl,rfl,rfl,rfl,rfl⟩
  | text v=>exact⟨rfl,rfl,rfl,rfl,rfl,rfl⟩
  | bool v=>exact⟨rfl,rfl,rfl,rfl,rfl,rfl⟩
 obtain⟨h1,h2,h3,h4,h5,h6⟩:=hlf;unfold ndV at HL;unfold qrI qgK;rw[h1,h2,h3,h4,h5,h6] at HL;generalize (qaG l).vk=vk at HL ha hW0 ⊢;generalize (qaG l).vi=vi at HL ha hW0 ⊢;generalize (qaG l).rl=rl at HL ha hW0 ⊢;generalize (qaG l).tx=tx at HL ha hW0 ⊢;have HW0:Hid (W0=w.alloc (.cells #[.int .i64 vk,.int .i64 vi,.float .f64 rl,.complex .f64 0 0,.string tx] 107)):=hid hW0;have HBW0:=hid (hB.mono (Nat.le_of_lt hlt));have k0:=ha.c 0 rfl;have k1:=ha.c 1 rfl;have k2:=ha.c 2 rfl;have k3:=ha.c 3 rfl;have k4:=ha.c 4 rfl;clear h h1 h2 h3 h4 h5 h6 hv hr hB hW0 ha;go_enter Tryz.func203,Tryz.ntmps203;go_upto_region 1 with (fail);rw[← HW0.out];go_wp2_with (go_at_call 232;refine HL.out.mono ?_;rintro e w1 hD;have HD:=hid (qq2.below hD HBW0.out);clear hD;obtain⟨hD,hbD⟩:=HD.out;have HBD:=hid hbD;clear hbD;rcases hD with ⟨hok,rfl⟩|⟨hok,rfl,nv',hs⟩ <;> simp only[qbO])
 ·exact⟨rfl,.inl ⟨hok,rfl⟩,HBD.out⟩
 ·have HS:=hid hs;have HOK:=hid hok;clear hs hok;go_ret;exact⟨.inr ⟨HOK.out,rfl,_,HS.out⟩,HBD.out⟩
theorem jbH {L:List TokE} {k:Nat} (hk:k<L.length):gL L k=clT (L.getD k default):=by unfold gL;rw[if_pos hk]
theorem q4O (p cap k:Nat) (a:Option Addr) (L:List TokE) (nv:Value) (ns:List Nd) (t:ByteArray) (w:World) (hcap:L.length≤1000000000000) (hns:ns.length≤k) (h:St w p cap a L k nv ns) (hk:k<L.length) (ht:(L.getD k default).kd=1∧(L.getD k default).tx=t)
  (hL:∀ (k' n':Nat) (nv':Value) (ns':List Nd) (W:World),k<k'→1≤n'→n'≤6→ns'.length≤k'→St W p cap a L k' nv' ns'→Calls Tryz.prog 134 #[.pointer (some ⟨p,0,none⟩),.int .i64 n'] W (Rdd L (.lvl n') k' p cap a ns' W)) :
  Calls Tryz.prog 204 #[.pointer (some ⟨p,0,none⟩),.string t] w (Rdd L (.lvl 7) k p cap a ns w):=by
 have hlt:=h.rdr.lt;have hgp:=h.gp;have hlen:ns.length≤1000000000000:=by omega
 have hcl:gL L k=(if qd2 t.data.toList=true then
   (if t.data.toList=[116,114,117,101] then .leaf (.bool true) else if t.data.toList=[102,97,108,115,101] then .leaf (.bool false)
    else if qcX t.data.toList=0 then .leaf (.var t) else .word (qcX t.data.toList))
   else .no):=by
  rw[jbH hk];unfold clT;rw[ht.1,ht.2,if_neg (by decide),if_neg (by decide),if_neg (by decide),if_neg (by decide),if_pos rfl]
 by_cases e1:t.data.toList=[116,114,117,101]
 ·have t1:(t.toList==[116,114,117,101])=true:=by rw[qbT,e1];rfl
  have hg:gL L k=.leaf (.bool true):=by rw[hcl,e1];rfl
  have HL:=hid (qfB p cap k a L nv ns (.bool true) (fun t h=>by cases h) w h hk hcap hlen (fun b h=>by cases h));have HG:=hid hg;unfold qrI qgK qaG at HL;simp only[if_true] at HL;clear hcl ht h hL hg e1;go_enter Tryz.func204,Tryz.ntmps204;go_wp2_with (go_at_call 203;refine HL.out.mono ?_;rintro e w1 hD;have HD:=hid (hD.rdd (fun _=>HG.out) (fun h=>by cases h));clear hD;obtain⟨hD,hbD⟩:=HD.out;have HBD:=hid hbD;clear hbD;rcases hD with ⟨q,hq,rfl⟩|⟨x,q,nv',hq,hcq,rfl,hst⟩ <;> simp only[qbO])
  ·exact⟨rfl,.inl ⟨q,hq,rfl⟩,HBD.out⟩
  ·have HQ:=hid hq;have HST:=hid hst;clear hq hst;go_ret;exact⟨.inr ⟨x,q,nv',HQ.out,hcq,rfl,HST.out⟩,HBD.out⟩
 by_cases e2:t.data.toList=[102,97,108,115,101]
 ·have t1:(t.toList==[116,114,117,101])=false:=by rw[qbT];exact beq_eq_false_iff_ne.2 e1
  have t2:(t.toList==[102,97,108,115,101])=true:=by rw[qbT,e2];rfl
  have hg:gL L k=.leaf (.bool false):=by rw[hcl,e2];rfl
  have HL:=hid (qfB p cap k a L nv ns (.bool false) (fun t h=>by cases h) w h hk hcap hlen (fun b h=>by cases h));have HG:=hid hg;unfold qrI qgK qaG at HL;simp only[Bool.false_eq_true,if_false] at HL;clear hcl ht h hL hg e1 e2;go_enter Tryz.func204,Tryz.ntmps204;go_wp2_with (go_at_call 203;refine HL.out.mono ?_;rintro e w1 hD;have HD:=hid (hD.rdd (fun _=>HG.out) (fun h=>by cases h));clear hD;obtain⟨hD,hbD⟩:=HD.out;have HBD:=hid hbD;clear hbD;rcases hD with ⟨q,hq,rfl⟩|⟨x,q,nv',hq,hcq,rfl,hst⟩ <;> simp only[qbO])
  ·exact⟨rfl,.inl ⟨q,hq,rfl⟩,HBD.out⟩
  ·have HQ:=hid hq;have HST:=hid hst;clear hq hst;go_ret;exact⟨.inr ⟨x,q,nv',HQ.out,hcq,rfl,HST.out⟩,HBD.out⟩
 have t1:(t.toList==[116,114,117,101])=false:=by rw[qbT];exact beq_eq_false_iff_ne.2 e1
 have t2:(t.toList==[102,97,108,115,101])=false:=by rw[qbT];exact beq_eq_false_iff_ne.2 e2
 have HW:=hid (qtU t w h.tab (Nat.lt_trans hgp hlt));have HH:=hid h;by_cases e3:qcX t.data.toList=0
 ·have hg1:okL (.var t)=true→gL L k=.leaf (.var t):=by
   intro hok;have:qd2 t.data.toList=true:=by unfold okL at hok;simp only[Bool.and_eq_true] at hok;exact hok.1.1.1
   rw[hcl,if_pos this,if_neg e1,if_neg e2,if_pos e3]
  have hg0:okL (.var t)=false→gL L k=.no:=by
   intro hok;have:qd2 t.data.toList≠true:=by
    intro hn;simp only[okL] at hok;rw[hn,beq_eq_false_iff_ne.2 e1,beq_eq_false_iff_ne.2 e2,decide_eq_true e3] at hok;cases hok
   rw[hcl,if_neg this]
  have HG1:=hid hg1;have HG0:=hid hg0;have HLF:=hid (fun W hW=>qv8 p cap k a L nv ns (.var t) W hW hk hcap hlen (fun b h=>by cases h));unfold ndV qaG at HLF;rw[e3] at HW;clear hcl ht h hL hg1 hg0 e1 e2 e3;go_enter Tryz.func204,Tryz.ntmps204;go_wp2_with (first
   | (go_at_call 233;refine HW.out.mono ?_;rintro e w1 ⟨rfl,hb1⟩;have HS:=hid (HH.out.below hb1);have HB:=hid (hb1.mono (Nat.le_of_lt hlt));clear hb1)
   | (go_at_call 232;refine(HLF.out _ HS.out).mono ?_;rintro e w2 hD;have HD:=hid ((hD.below HB.out).rdd HG1.out HG0.out);clear hD;obtain⟨hD,hbD⟩:=HD.out;have HBD:=hid hbD;clear hbD;rcases hD with ⟨q,hq,rfl⟩|⟨x,q,nv',hq,hcq,rfl,hst⟩ <;> simp only[qbO]))
  ·exact⟨rfl,.inl ⟨q,hq,rfl⟩,HBD.out⟩
  ·have HQ:=hid hq;have HST:=hid hst;clear hq hst;go_ret;exact⟨.inr ⟨x,q,nv',HQ.out,hcq,rfl,HST.out⟩,HBD.out⟩
 ·have hnm:qd2 t.data.toList=true:=by
   obtain⟨_,_,h3⟩:=qlB e3;have:∀ k:Fin 27,qb3 k.val=7→0<qeJ k.val→qd2 (qcF k.val)=true:=by decide
   obtain⟨h1,h2,_⟩:=qlB e3;rw[← h3];exact this ⟨_,qkM _⟩ h1 h2
  have hg:gL L k=.word (qcX t.data.toList):=by rw[hcl,if_pos hnm,if_neg e1,if_neg e2,if_neg e3]
  have hch:=qtW _ e3;have hKlt:=qkM t.data.toList;generalize qcX t.data.toList=K at HW e3 hg hch hKlt;have HG:=hid hg;have HCH:=hid hch;have HCA:=hid (fun W hW=>q2J p cap k K a L nv ns W hcap hns hKlt HCH.out HG.out hW hL);have d0:((K:Int) != 0)=true:=by rw[bne,beq_eq_false_iff_ne.2 (by omega:(K:Int)≠0)];rfl
  clear hcl ht h hL hg e1 e2 e3 hnm hch;go_enter Tryz.func204,Tryz.ntmps204;go_upto_region 8 with (go_at_call 233;refine HW.out.mono ?_;rintro e w1 ⟨rfl,hb1⟩;have HS:=hid (HH.out.below hb1);have HB:=hid (hb1.mono (Nat.le_of_lt hlt));clear hb1);have c1:=HS.out.rdr.c1;have fz:w1.frozen? ⟨p,1,none⟩=false:=HS.out.rdr.fz;go_upto_region 9 with (fail);rw[show (k:Int)+1=((k+1:Nat):Int) from rfl];have HMV:=hid (HS.out.move (k+1) (by omega));have HBM:Hid (Below p w (w1.setCell ⟨p,1,none⟩ (.int .i64 ((k+1:Nat):Int)))):=hid (HB.out.setCell (Nat.le_refl p) _);generalize w1.setCell ⟨p,1,none⟩ (.int .i64 ((k+1:Nat):Int))=WM at HMV HBM ⊢;clear c1 fz;go_wp2_with (go_at_call 234;refine(HCA.out _ HMV.out).mono ?_;rintro e w2 hD;have HD:=hid hD;clear hD;obtain⟨hD,hbD⟩:=HD.out;have HBD:=hid (HBM.out.trans hbD);clear hbD HD;rcases hD with ⟨q,hq,rfl⟩|⟨x,q,nv',hq,hcq,rfl,hst⟩ <;> simp only[qbO])
  ·exact⟨rfl,.inl ⟨q,hq,rfl⟩,HBD.out⟩
  ·have HQ:=hid hq;have HST:=hid hst;clear hq hst;go_ret;exact⟨.inr ⟨x,q,nv',HQ.out,hcq,rfl,HST.out⟩,HBD.out⟩
theorem qxI (p cap k:Nat) (a:Option Addr) (L:List TokE) (nv:Value) (ns:List Nd) (w:World) (hcap:L.length≤1000000000000) (hns:ns.length≤k) (h:St w p cap a L k nv ns)
  (hR:∀ i,(L.getD i default).rl<18446744073709551616) (hm:isM (gL L k) [40]=false) (hsg:sgK (gL L k)=0)
  (hL:∀ (k' n':Nat) (nv':Value) (ns':List Nd) (W:World),k<k'→1≤n'→n'≤6→ns'.length≤k'→St W p cap a L k' nv' ns'→Calls Tryz.prog 134 #[.pointer (some ⟨p,0,none⟩),.int .i64 n'] W (Rdd L (.lvl n') k' p cap a ns' W)) :
  Calls Tryz.prog 182 #[.pointer (some ⟨p,0,none⟩)] w (Rdd L (.lvl 7) k p cap a ns w):=by
 have hlt:=h.rdr.lt;have hlen:ns.length≤1000000000000:=by have:=h.at_;omega
 have hlm:=h.len;have c0:=h.rdr.c0;have c1:=h.rdr.c1;have C0:w.drew.cell? ⟨p,0,none⟩=_:=c0;have C1:w.drew.cell? ⟨p,1,none⟩=_:=c1;have HH:=hid h;rcases Nat.lt_or_ge k L.length with hk|hk
 ·obtain⟨x,rfl,h0,h1,h2,h3,h4,h5⟩:=h.toks k hk;have H0:w.drew.drew.cell? (x.add (k * 6))=_:=h0;have hcl:=jbH hk;have hrl:=hR k;have HT:=hid hL;obtain⟨t,hte⟩:∃ t,t=L.getD k default:=⟨_,rfl⟩
  rw[← hte] at h0 h1 h2 h3 h4 h5 H0 hcl hrl;have H1:w.drew.drew.cell? ⟨(x.add (k * 6)).block,(x.add (k * 6)).off+1,none⟩=_:=h1;have H2:w.drew.drew.cell? ⟨(x.add (k * 6)).block,(x.add (k * 6)).off+2,none⟩=_:=h2;have H3:w.drew.drew.cell? ⟨(x.add (k * 6)).block,(x.add (k * 6)).off+3,none⟩=_:=h3;have H4:w.drew.drew.cell? ⟨(x.add (k * 6)).block,(x.add (k * 6)).off+4,none⟩=_:=h4;have H5:w.drew.drew.cell? ⟨(x.add (k * 6)).block,(x.add (k * 6)).off+5,none⟩=_:=h5;have d0:((k:Int)==(L.length:Int))=false:=beq_eq_false_iff_ne.2 (by omega);have HK:=hid hk;have HM:=hid hm;have HSG:=hid hsg;have HCL:=hid hcl;have HTE:=hid hte;clear hL h hm hsg hcl hR hte;have hkn:=hk;have sf:=qbQ;have hxl:(x.add (k * 6)).block<w.heap.size:=Nat.lt_trans (HH.out.low x rfl _) hlt;go_enter Tryz.func182,Tryz.ntmps182;go_upto_region 1 with (fail);go_region;go_upto_region 3 with (fail);go_region;go_upto_region 4 with (fail);have hb3:Below w.heap.size w (w.alloc (.cells #[.int .i64 t.kd,.string t.tx,.int .i64 t.iv,.float .f64 t.rl,.int .i64 t.pl,.int .i64 t.sz] 158)).drew.drew:=(((Below.refl _ w).alloc (Nat.le_refl _) _).drew).drew;have hx3:Bx (w.alloc (.cells #[.int .i64 t.kd,.string t.tx,.int .i64 t.iv,.float .f64 t.rl,.int .i64 t.pl,.int .i64 t.sz] 158)).drew.drew w.heap.size 158 [.int .i64 t.kd,.string t.tx,.int .i64 t.iv,.float .f64 t.rl,.int .i64 t.pl,.int .i64 t.sz]:=Bx.new w _ _;have HS3:=hid (HH.out.below hb3);have HX3:=hid hx3;have HB3:=hid (hb3.mono (Nat.le_of_lt hlt));clear hb3 hx3;generalize (w.alloc (.cells #[.int .i64 t.kd,.string t.tx,.int .i64 t.iv,.float .f64 t.rl,.int .i64 t.pl,.int .i64 t.sz] 158)).drew.drew=W3 at HS3 HX3 HB3 ⊢;clear H0 H1 H2 H3 H4 H5 h0 h1 h2 h3 h4 h5 C0 C1 c0 c1 sf d0 hkn;have k0:=HX3.out.c 0 rfl;have k1:=HX3.out.c 1 rfl;have k2:=HX3.out.c 2 rfl;have k3:=HX3.out.c 3 rfl;by_cases h2:t.kd=2
  ·have HL:=hid (qfB p cap k (some x) L nv ns (.int t.iv) (fun t h=>by cases h) W3 HS3.out hk hcap hlen (fun b h=>by cases h));have hg:gL L k=if okL (.int t.iv)=true then .leaf (.int t.iv) else .no:=by
    rw[HCL.out];unfold clT;rw[h2];simp only[okL,decide_eq_true_eq]
    first|rfl|(repeat rw[if_neg (by decide)];rw[if_pos rfl])
   have HG:=hid hg;unfold qrI qgK qaG at HL;simp only at HL;rw[h2] at k0;clear hg HTE HM HSG HCL HT;go_wp2_with (go_at_call 203;refine HL.out.mono ?_;rintro e w1 hD;have HD:=hid ((hD.below HB3.out).rdd (fun ho=>by rw[HG.out,if_pos ho]) (fun ho=>by rw[HG.out,ho];rfl));clear hD;obtain⟨hD,hbD⟩:=HD.out;have HBD:=hid hbD;clear hbD;rcases hD with ⟨q,hq,rfl⟩|⟨y,q,nv',hq,hcq,rfl,hst⟩ <;> simp only[qbO])
   ·exact⟨rfl,.inl ⟨q,hq,rfl⟩,HBD.out⟩
   ·have HQ:=hid hq;have HST:=hid hst;clear hq hst;go_ret;exact⟨.inr ⟨y,q,nv',HQ.out,hcq,rfl,HST.out⟩,HBD.out⟩
  have d2:(t.kd==2)=false:=beq_eq_false_iff_ne.2 h2;by_cases h3:t.kd=3
  ·have HL:=hid (qfB p cap k (some x) L nv ns (.real t.rl) (fun t h=>by cases h) W3 HS3.out hk hcap hlen (fun b h=>by cases h;exact hrl));have hg:gL L k=if okL (.real t.rl)=true then .leaf (.real t.rl) else .no:=by
    rw[HCL.out];unfold clT;rw[h3];simp only[okL,decide_eq_true_eq]
    first|rfl|(repeat rw[if_neg (by decide)];rw[if_pos rfl])
   have HG:=hid hg;unfold qrI qgK qaG at HL;simp only at HL;rw[h3] at k0;clear hg HTE HM HSG HCL HT;go_wp2_with (go_at_call 203;refine HL.out.mono ?_;rintro e w1 hD;have HD:=hid ((hD.below HB3.out).rdd (fun ho=>by rw[HG.out,if_pos ho]) (fun ho=>by rw[HG.out,ho];rfl));clear hD;obtain⟨hD,hbD⟩:=HD.out;have HBD:=hid hbD;clear hbD;rcases hD with ⟨q,hq,rfl⟩|⟨y,q,nv',hq,hcq,rfl,hst⟩ <;> simp only[qbO])
   ·exact⟨rfl,.inl ⟨q,hq,rfl⟩,HBD.out⟩
   ·have HQ:=hid hq;have HST:=hid hst;clear hq hst;go_ret;exact⟨.inr ⟨y,q,nv',HQ.out,hcq,rfl,HST.out⟩,HBD.out⟩
  have d3:(t.kd==3)=false:=beq_eq_false_iff_ne.2 h3;by_cases h4:t.kd=4
  ·have HL:=hid (qfB p cap k (some x) L nv ns (.text t.tx) (fun t h=>by cases h) W3 HS3.out hk hcap hlen (fun b h=>by cases h));have hg:gL L k=if okL (.text t.tx)=true then .leaf (.text t.tx) else .no:=by
    rw[HCL.out];unfold clT;rw[h4];simp only[okL,decide_eq_true_eq]
    first|rfl|(repeat rw[if_neg (by decide)];rw[if_pos rfl])
   have HG:=hid hg;unfold qrI qgK qaG at HL;simp only at HL;rw[h4] at k0;clear hg HTE HM HSG HCL HT;go_wp2_with (go_at_call 203;refine HL.out.mono ?_;rintro e w1 hD;have HD:=hid ((hD.below HB3.out).rdd (fun ho=>by rw[HG.out,if_pos ho]) (fun ho=>by rw[HG.out,ho];rfl));clear hD;obtain⟨hD,hbD⟩:=HD.out;have HBD:=hid hbD;clear hbD;rcases hD with ⟨q,hq,rfl⟩|⟨y,q,nv',hq,hcq,rfl,hst⟩ <;> simp only[qbO])
   ·exact⟨rfl,.inl ⟨q,hq,rfl⟩,HBD.out⟩
   ·have HQ:=hid hq;have HST:=hid hst;clear hq hst;go_ret;exact⟨.inr ⟨y,q,nv',HQ.out,hcq,rfl,HST.out⟩,HBD.out⟩
  have d4:(t.kd==4)=false:=beq_eq_false_iff_ne.2 h4;by_cases h1:t.kd=1
  ·have HN:=hid (q4O p cap k (some x) L nv ns t.tx W3 hcap hns HS3.out hk (by rw[← HTE.out];exact⟨h1,rfl⟩) HT.out);rw[h1] at k0;clear HTE HM HSG HCL HT d2 d3 d4;go_wp2_with (go_at_call 204;refine HN.out.mono ?_;rintro e w1 hD;have HD:=hid hD;clear hD;obtain⟨hD,hbD⟩:=HD.out;have HBD:=hid (HB3.out.trans hbD);clear hbD HD;rcases hD with ⟨q,hq,rfl⟩|⟨y,q,nv',hq,hcq,rfl,hst⟩ <;> simp only[qbO])
   ·exact⟨rfl,.inl ⟨q,hq,rfl⟩,HBD.out⟩
   ·have HQ:=hid hq;have HST:=hid hst;clear hq hst;go_ret;exact⟨.inr ⟨y,q,nv',HQ.out,hcq,rfl,HST.out⟩,HBD.out⟩
  have d1:(t.kd==1)=false:=beq_eq_false_iff_ne.2 h1;have HRD:Hid (Rd (gL L) (.lvl 7) k (.bad k)):=hid (by
   have hg:=HCL.out;unfold clT at hg;by_cases h5:t.kd=5
   ·rw[if_pos h5] at hg;refine Rd.mark hg (fun e=>?_);have:=HM.out;rw[hg,e] at this;cases this
   ·rw[if_neg h5,if_neg h2,if_neg h3,if_neg h4,if_neg h1] at hg;exact Rd.no hg)
  clear HTE HM HSG HCL HT h1 h2 h3 h4;go_wp2_with (go_at_call 202;refine(ql3 p k _ nv _ HS3.out.rdr).mono ?_;rintro e w' ⟨rfl,rfl⟩;unfold qbO);exact⟨rfl,.inl ⟨_,HRD.out,rfl⟩,HB3.out⟩
 ·obtain rfl:k=L.length:=by have:=h.at_;omega
  have hg:gL L L.length=.no:=by unfold gL;rw[if_neg (by omega)]
  have HG:=hid hg;clear hR hm hsg hL h hg;go_enter Tryz.func182,Tryz.ntmps182;go_upto_region 1 with (fail);go_region;have HS1:Hid (St w.drew p cap a L L.length nv ns):=hid (HH.out.below (qa0 w));go_wp2_with (go_at_call 202;refine(ql3 p L.length _ nv _ HS1.out.rdr).mono ?_;rintro e w' ⟨rfl,rfl⟩;unfold qbO);exact⟨rfl,.inl ⟨_,Rd.no HG.out,rfl⟩,(qa0 w).mono (Nat.le_of_lt hlt)⟩
theorem q02 (p cap:Nat) (a:Option Addr) (L:List TokE) (hcap:L.length≤1000000000000) (hR:∀ i,(L.getD i default).rl<18446744073709551616) :
  ∀ (m k:Nat),L.length<k+m→∀ (nv:Value) (ns:List Nd) (W:World),ns.length≤k→St W p cap a L k nv ns →
   Calls Tryz.prog 153 #[.pointer (some ⟨p,0,none⟩)] W (Rdd L (.lvl 6) k p cap a ns W) ∧
   ∀ n:Nat,1≤n→n≤6→Calls Tryz.prog 134 #[.pointer (some ⟨p,0,none⟩),.int .i64 n] W (Rdd L (.lvl n) k p cap a ns W):=by
 intro m
 induction m with
 | zero =>
  intro k hk nv ns W hns h;have:=h.at_;omega
 | succ m ih =>
  intro k hk nv ns W hns h;have hL:∀ (k' n':Nat) (nv':Value) (ns':List Nd) (W:World),k<k'→1≤n'→n'≤6→ns'.length≤k'→St W p cap a L k' nv' ns'→Calls Tryz.prog 134 #[.pointer (some ⟨p,0,none⟩),.int .i64 n'] W (Rdd L (.lvl n') k' p cap a ns' W) :=
   fun k' n' nv' ns' W hkk h1 h6 hns hst=>(ih k' (by omega) nv' ns' W hns hst).2 n' h1 h6
  have hSg:∀ (k':Nat) (nv':Value) (ns':List Nd) (W:World),k<k'→ns'.length≤k'→St W p cap a L k' nv' ns'→Calls Tryz.prog 153 #[.pointer (some ⟨p,0,none⟩)] W (Rdd L (.lvl 6) k' p cap a ns' W) :=
   fun k' nv' ns' W hkk hns hst=>(ih k' (by omega) nv' ns' W hns hst).1
  have hs:=qzL p cap k a L nv ns W hcap hns h (fun hsg hm W' hst=>qxI p cap k a L nv ns W' hcap hns hst hR hm hsg hL) hSg hL;exact⟨hs,fun n h1 h6=>q4U p cap k n a L nv ns W hcap h1 h6 hns h hs hL⟩
theorem q19 (p cap k n:Nat) (a:Option Addr) (L:List TokE) (hcap:L.length≤1000000000000) (hR:∀ i,(L.getD i default).rl<18446744073709551616) (nv:Value) (ns:List Nd) (W:World) (hns:ns.length≤k) (h:St W p cap a L k nv ns) (h1:1≤n) (h6:n≤6) :
  Calls Tryz.prog 134 #[.pointer (some ⟨p,0,none⟩),.int .i64 n] W (Rdd L (.lvl n) k p cap a ns W) :=
 (q02 p cap a L hcap hR (L.length+1) k (by omega) nv ns W hns h).2 n h1 h6
end Go.Proofs.YtenlhcgpajphhaaGreatDoor
namespace Go.Proofs.YtenlhcgpajphhaaGreatDoor
open Go.RowKit
set_option maxRecDepth 100000
set_option linter.all false
end Go.Proofs.YtenlhcgpajphhaaGreatDoor
