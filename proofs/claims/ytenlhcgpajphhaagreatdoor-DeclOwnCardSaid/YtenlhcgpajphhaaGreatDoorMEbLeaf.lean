import Derived.Test.YtenlhcgpajphhaaGreatDoorMEbName
import Derived.Test.YtenlhcgpajphhaaGreatDoorMEbSmall
import Derived.Test.YtenlhcgpajphhaaGreatDoorMVReal
import Derived.Test.YtenlhcgpajphhaaGreatDoorMQuotePlain
import Derived.Laws.Rows
import Derived.Laws.FloatArith
namespace Go.Proofs.YtenlhcgpajphhaaGreatDoor
open Go.RowKit Go.Shelf
open Lib(hid)
set_option maxRecDepth 100000
set_option linter.all false
set_option maxHeartbeats 2000000
def Bx (w:World) (g:Nat) (T:TypeId) (cs:List Value):Prop:=w.heap[g]?=some (.cells cs.toArray T (0,0))
theorem Bx.c {w:World} {g:Nat} {T:TypeId} {cs:List Value} (h:Bx w g T cs) (j:Nat) {v:Value} (hj:cs[j]?=some v):w.cell? ⟨g,j,none⟩=some v:=by
 rw[cell_of_row w g j _ _ _ h]
 simpa using hj
theorem Bx.fz {w:World} {g:Nat} {T:TypeId} {cs:List Value} (h:Bx w g T cs) (j:Nat):w.frozen? ⟨g,j,none⟩=false:=frozen_of_row w g j _ _ h
theorem Bx.lt {w:World} {g:Nat} {T:TypeId} {cs:List Value} (h:Bx w g T cs):g<w.heap.size:=lt_of_block h
theorem Bx.keep {w w':World} {B g:Nat} {T:TypeId} {cs:List Value} (h:Bx w g T cs) (hb:Below B w w') (hg:g<B):Bx w' g T cs:=(hb.block g hg).trans h
theorem Bx.set {w:World} {g:Nat} {T:TypeId} {cs:List Value} (h:Bx w g T cs) (j:Nat) (v:Value):Bx (w.setCell ⟨g,j,none⟩ v) g T (cs.set j v):=by
 have:=heap_setCell_same w g j _ _ v h;unfold Bx;rw[this];simp
theorem Bx.other {w:World} {g h:Nat} {T:TypeId} {cs:List Value} (hx:Bx w g T cs) (hne:g≠h) (j:Nat) (v:Value):Bx (w.setCell ⟨h,j,none⟩ v) g T cs:=(Below.heap_setCell w ⟨h,j,none⟩ v g hne).trans hx
theorem Bx.new (w:World) (T:TypeId) (cs:List Value):Bx (w.alloc (.cells cs.toArray T)) w.heap.size T cs:=heap_alloc_new _ _
def litV (l:Lf):Value:=valV (leafN l).vk (leafN l).vi (leafN l).rl 0 0 (leafN l).tx
theorem cmp_lt {a b:Int} (h:a<b):compare a b=.lt:=by
 show compareOfLessAndEq a b=.lt;unfold compareOfLessAndEq;rw[if_pos h]
theorem cmp_gt {a b:Int} (h:b<a):compare a b=.gt:=by
 show compareOfLessAndEq a b=.gt;unfold compareOfLessAndEq;rw[if_neg (by omega),if_neg (by omega)]
theorem cmp_eq (a:Int):compare a a=.eq:=by
 show compareOfLessAndEq a a=.eq;unfold compareOfLessAndEq;rw[if_neg (by omega),if_pos rfl]
theorem ord_le {b:Nat} (hb:b<9223372036854775808):(FloatKind.f64.format.order b 9218868437227405311==some Ordering.lt || FloatKind.f64.format.order b 9218868437227405311==some Ordering.eq)=decide (b<9218868437227405312):=by
 show (Ieee.double.order b 9218868437227405311==some Ordering.lt || Ieee.double.order b 9218868437227405311==some Ordering.eq)=_;by_cases h:b<9218868437227405312
 ·have hn:nanB b=false:=by unfold nanB rungB;exact decide_eq_false (by omega)
  have hn2:nanB 9218868437227405311=false:=by decide
  have k1:keyI b=b:=by unfold keyI negB rungB;rw[show b / 9223372036854775808=0 by omega];simp;omega
  have k2:keyI 9218868437227405311=9218868437227405311:=by decide
  rw[order_key _ _ hn hn2,k1,k2,decide_eq_true h];rcases Nat.lt_or_ge b 9218868437227405311 with h2|h2
  ·rw[show compare (b:Int) 9218868437227405311=.lt from cmp_lt (by omega)];rfl
  ·obtain rfl:b=9218868437227405311:=by omega
   decide
 ·rw[decide_eq_false h];by_cases hn:nanB b=true
  ·rw[order_nan_l _ _ hn];rfl
  ·have hn':nanB b=false:=by simpa using hn
   have hn2:nanB 9218868437227405311=false:=by decide
   have k1:keyI b=b:=by unfold keyI negB rungB;rw[show b / 9223372036854775808=0 by omega];simp;omega
   have k2:keyI 9218868437227405311=9218868437227405311:=by decide
   rw[order_key _ _ hn' hn2,k1,k2,show compare (b:Int) 9218868437227405311=.gt from cmp_gt (by omega)];rfl
theorem isLit_any (l:Lf) (hv:∀ t,l≠.var t) (hr:∀ b,l=.real b→b<18446744073709551616) (w:World) :
  Calls Tryz.prog 237 #[litV l] w fun e w'=>e=.returned (.bool (okL l))∧Below w.heap.size w w':=by
 cases l with
 | var t=>exact absurd rfl (hv t)
 | int v =>
  have HB:Hid (Below w.heap.size w (w.alloc (.cells #[.int .i64 1,.int .i64 v,.float .f64 0,.complex .f64 0 0,.string ⟨#[]⟩] 107))):=hid ((Below.refl _ w).alloc (Nat.le_refl _) _);show Calls Tryz.prog 237 #[.agg #[.int .i64 1,.int .i64 v,.float .f64 0,.complex .f64 0 0,.string ⟨#[]⟩]] w fun e w'=>e=.returned (.bool (decide (0≤v)))∧Below w.heap.size w w';clear hv hr;go_enter Tryz.func237,Tryz.ntmps237;go_wp2;go_ret;exact⟨rfl,HB.out⟩
 | real b =>
  have hb:=hr b rfl;have HB:Hid (Below w.heap.size w (w.alloc (.cells #[.int .i64 2,.int .i64 0,.float .f64 b,.complex .f64 0 0,.string ⟨#[]⟩] 107))):=hid ((Below.refl _ w).alloc (Nat.le_refl _) _);show Calls Tryz.prog 237 #[.agg #[.int .i64 2,.int .i64 0,.float .f64 b,.complex .f64 0 0,.string ⟨#[]⟩]] w fun e w'=>e=.returned (.bool (decide (b<9218868437227405312)))∧Below w.heap.size w w';have HS:=hid (fun W=>sign_any b hb W);by_cases h1:9223372036854775808≤b
  ·have D1:Hid (decide (9223372036854775808≤b)=true):=hid (decide_eq_true h1);have D2:Hid (decide (b<9218868437227405312)=false):=hid (decide_eq_false (by omega));clear hv hr hb h1;go_enter Tryz.func237,Tryz.ntmps237;go_wp2_with (go_at_call 211;refine(HS.out _).mono ?_;rintro e w' ⟨rfl,rfl⟩;rw[D1.out]);go_ret;exact⟨by rw[D2.out];rfl,HB.out⟩
  ·have D1:Hid (decide (9223372036854775808≤b)=false):=hid (decide_eq_false h1);have h2:=ord_le (b:=b) (by omega);generalize decide (b<9218868437227405312)=r at h2 ⊢;clear hv hr hb h1;go_enter Tryz.func237,Tryz.ntmps237;go_wp2_with (go_at_call 211;refine(HS.out _).mono ?_;rintro e w' ⟨rfl,rfl⟩;rw[D1.out]);go_ret;exact⟨by first|rfl|(congr 2),HB.out⟩
 | text t =>
  have HB:Hid (Below w.heap.size w (w.alloc (.cells #[.int .i64 4,.int .i64 0,.float .f64 0,.complex .f64 0 0,.string t] 107))):=hid ((Below.refl _ w).alloc (Nat.le_refl _) _);show Calls Tryz.prog 237 #[.agg #[.int .i64 4,.int .i64 0,.float .f64 0,.complex .f64 0 0,.string t]] w fun e w'=>e=.returned (.bool (decide (t.size≤256)))∧Below w.heap.size w w';have HM:=hid (fun W=>may_any 4 0 0 0 0 t W);unfold valV at HM;clear hv hr;go_enter Tryz.func237,Tryz.ntmps237;go_wp2_with (go_at_call 186;refine(HM.out _).mono ?_;rintro e w1 ⟨rfl,hb1⟩;have HB1:=hid (HB.out.trans (hb1.mono HB.out.size));clear hb1);go_ret;exact⟨rfl,HB1.out⟩
 | bool b =>
  have HB:Hid (Below w.heap.size w (w.alloc (.cells #[.int .i64 5,.int .i64 (if b then 1 else 0),.float .f64 0,.complex .f64 0 0,.string ⟨#[]⟩] 107))):=hid ((Below.refl _ w).alloc (Nat.le_refl _) _);show Calls Tryz.prog 237 #[.agg #[.int .i64 5,.int .i64 (if b then 1 else 0),.float .f64 0,.complex .f64 0 0,.string ⟨#[]⟩]] w fun e w'=>e=.returned (.bool true)∧Below w.heap.size w w';have HM:=hid (fun W=>may_any 5 (if b then 1 else 0) 0 0 0 ⟨#[]⟩ W);have HMB:Hid (mayB 5 (if b then 1 else 0) ⟨#[]⟩=true):=hid (by cases b <;> decide);unfold valV at HM;generalize (if b then (1:Int) else 0)=bi at HB HM HMB ⊢;clear hv hr;go_enter Tryz.func237,Tryz.ntmps237;go_wp2_with (go_at_call 186;refine(HM.out _).mono ?_;rintro e w1 ⟨rfl,hb1⟩;have HB1:=hid (HB.out.trans (hb1.mono HB.out.size));clear hb1);go_ret;exact⟨by rw[HMB.out];rfl,HB1.out⟩
theorem isLeaf_any (l:Lf) (hr:∀ b,l=.real b→b<18446744073709551616) (w:World) (hT:Tab w) (hg:0<w.heap.size) :
  Calls Tryz.prog 208 #[ndV (leafN l)] w fun e w'=>e=.returned (.bool (okL l))∧Below w.heap.size w w':=by
 by_cases hv:∃ t,l=.var t
 ·obtain⟨t,rfl⟩:=hv;show Calls Tryz.prog 208 #[.agg #[.int .i64 2,.int .i64 0,.int .i64 0,.string t,.int .i64 0,.int .i64 0,.float .f64 0,.complex .f64 0 0,.string ⟨#[]⟩]] w fun e w'=>e=.returned (.bool (nameB t.data.toList && !(t.data.toList==[116,114,117,101]) && !(t.data.toList==[102,97,108,115,101]) && decide (wordK t.data.toList=0)))∧Below w.heap.size w w';have hB:Below w.heap.size w (w.alloc (.cells #[.int .i64 2,.int .i64 0,.int .i64 0,.string t,.int .i64 0,.int .i64 0,.float .f64 0,.complex .f64 0 0,.string ⟨#[]⟩] 109)):=(Below.refl _ w).alloc (Nat.le_refl _) _;have HN:=hid (fun W=>isName_any t W);have HW:=hid (word_any t _ (hT.of_block (hB.block _ hg)) (by have:=hB.size;omega));have HB:=hid hB;have e1:(t.toList==[116,114,117,101])=(t.data.toList==[116,114,117,101]):=by rw[tl_dat]
  have e2:(t.toList==[102,97,108,115,101])=(t.data.toList==[102,97,108,115,101]):=by rw[tl_dat]
  cases hn:nameB t.data.toList with
  | false =>
   have HNB:=hid hn;clear hr hT hB e1 e2 hn;go_enter Tryz.func208,Tryz.ntmps208;go_wp2_with (go_at_call 238;refine(HN.out _).mono ?_;rintro e w' ⟨rfl,rfl⟩;rw[HNB.out]);go_ret;exact⟨by simp,HB.out⟩
  | true =>
   have HNB:=hid hn;cases h1:(t.data.toList==[116,114,117,101]) with
   | true =>
    rw[h1] at e1;clear hr hT hB e2 hn h1;go_enter Tryz.func208,Tryz.ntmps208;go_wp2_with (go_at_call 238;refine(HN.out _).mono ?_;rintro e w' ⟨rfl,rfl⟩;rw[HNB.out]);go_ret;exact⟨by simp,HB.out⟩
   | false =>
    rw[h1] at e1;cases h2:(t.data.toList==[102,97,108,115,101]) with
    | true =>
     rw[h2] at e2;clear hr hT hB hn h1 h2;go_enter Tryz.func208,Tryz.ntmps208;go_wp2_with (go_at_call 238;refine(HN.out _).mono ?_;rintro e w' ⟨rfl,rfl⟩;rw[HNB.out]);go_ret;exact⟨by simp,HB.out⟩
    | false =>
     rw[h2] at e2;generalize wordK t.data.toList=K at HW ⊢;have hd:(((K:Nat):Int)==0)=decide (K=0):=by
      by_cases h0:K=0
      ·subst h0;rfl
      ·rw[decide_eq_false h0];exact beq_eq_false_iff_ne.2 (by omega)
     generalize decide (K=0)=d at hd ⊢;clear hr hT hB hn h1 h2;go_enter Tryz.func208,Tryz.ntmps208;go_wp2_with (first|(go_at_call 238;refine(HN.out _).mono ?_;rintro e w' ⟨rfl,rfl⟩;rw[HNB.out])|(go_at_call 233;refine HW.out.mono ?_;rintro e w1 ⟨rfl,hb1⟩;have HB1:=hid (HB.out.trans (hb1.mono HB.out.size));clear hb1));go_ret;exact⟨by first|rfl|simp,HB1.out⟩
 ·have hv2:∀ t,l≠.var t:=fun t h=>hv ⟨t,h⟩;have hL:=fun W=>isLit_any l hv2 hr W;have hk:(leafN l).k=1∧(leafN l).a=0∧(leafN l).b=0∧(leafN l).nm=⟨#[]⟩∧(leafN l).re=0∧(leafN l).im=0:=by
   cases l with
   | var t=>exact absurd rfl (hv2 t)
   | int v=>exact⟨rfl,rfl,rfl,rfl,rfl,rfl⟩
   | real v=>exact⟨rfl,rfl,rfl,rfl,rfl,rfl⟩
   | text v=>exact⟨rfl,rfl,rfl,rfl,rfl,rfl⟩
   | bool v=>exact⟨rfl,rfl,rfl,rfl,rfl,rfl⟩
  obtain⟨k1,k2,k3,k4,k5,k6⟩:=hk;unfold litV valV at hL;unfold ndV;rw[k1,k2,k3,k4,k5,k6];generalize (leafN l).vk=vk at hL ⊢;generalize (leafN l).vi=vi at hL ⊢;generalize (leafN l).rl=rl at hL ⊢;generalize (leafN l).tx=tx at hL ⊢;have HL:=hid hL;have HB:Hid (Below w.heap.size w (w.alloc (.cells #[.int .i64 1,.int .i64 0,.int .i64 0,.string ⟨#[]⟩,.int .i64 vk,.int .i64 vi,.float .f64 rl,.complex .f64 0 0,.string tx] 109))):=hid ((Below.refl _ w).alloc (Nat.le_refl _) _);clear hL hT hr hv hv2 k1 k2 k3 k4 k5 k6;go_enter Tryz.func208,Tryz.ntmps208;go_wp2_with (go_at_call 237;refine(HL.out _).mono ?_;rintro e w1 ⟨rfl,hb1⟩;have HB1:=hid (HB.out.trans (hb1.mono HB.out.size));clear hb1);go_ret;exact⟨rfl,HB1.out⟩
theorem store_float (p:Addr) (b:Nat) (mo:Mode) (w':World):(store p (.float .f64 b) mo).run Tryz.prog w'=stored Tryz.prog w' p (.float .f64 b) mo:=run_store _ w' p _ mo rfl
theorem store_cplx (p:Addr) (b c:Nat) (mo:Mode) (w':World):(store p (.complex .f64 b c) mo).run Tryz.prog w'=stored Tryz.prog w' p (.complex .f64 b c) mo:=run_store _ w' p _ mo rfl
theorem shape_ch (x y z:Value) (w:World):(Instr.field 218 (.agg #[x,y,z]) 2).run Tryz.prog w=.ok z w:=by kernel_rfl
theorem fin_self {b:Nat} (h:b<9218868437227405312):eqB b b=true:=by
 show (Ieee.double.order b b==some Ordering.eq)=true;have hn:nanB b=false:=by unfold nanB rungB;exact decide_eq_false (by omega)
 rw[order_key _ _ hn hn,show compare (keyI b) (keyI b)=.eq from cmp_eq _];rfl
theorem plainReal_any (b:Nat) (h:b<9218868437227405312) (w:World):Calls Tryz.prog 235 #[.float .f64 b] w fun e w'=>e=.returned (.float .f64 b)∧w=w':=by
 have HN:=hid (fun W=>isNaN_any b W);have HE:Hid ((!eqB b b)=false):=hid (by rw[fin_self h];rfl);clear h;go_enter Tryz.func235,Tryz.ntmps235;go_wp2_with (go_at_call 210;refine(HN.out _).mono ?_;rintro e w' ⟨rfl,rfl⟩;rw[HE.out]);go_ret;exact⟨rfl,rfl⟩
theorem clone_any (t:ByteArray) (w:World) (h:t.size≤256):Calls Tryz.prog 236 #[.string t] w fun e w'=>e=.returned (.string t)∧Below w.heap.size w w':=by
 have HC:=hid (Tryz.stringslite_Clone t w (by omega));clear h;go_enter Tryz.func236,Tryz.ntmps236;go_wp2_with (go_at_call 249;refine HC.out.mono ?_;rintro e w1 ⟨rfl,hb1⟩;have HB:=hid hb1;clear hb1);go_ret;exact⟨rfl,HB.out⟩
def vCells (kd iv:Int) (rl:Nat) (tx:ByteArray):List Value:=[.int .i64 kd,.int .i64 iv,.float .f64 rl,.complex .f64 0 0,.string tx]
theorem vput {W:World} {g:Nat} (h:∃ cs,cs.length=5∧Bx W g 107 cs) (kd iv:Int) (rl:Nat) (tx:ByteArray) :
  Bx (((((W.setCell ⟨g,0,none⟩ (.int .i64 kd)).setCell ⟨g,1,none⟩ (.int .i64 iv)).setCell ⟨g,2,none⟩ (.float .f64 rl)).setCell ⟨g,3,none⟩ (.complex .f64 0 0)).setCell ⟨g,4,none⟩ (.string tx)) g 107 (vCells kd iv rl tx):=by
 obtain⟨cs,hl,hb⟩:=h;have h5:=((((hb.set 0 (.int .i64 kd)).set 1 (.int .i64 iv)).set 2 (.float .f64 rl)).set 3 (.complex .f64 0 0)).set 4 (.string tx)
 match cs,hl with
 | [a,b,c,d,e],_=>exact h5
theorem vres {fn:Func} {p:Tmp} {tmps:Array Value} {W:World} {g:Nat} {kd iv:Int} {rl:Nat} {tx:ByteArray} (hf:fn.results=#[.cell p 107]) (hp:tmps.getD p undef=.pointer (some ⟨g,0,none⟩)) (h:Bx W g 107 (vCells kd iv rl tx)) :
  (results fn tmps).run Tryz.prog W=.ok (valV kd iv rl 0 0 tx) W:=results_cell_row hf _ _ g 107 _ (0,0) _ hp h Tryz.underlying107 rfl (by kernel_rfl)
theorem below_vput {B:Nat} {w W:World} {g:Nat} (hb:Below B w W) (hg:B≤g) (a b c d e:Value):Below B w (((((W.setCell ⟨g,0,none⟩ a).setCell ⟨g,1,none⟩ b).setCell ⟨g,2,none⟩ c).setCell ⟨g,3,none⟩ d).setCell ⟨g,4,none⟩ e) :=
 ((((hb.setCell hg _).setCell hg _).setCell hg _).setCell hg _).setCell hg _
theorem vPlain_any (l:Lf) (hv:∀ t,l≠.var t) (hl:okL l=true) (w:World) :
  Calls Tryz.prog 206 #[litV l] w fun e w'=>e=.returned (litV l)∧Below w.heap.size w w':=by
 have hk:((leafN l).vk=1∨(leafN l).vk=5∨(leafN l).vk=2∨(leafN l).vk=4)∧mayB (leafN l).vk (leafN l).vi (leafN l).tx=true∧(leafN l).rl<9218868437227405312∧(leafN l).tx.size≤256 ∧
   ((leafN l).vk=1∨(leafN l).vk=5→(leafN l).rl=0∧(leafN l).tx=⟨#[]⟩)∧((leafN l).vk=2→(leafN l).vi=0∧(leafN l).tx=⟨#[]⟩)∧((leafN l).vk=4→(leafN l).vi=0∧(leafN l).rl=0):=by
  cases l with
  | var t=>exact absurd rfl (hv t)
  | int v=>exact⟨.inl rfl,rfl,(by decide:0<9218868437227405312),(by decide:0≤256),fun _=>⟨rfl,rfl⟩,fun h=>(by cases h),fun h=>(by cases h)⟩
  | real b=>exact⟨.inr (.inr (.inl rfl)),rfl,of_decide_eq_true hl,(by decide:0≤256),fun h=>(by rcases h with h|h <;> cases h),fun _=>⟨rfl,rfl⟩,fun h=>(by cases h)⟩
  | text t=>exact⟨.inr (.inr (.inr rfl)),hl,(by decide:0<9218868437227405312),of_decide_eq_true hl,fun h=>(by rcases h with h|h <;> cases h),fun h=>(by cases h),fun _=>⟨rfl,rfl⟩⟩
  | bool b=>exact⟨.inr (.inl rfl),by cases b <;> rfl,(by decide:0<9218868437227405312),(by decide:0≤256),fun _=>⟨rfl,rfl⟩,fun h=>(by cases h),fun h=>(by cases h)⟩
 unfold litV;obtain⟨hk1,hm,hr,ht,h15,h2,h4⟩:=hk;generalize (leafN l).vk=vk at *
 generalize (leafN l).vi=vi at *
 generalize (leafN l).rl=rl at *
 generalize (leafN l).tx=tx at *
 have sf:=store_float;have sc:=store_cplx;have HM:=hid (fun W=>may_any vk vi rl 0 0 tx W);have HMB:=hid hm;have HP:=hid (fun W=>plainReal_any rl hr W);have HT:=hid ht;unfold valV at HM ⊢;obtain⟨W0,hW0⟩:∃ W0,W0=((w.alloc (.cells #[.int .i64 vk,.int .i64 vi,.float .f64 rl,.complex .f64 0 0,.string tx] 107)).alloc (.cells #[.int .i64 0,.int .i64 0,.float .f64 0,.complex .f64 0 0,.string ⟨#[]⟩] 107)):=⟨_,rfl⟩
 have hB0:Below w.heap.size w W0:=by rw[hW0];exact((Below.refl w.heap.size w).alloc (Nat.le_refl _) _).alloc (by simp) _
 have hv0:Bx W0 w.heap.size 107 (vCells vk vi rl tx):=by rw[hW0];exact(Bx.new w 107 (vCells vk vi rl tx)).keep ((Below.refl _ _).alloc (Nat.le_refl _) _) (by simp)
 have hr0:Bx W0 (w.heap.size+1) 107 (vCells 0 0 0 ⟨#[]⟩):=by rw[hW0];have:=Bx.new (w.alloc (.cells #[.int .i64 vk,.int .i64 vi,.float .f64 rl,.complex .f64 0 0,.string tx] 107)) 107 (vCells 0 0 0 ⟨#[]⟩);rw[show (w.alloc (.cells #[.int .i64 vk,.int .i64 vi,.float .f64 rl,.complex .f64 0 0,.string tx] 107)).heap.size=w.heap.size+1 by simp] at this;exact this
 have v0:=hv0.c 0 rfl;have v1:=hv0.c 1 rfl;have v2:=hv0.c 2 rfl;have v3:=hv0.c 3 rfl;have v4:=hv0.c 4 rfl;have HW0:=hid hW0;have HB0:=hid hB0;have HV0:=hid hv0;have HR0:=hid hr0;have H15:=hid h15;have H2:=hid h2;have H4:=hid h4;have HK:=hid hk1;clear hW0 hB0 hv0 hr0 h15 h2 h4 hm hr ht hv hl hk1;go_enter Tryz.func206,Tryz.ntmps206;go_upto_region 1 with (fail);rw[← HW0.out];go_upto_region 3 with (go_at_call 186;refine(HM.out _).mono ?_;rintro e w1 ⟨rfl,hb1⟩;rw[HMB.out];have HB1:=hid (HB0.out.trans (hb1.mono HB0.out.size));have HV1:=hid (HV0.out.keep hb1 HV0.out.lt);have HR1:=hid (HR0.out.keep hb1 HR0.out.lt);clear hb1);clear v0 v1 v2 v3 v4;have v0:=HV1.out.c 0 rfl;have v1:=HV1.out.c 1 rfl;have v2:=HV1.out.c 2 rfl;have v4:=HV1.out.c 4 rfl;have n0:=HR1.out.c 0 rfl;have n1:=HR1.out.c 1 rfl;have n2:=HR1.out.c 2 rfl;have n3:=HR1.out.c 3 rfl;have n4:=HR1.out.c 4 rfl;have f0:=HR1.out.fz 0;have f1:=HR1.out.fz 1;have f2:=HR1.out.fz 2;have f3:=HR1.out.fz 3;have f4:=HR1.out.fz 4;have hgr:w.heap.size<w1.heap.size:=HV1.out.lt;rcases HK.out with rfl|rfl|rfl|rfl
 ·obtain⟨rfl,rfl⟩:=H15.out (.inl rfl);go_wp2;exact bodyPost_ret (vres rfl rfl (vput ⟨_,rfl,HR1.out⟩ _ _ _ _)) rfl ⟨rfl,below_vput HB1.out (by omega) _ _ _ _ _⟩
 ·obtain⟨rfl,rfl⟩:=H15.out (.inr rfl);go_wp2;exact bodyPost_ret (vres rfl rfl (vput ⟨_,rfl,HR1.out⟩ _ _ _ _)) rfl ⟨rfl,below_vput HB1.out (by omega) _ _ _ _ _⟩
 ·obtain⟨rfl,rfl⟩:=H2.out rfl;go_wp2_with (go_at_call 235;refine(HP.out _).mono ?_;rintro e w' ⟨rfl,rfl⟩);exact bodyPost_ret (vres rfl rfl (vput ⟨_,rfl,HR1.out⟩ _ _ _ _)) rfl ⟨rfl,below_vput HB1.out (by omega) _ _ _ _ _⟩
 ·obtain⟨rfl,rfl⟩:=H4.out rfl;have HCL:=hid (clone_any tx w1 HT.out);clear n0 n1 n2 n3 n4 f0 f1 f2 f3 f4;go_wp2_with (go_at_call 236;refine HCL.out.mono ?_;rintro e w2 ⟨rfl,hb2⟩;have HB2:=hid (HB1.out.trans (hb2.mono HB1.out.size));have HR2:=hid (HR1.out.keep hb2 HR1.out.lt);clear hb2;have n0:=HR2.out.c 0 rfl;have n1:=HR2.out.c 1 rfl;have n2:=HR2.out.c 2 rfl;have n3:=HR2.out.c 3 rfl;have n4:=HR2.out.c 4 rfl;have f0:=HR2.out.fz 0;have f1:=HR2.out.fz 1;have f2:=HR2.out.fz 2;have f3:=HR2.out.fz 3;have f4:=HR2.out.fz 4);exact bodyPost_ret (vres rfl rfl (vput ⟨_,rfl,HR2.out⟩ _ _ _ _)) rfl ⟨rfl,below_vput HB2.out (by omega) _ _ _ _ _⟩
end Go.Proofs.YtenlhcgpajphhaaGreatDoor
namespace Go.Proofs.YtenlhcgpajphhaaGreatDoor
open Go.RowKit
set_option maxRecDepth 100000
set_option linter.all false
open Go.Shelf
open Lib(hid)
set_option maxHeartbeats 8000000
def zNd:Nd:=⟨0,0,0,⟨#[]⟩,0,0,0,0,0,⟨#[]⟩⟩
theorem nput {W:World} {g:Nat} (h:∃ cs,cs.length=9∧Bx W g 109 cs) (n:Nd) :
  Bx (((((((((W.setCell ⟨g,0,none⟩ (.int .i64 n.k)).setCell ⟨g,1,none⟩ (.int .i64 n.a)).setCell ⟨g,2,none⟩ (.int .i64 n.b)).setCell ⟨g,3,none⟩ (.string n.nm)).setCell ⟨g,4,none⟩ (.int .i64 n.vk)).setCell ⟨g,5,none⟩ (.int .i64 n.vi)).setCell ⟨g,6,none⟩ (.float .f64 n.rl)).setCell ⟨g,7,none⟩ (.complex .f64 n.re n.im)).setCell ⟨g,8,none⟩ (.string n.tx)) g 109 (ndCells n):=by
 obtain⟨cs,hl,hb⟩:=h;have h9:=((((((((hb.set 0 (.int .i64 n.k)).set 1 (.int .i64 n.a)).set 2 (.int .i64 n.b)).set 3 (.string n.nm)).set 4 (.int .i64 n.vk)).set 5 (.int .i64 n.vi)).set 6 (.float .f64 n.rl)).set 7 (.complex .f64 n.re n.im)).set 8 (.string n.tx)
 match cs,hl with
 | [_,_,_,_,_,_,_,_,_],_=>exact h9
theorem nres {fn:Func} {p:Tmp} {tmps:Array Value} {W:World} {g:Nat} {n:Nd} (hf:fn.results=#[.cell p 109]) (hp:tmps.getD p undef=.pointer (some ⟨g,0,none⟩)) (h:Bx W g 109 (ndCells n)) :
  (results fn tmps).run Tryz.prog W=.ok (ndV n) W:=results_cell_row hf _ _ g 109 _ (0,0) _ hp h Tryz.underlying109 rfl (by kernel_rfl)
theorem below_nput {B:Nat} {w W:World} {g:Nat} (hb:Below B w W) (hg:B≤g) (a b c d e f i j k:Value) :
  Below B w (((((((((W.setCell ⟨g,0,none⟩ a).setCell ⟨g,1,none⟩ b).setCell ⟨g,2,none⟩ c).setCell ⟨g,3,none⟩ d).setCell ⟨g,4,none⟩ e).setCell ⟨g,5,none⟩ f).setCell ⟨g,6,none⟩ i).setCell ⟨g,7,none⟩ j).setCell ⟨g,8,none⟩ k) :=
 ((((((((hb.setCell hg _).setCell hg _).setCell hg _).setCell hg _).setCell hg _).setCell hg _).setCell hg _).setCell hg _).setCell hg _
theorem new2 (w:World) (T:TypeId) (a b:List Value):∃ W,W=((w.alloc (.cells a.toArray T)).alloc (.cells b.toArray T))∧Bx W w.heap.size T a∧Bx W (w.heap.size+1) T b∧Below w.heap.size w W∧W.heap.size=w.heap.size+2:=by
 refine⟨_,rfl,?_,?_,?_,?_⟩
 ·exact(Bx.new w T a).keep ((Below.refl _ _).alloc (by simp) _) (Nat.lt_succ_self _)
 ·have:=(Bx.new (w.alloc (.cells a.toArray T)) T b)
  rw[show (w.alloc (.cells a.toArray T)).heap.size=w.heap.size+1 by simp] at this;exact this
 ·exact((Below.refl w.heap.size w).alloc (Nat.le_refl _) _).alloc (by simp) _
 ·simp
inductive PlainN (K:Nat) (n:Nd):Prop
 | val (l:Lf) (hv:∀ t,l≠.var t) (hl:okL l=true) (hK:K=1) (hn:n=leafN l)
 | var (t:ByteArray) (hK:K=2) (hn:n=leafN (.var t))
 | one (x:Int) (hx:-9223372036854775808≤x∧x≤9223372036854775807) (hc:shCh K=1) (hn:n=pairN K x 0)
 | two (x y:Int) (hx:-9223372036854775808≤x∧x≤9223372036854775807) (hy:-9223372036854775808≤y∧y≤9223372036854775807) (hc:shCh K=2) (hn:n=pairN K x y)
theorem plain_any (K:Nat) (n:Nd) (hK:K<27) (hP:PlainN K n) (w:World) (hT:Tab w) (hg:0<w.heap.size) :
  Calls Tryz.prog 184 #[ndV n,.int .i64 0] w fun e w'=>e=.returned (ndV n)∧Below w.heap.size w w':=by
 have sf:=store_float;have sc:=store_cplx;have sh:=shape_ch;have hnk:n.k=K:=by
  cases hP with
  | val l hv hl hK hn =>
   rw[hn,hK];cases l with
   | var t=>exact absurd rfl (hv t)
   | int v=>rfl
   | real v=>rfl
   | text v=>rfl
   | bool v=>rfl
  | var t hK hn=>rw[hn,hK];rfl
  | one x hx hc hn=>rw[hn];rfl
  | two x y hx hy hc hn=>rw[hn];rfl
 obtain⟨W0,hW0,ha,hb,hB,hsz⟩:=new2 w 109 (ndCells n) (ndCells zNd);have HW0:Hid (W0=(w.alloc (.cells #[.int .i64 K,.int .i64 n.a,.int .i64 n.b,.string n.nm,.int .i64 n.vk,.int .i64 n.vi,.float .f64 n.rl,.complex .f64 n.re n.im,.string n.tx] 109)).alloc (.cells #[.int .i64 0,.int .i64 0,.int .i64 0,.string ⟨#[]⟩,.int .i64 0,.int .i64 0,.float .f64 0,.complex .f64 0 0,.string ⟨#[]⟩] 109)):=hid (by rw[← hnk];exact hW0);have k0:=ha.c 0 rfl;rw[hnk] at k0;have hgr0:w.heap.size<W0.heap.size:=by omega
 have hgr1:w.heap.size+1<W0.heap.size:=by omega
 have hB1:Below W0.heap.size W0 (W0.alloc (.cells #[.int .i64 K,.int .i64 0,.int .i64 0,.string ⟨#[]⟩,.int .i64 0,.int .i64 0,.float .f64 0,.complex .f64 0 0,.string ⟨#[]⟩] 109)):=(Below.refl _ _).alloc (Nat.le_refl _) _;have hc1:Bx (W0.alloc (.cells #[.int .i64 K,.int .i64 0,.int .i64 0,.string ⟨#[]⟩,.int .i64 0,.int .i64 0,.float .f64 0,.complex .f64 0 0,.string ⟨#[]⟩] 109)) W0.heap.size 109 (ndCells ⟨K,0,0,⟨#[]⟩,0,0,0,0,0,⟨#[]⟩⟩):=Bx.new W0 _ _;have hsz1:(W0.alloc (.cells #[.int .i64 K,.int .i64 0,.int .i64 0,.string ⟨#[]⟩,.int .i64 0,.int .i64 0,.float .f64 0,.complex .f64 0 0,.string ⟨#[]⟩] 109)).heap.size=W0.heap.size+1:=by simp
 have HSZ1:=hid hsz1;have HA1:=hid (ha.keep hB1 hgr0);have HB1:=hid (hb.keep hB1 hgr1);have HC1:=hid hc1;have hBW1:=hB.trans (hB1.mono (by omega));have HBW1:=hid hBW1;have HT1:=hid (hT.of_block (hBW1.block _ hg));have HGR:=hid hsz;have HNK:=hid hnk;have HPP:=hid hP;have HKK:=hid hK;clear hP ha hb hB hsz hB1 hc1 hsz1 hBW1 hW0 hT;unfold ndV;rw[hnk];clear hnk;go_enter Tryz.func184,Tryz.ntmps184;go_upto_region 1 with (fail);rw[← HW0.out];go_upto_region 2 with (fail);generalize W0.alloc (.cells #[.int .i64 K,.int .i64 0,.int .i64 0,.string ⟨#[]⟩,.int .i64 0,.int .i64 0,.float .f64 0,.complex .f64 0 0,.string ⟨#[]⟩] 109)=W1 at HSZ1 HA1 HB1 HC1 HBW1 HT1 ⊢;obtain⟨P,hP⟩:∃ P,P=W0.heap.size:=⟨_,rfl⟩
 rw[← hP] at HSZ1 HC1 hgr0 hgr1 ⊢;clear k0 HW0;have k0:=HA1.out.c 0 rfl;rw[HNK.out] at k0;have HSH:=hid (shapeOf_any K HKK.out W1 HT1.out (by have:=HBW1.out.size;omega));have hPs:P<W1.heap.size:=HC1.out.lt;have hP2:w.heap.size+2=P:=by rw[hP];exact HGR.out.symm
 clear hP;have HP2:=hid hP2;clear hP2;rcases HPP.out with ⟨l,hv,hl,hK1,hn⟩|⟨t,hK1,hn⟩|⟨x,hx,hch,hn⟩|⟨x,y,hx,hy,hch,hn⟩
 ·subst hK1;have hlf:n.a=0∧n.b=0∧n.nm=⟨#[]⟩∧n.re=0∧n.im=0:=by
   rw[hn];cases l with
   | var t=>exact absurd rfl (hv t)
   | int v=>exact⟨rfl,rfl,rfl,rfl,rfl⟩
   | real v=>exact⟨rfl,rfl,rfl,rfl,rfl⟩
   | text v=>exact⟨rfl,rfl,rfl,rfl,rfl⟩
   | bool v=>exact⟨rfl,rfl,rfl,rfl,rfl⟩
  obtain⟨h1,h2,h3,h4,h5⟩:=hlf;have HVP:=hid (fun W=>vPlain_any l hv hl W);unfold litV valV at HVP;rw[← hn] at HVP;have HN:=hid (show n=⟨1,0,0,⟨#[]⟩,n.vk,n.vi,n.rl,0,0,n.tx⟩ by rw[← h1,← h4];cases n;simp_all;exact HNK.out);generalize n.vk=vk at HVP HN;generalize n.vi=vi at HVP HN;generalize n.rl=rl at HVP HN;generalize n.tx=tx at HVP HN;clear h1 h2 h3 h4 h5 hn hl hv;have hn:=HN.out;clear HN HNK HPP;subst hn;rw[show shCh 1=0 from rfl] at HSH;go_upto_region 7 with (go_at_call 205;refine HSH.out.mono ?_;rintro e w2 ⟨rfl,hb2⟩;have HA2:=hid (HA1.out.keep hb2 HA1.out.lt);have HB2:=hid (HB1.out.keep hb2 HB1.out.lt);have HC2:=hid (HC1.out.keep hb2 HC1.out.lt);have HBW2:=hid (HBW1.out.trans (hb2.mono HBW1.out.size));have hP3:P<w2.heap.size:=HC2.out.lt;have k2:=HA2.out.c 0 rfl;clear hb2);clear k0;have k0:=HA2.out.c 0 rfl;have v4:=HA2.out.c 4 rfl;have v5:=HA2.out.c 5 rfl;have v6:=HA2.out.c 6 rfl;have v7:=HA2.out.c 7 rfl;have v8:=HA2.out.c 8 rfl;go_upto_region 12 with (go_at_call 206;refine(HVP.out _).mono ?_;rintro e w3 ⟨rfl,hb3⟩;have HB3:=hid (HB2.out.keep hb3 HB2.out.lt);have HC3:=hid (HC2.out.keep hb3 HC2.out.lt);have HBW3:=hid (HBW2.out.trans (hb3.mono HBW2.out.size));have hP4:P<w3.heap.size:=HC3.out.lt;clear hb3;have n4:=HC3.out.c 4 rfl;have n5:=HC3.out.c 5 rfl;have n6:=HC3.out.c 6 rfl;have n7:=HC3.out.c 7 rfl;have n8:=HC3.out.c 8 rfl;have f4:=HC3.out.fz 4;have f5:=HC3.out.fz 5;have f6:=HC3.out.fz 6;have f7:=HC3.out.fz 7;have f8:=HC3.out.fz 8);have HC4:Hid (Bx (((((w3.setCell ⟨P,4,none⟩ (.int .i64 vk)).setCell ⟨P,5,none⟩ (.int .i64 vi)).setCell ⟨P,6,none⟩ (.float .f64 rl)).setCell ⟨P,7,none⟩ (.complex .f64 0 0)).setCell ⟨P,8,none⟩ (.string tx)) P 109 (ndCells ⟨1,0,0,⟨#[]⟩,vk,vi,rl,0,0,tx⟩)):=hid (((((HC3.out.set 4 _).set 5 _).set 6 _).set 7 _).set 8 _);have HB4:Hid (Bx (((((w3.setCell ⟨P,4,none⟩ (.int .i64 vk)).setCell ⟨P,5,none⟩ (.int .i64 vi)).setCell ⟨P,6,none⟩ (.float .f64 rl)).setCell ⟨P,7,none⟩ (.complex .f64 0 0)).setCell ⟨P,8,none⟩ (.string tx)) (w.heap.size+1) 109 (ndCells zNd)):=hid (((((HB3.out.other (by omega) _ _).other (by omega) _ _).other (by omega) _ _).other (by omega) _ _).other (by omega) _ _);have HBW4:Hid (Below w.heap.size w (((((w3.setCell ⟨P,4,none⟩ (.int .i64 vk)).setCell ⟨P,5,none⟩ (.int .i64 vi)).setCell ⟨P,6,none⟩ (.float .f64 rl)).setCell ⟨P,7,none⟩ (.complex .f64 0 0)).setCell ⟨P,8,none⟩ (.string tx))):=hid (((((HBW3.out.setCell (by show _≤P;omega) _).setCell (by show _≤P;omega) _).setCell (by show _≤P;omega) _).setCell (by show _≤P;omega) _).setCell (by show _≤P;omega) _);generalize ((((w3.setCell ⟨P,4,none⟩ (.int .i64 vk)).setCell ⟨P,5,none⟩ (.int .i64 vi)).setCell ⟨P,6,none⟩ (.float .f64 rl)).setCell ⟨P,7,none⟩ (.complex .f64 0 0)).setCell ⟨P,8,none⟩ (.string tx)=W4 at HC4 HB4 HBW4 ⊢;clear n4 n5 n6 n7 n8 f4 f5 f6 f7 f8 v4 v5 v6 v7 v8;clear k0;have v0:=HC4.out.c 0 rfl;have v1:=HC4.out.c 1 rfl;have v2:=HC4.out.c 2 rfl;have v3:=HC4.out.c 3 rfl;have v4:=HC4.out.c 4 rfl;have v5:=HC4.out.c 5 rfl;have v6:=HC4.out.c 6 rfl;have v7:=HC4.out.c 7 rfl;have v8:=HC4.out.c 8 rfl;have n0:=HB4.out.c 0 rfl;have n1:=HB4.out.c 1 rfl;have n2:=HB4.out.c 2 rfl;have n3:=HB4.out.c 3 rfl;have n4:=HB4.out.c 4 rfl;have n5:=HB4.out.c 5 rfl;have n6:=HB4.out.c 6 rfl;have n7:=HB4.out.c 7 rfl;have n8:=HB4.out.c 8 rfl;have f0:=HB4.out.fz 0;have f1:=HB4.out.fz 1;have f2:=HB4.out.fz 2;have f3:=HB4.out.fz 3;have f4:=HB4.out.fz 4;have f5:=HB4.out.fz 5;have f6:=HB4.out.fz 6;have f7:=HB4.out.fz 7;have f8:=HB4.out.fz 8;go_wp2;exact bodyPost_ret (nres rfl rfl (nput ⟨_,rfl,HB4.out⟩ ⟨1,0,0,⟨#[]⟩,vk,vi,rl,0,0,tx⟩)) rfl ⟨rfl,below_nput HBW4.out (by omega) _ _ _ _ _ _ _ _ _⟩
 ·subst hK1;clear HNK HPP;subst hn;rw[show shCh 2=0 from rfl] at HSH;go_upto_region 7 with (go_at_call 205;refine HSH.out.mono ?_;rintro e w2 ⟨rfl,hb2⟩;have HA2:=hid (HA1.out.keep hb2 HA1.out.lt);have HB2:=hid (HB1.out.keep hb2 HB1.out.lt);have HC2:=hid (HC1.out.keep hb2 HC1.out.lt);have HBW2:=hid (HBW1.out.trans (hb2.mono HBW1.out.size));have hP3:P<w2.heap.size:=HC2.out.lt;have k2:=HA2.out.c 0 rfl;clear hb2);clear k0;have k0:=HA2.out.c 0 rfl;have v3:w2.cell? ⟨w.heap.size,3,none⟩=some (.string t):=HA2.out.c 3 rfl;have n3:=HC2.out.c 3 rfl;have f3:=HC2.out.fz 3;go_upto_region 12 with (fail);have HC4:Hid (Bx (w2.setCell ⟨P,3,none⟩ (.string t)) P 109 (ndCells ⟨2,0,0,t,0,0,0,0,0,⟨#[]⟩⟩)):=hid (HC2.out.set 3 _);have HB4:Hid (Bx (w2.setCell ⟨P,3,none⟩ (.string t)) (w.heap.size+1) 109 (ndCells zNd)):=hid (HB2.out.other (by omega) _ _);have HBW4:Hid (Below w.heap.size w (w2.setCell ⟨P,3,none⟩ (.string t))):=hid (HBW2.out.setCell (by show _≤P;omega) _);generalize w2.setCell ⟨P,3,none⟩ (.string t)=W4 at HC4 HB4 HBW4 ⊢;clear n3 f3 v3;clear k0;have v0:=HC4.out.c 0 rfl;have v1:=HC4.out.c 1 rfl;have v2:=HC4.out.c 2 rfl;have v3:=HC4.out.c 3 rfl;have v4:=HC4.out.c 4 rfl;have v5:=HC4.out.c 5 rfl;have v6:=HC4.out.c 6 rfl;have v7:=HC4.out.c 7 rfl;have v8:=HC4.out.c 8 rfl;have n0:=HB4.out.c 0 rfl;have n1:=HB4.out.c 1 rfl;have n2:=HB4.out.c 2 rfl;have n3:=HB4.out.c 3 rfl;have n4:=HB4.out.c 4 rfl;have n5:=HB4.out.c 5 rfl;have n6:=HB4.out.c 6 rfl;have n7:=HB4.out.c 7 rfl;have n8:=HB4.out.c 8 rfl;have f0:=HB4.out.fz 0;have f1:=HB4.out.fz 1;have f2:=HB4.out.fz 2;have f3:=HB4.out.fz 3;have f4:=HB4.out.fz 4;have f5:=HB4.out.fz 5;have f6:=HB4.out.fz 6;have f7:=HB4.out.fz 7;have f8:=HB4.out.fz 8;go_wp2;exact bodyPost_ret (nres rfl rfl (nput ⟨_,rfl,HB4.out⟩ ⟨2,0,0,t,0,0,0,0,0,⟨#[]⟩⟩)) rfl ⟨rfl,below_nput HBW4.out (by omega) _ _ _ _ _ _ _ _ _⟩
 ·clear HNK HPP;subst hn;rw[hch] at HSH;have hk12:K≠1∧K≠2:=⟨fun h=>(by rw[h] at hch;cases hch),fun h=>(by rw[h] at hch;cases hch)⟩
  have d1:((K:Int)==1)=false:=beq_eq_false_iff_ne.2 (by omega);have d2:((K:Int)==2)=false:=beq_eq_false_iff_ne.2 (by omega);clear hk12;clear hch;go_upto_region 6 with (go_at_call 205;refine HSH.out.mono ?_;rintro e w2 ⟨rfl,hb2⟩;have HA2:=hid (HA1.out.keep hb2 HA1.out.lt);have HB2:=hid (HB1.out.keep hb2 HB1.out.lt);have HC2:=hid (HC1.out.keep hb2 HC1.out.lt);have HBW2:=hid (HBW1.out.trans (hb2.mono HBW1.out.size));have hP3:P<w2.heap.size:=HC2.out.lt;have k2:=HA2.out.c 0 rfl;clear hb2);clear k0;have k0:=HA2.out.c 0 rfl;have v1:w2.cell? ⟨w.heap.size,1,none⟩=some (.int .i64 x):=HA2.out.c 1 rfl;have n1:=HC2.out.c 1 rfl;have f1:=HC2.out.fz 1;go_upto_region 7 with (fail);have HC4:Hid (Bx (w2.setCell ⟨P,1,none⟩ (.int .i64 x)) P 109 (ndCells ⟨K,x,0,⟨#[]⟩,0,0,0,0,0,⟨#[]⟩⟩)):=hid (HC2.out.set 1 _);have HB4:Hid (Bx (w2.setCell ⟨P,1,none⟩ (.int .i64 x)) (w.heap.size+1) 109 (ndCells zNd)):=hid (HB2.out.other (by omega) _ _);have HA4:Hid (Bx (w2.setCell ⟨P,1,none⟩ (.int .i64 x)) w.heap.size 109 (ndCells (pairN K x 0))):=hid (HA2.out.other (by omega) _ _);have HBW4:Hid (Below w.heap.size w (w2.setCell ⟨P,1,none⟩ (.int .i64 x))):=hid (HBW2.out.setCell (by show _≤P;omega) _);generalize w2.setCell ⟨P,1,none⟩ (.int .i64 x)=W4 at HC4 HB4 HA4 HBW4 ⊢;clear n1 f1 v1 k0 k2;have k0:W4.cell? ⟨w.heap.size,0,none⟩=some (.int .i64 K):=HA4.out.c 0 rfl;go_upto_region 12 with (fail);clear k0;have v0:=HC4.out.c 0 rfl;have v1:=HC4.out.c 1 rfl;have v2:=HC4.out.c 2 rfl;have v3:=HC4.out.c 3 rfl;have v4:=HC4.out.c 4 rfl;have v5:=HC4.out.c 5 rfl;have v6:=HC4.out.c 6 rfl;have v7:=HC4.out.c 7 rfl;have v8:=HC4.out.c 8 rfl;have n0:=HB4.out.c 0 rfl;have n1:=HB4.out.c 1 rfl;have n2:=HB4.out.c 2 rfl;have n3:=HB4.out.c 3 rfl;have n4:=HB4.out.c 4 rfl;have n5:=HB4.out.c 5 rfl;have n6:=HB4.out.c 6 rfl;have n7:=HB4.out.c 7 rfl;have n8:=HB4.out.c 8 rfl;have f0:=HB4.out.fz 0;have f1:=HB4.out.fz 1;have f2:=HB4.out.fz 2;have f3:=HB4.out.fz 3;have f4:=HB4.out.fz 4;have f5:=HB4.out.fz 5;have f6:=HB4.out.fz 6;have f7:=HB4.out.fz 7;have f8:=HB4.out.fz 8;go_wp2;exact bodyPost_ret (nres rfl rfl (nput ⟨_,rfl,HB4.out⟩ ⟨K,x,0,⟨#[]⟩,0,0,0,0,0,⟨#[]⟩⟩)) rfl ⟨rfl,below_nput HBW4.out (by omega) _ _ _ _ _ _ _ _ _⟩
 ·clear HNK HPP;subst hn;rw[hch] at HSH;have hk12:K≠1∧K≠2:=⟨fun h=>(by rw[h] at hch;cases hch),fun h=>(by rw[h] at hch;cases hch)⟩
  have d1:((K:Int)==1)=false:=beq_eq_false_iff_ne.2 (by omega);have d2:((K:Int)==2)=false:=beq_eq_false_iff_ne.2 (by omega);clear hk12;clear hch;go_upto_region 5 with (go_at_call 205;refine HSH.out.mono ?_;rintro e w2 ⟨rfl,hb2⟩;have HA2:=hid (HA1.out.keep hb2 HA1.out.lt);have HB2:=hid (HB1.out.keep hb2 HB1.out.lt);have HC2:=hid (HC1.out.keep hb2 HC1.out.lt);have HBW2:=hid (HBW1.out.trans (hb2.mono HBW1.out.size));have hP3:P<w2.heap.size:=HC2.out.lt;have k2:=HA2.out.c 0 rfl;clear hb2);clear k0;have k0:=HA2.out.c 0 rfl;have v1:w2.cell? ⟨w.heap.size,1,none⟩=some (.int .i64 x):=HA2.out.c 1 rfl;have v2:w2.cell? ⟨w.heap.size,2,none⟩=some (.int .i64 y):=HA2.out.c 2 rfl;have n1:=HC2.out.c 1 rfl;have f1:=HC2.out.fz 1;have n2:=HC2.out.c 2 rfl;have f2:=HC2.out.fz 2;go_upto_region 7 with (fail);have HC4:Hid (Bx ((w2.setCell ⟨P,2,none⟩ (.int .i64 y)).setCell ⟨P,1,none⟩ (.int .i64 x)) P 109 (ndCells ⟨K,x,y,⟨#[]⟩,0,0,0,0,0,⟨#[]⟩⟩)):=hid ((HC2.out.set 2 _).set 1 _);have HB4:Hid (Bx ((w2.setCell ⟨P,2,none⟩ (.int .i64 y)).setCell ⟨P,1,none⟩ (.int .i64 x)) (w.heap.size+1) 109 (ndCells zNd)):=hid ((HB2.out.other (by omega) _ _).other (by omega) _ _);have HA4:Hid (Bx ((w2.setCell ⟨P,2,none⟩ (.int .i64 y)).setCell ⟨P,1,none⟩ (.int .i64 x)) w.heap.size 109 (ndCells (pairN K x y))):=hid ((HA2.out.other (by omega) _ _).other (by omega) _ _);have HBW4:Hid (Below w.heap.size w ((w2.setCell ⟨P,2,none⟩ (.int .i64 y)).setCell ⟨P,1,none⟩ (.int .i64 x))):=hid ((HBW2.out.setCell (by show _≤P;omega) _).setCell (by show _≤P;omega) _);generalize ((w2.setCell ⟨P,2,none⟩ (.int .i64 y)).setCell ⟨P,1,none⟩ (.int .i64 x))=W4 at HC4 HB4 HA4 HBW4 ⊢;clear n1 f1 v1 n2 f2 v2 k0 k2;have k0:W4.cell? ⟨w.heap.size,0,none⟩=some (.int .i64 K):=HA4.out.c 0 rfl;go_upto_region 12 with (fail);clear k0;have v0:=HC4.out.c 0 rfl;have v1:=HC4.out.c 1 rfl;have v2:=HC4.out.c 2 rfl;have v3:=HC4.out.c 3 rfl;have v4:=HC4.out.c 4 rfl;have v5:=HC4.out.c 5 rfl;have v6:=HC4.out.c 6 rfl;have v7:=HC4.out.c 7 rfl;have v8:=HC4.out.c 8 rfl;have n0:=HB4.out.c 0 rfl;have n1:=HB4.out.c 1 rfl;have n2:=HB4.out.c 2 rfl;have n3:=HB4.out.c 3 rfl;have n4:=HB4.out.c 4 rfl;have n5:=HB4.out.c 5 rfl;have n6:=HB4.out.c 6 rfl;have n7:=HB4.out.c 7 rfl;have n8:=HB4.out.c 8 rfl;have f0:=HB4.out.fz 0;have f1:=HB4.out.fz 1;have f2:=HB4.out.fz 2;have f3:=HB4.out.fz 3;have f4:=HB4.out.fz 4;have f5:=HB4.out.fz 5;have f6:=HB4.out.fz 6;have f7:=HB4.out.fz 7;have f8:=HB4.out.fz 8;go_wp2;exact bodyPost_ret (nres rfl rfl (nput ⟨_,rfl,HB4.out⟩ ⟨K,x,y,⟨#[]⟩,0,0,0,0,0,⟨#[]⟩⟩)) rfl ⟨rfl,below_nput HBW4.out (by omega) _ _ _ _ _ _ _ _ _⟩
end Go.Proofs.YtenlhcgpajphhaaGreatDoor
