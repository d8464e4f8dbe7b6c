import Derived.Test.YtenlhcgpajphhaaGreatDoorMErSeven
import Derived.Test.YtenlhcgpajphhaaGreatDoorMEbPlace
import Derived.Test.YtenlhcgpajphhaaGreatDoorMVReal
import Derived.Deep.RegionHeld3
import Derived.Deep.RegionWith
import Derived.Deep.QuietTactic
import Derived.BigQuiet
import Derived.Laws.FloatArith
namespace Go.Proofs.YtenlhcgpajphhaaGreatDoor
open Go.RowKit Go.Shelf
set_option maxRecDepth 100000
set_option linter.all false
def LaidD (B:Nat) (ns:List Nd) (t:Ex) (v:Value) (w:World) (e:Ending) (w':World):Prop :=
 ∃ g c,e=.returned (.slice (some ⟨g,0,none⟩) (ns.length+cnt t) c)∧w'.ownsRow B 109 9 (.slice (some ⟨g,0,none⟩) (ns.length+cnt t) c) (ns.length+cnt t) (qg3 (ns++lay ns.length t))∧(v.ownBlock=some g∨w.heap.size≤g) ∧
  w.heap.size≤w'.heap.size∧(∀ k,k<w.heap.size→v.ownBlock≠some k→w'.heap[k]?=w.heap[k]?)∧Below B w w'
structure LSt (B:Nat) (w:World) (v:Value) (W:World) (n:Nd) (v':Value) (xs:List Nd):Prop where
 row:W.ownsRow B 109 9 v' xs.length (qg3 xs)
 box:Bx W w.heap.size 109 (qaB n)
 nb:v'.ownBlock≠some w.heap.size
 lies:∀ g,v'.ownBlock=some g→v.ownBlock=some g∨w.heap.size≤g
 far:∀ k,k<w.heap.size→v.ownBlock≠some k→W.heap[k]?=w.heap[k]?
 bel:Below B w W
 base:B≤w.heap.size
open Lib(hid)
set_option maxHeartbeats 8000000
def qmW (w:World) (g:Nat) (a b c d e:Value):Prop:=w.heap[g]?=some (.cells #[a,b,c,d,e] 107 (0,0))
theorem qmW.keep {w w':World} {B g:Nat} {a b c d e:Value} (h:qmW w g a b c d e) (hb:Below B w w') (hg:g<B):qmW w' g a b c d e:=(hb.block g hg).trans h
theorem qmW.c0 {w:World} {g:Nat} {a b c d e:Value} (h:qmW w g a b c d e):w.cell? ⟨g,0,none⟩=some a:=by rw[cell_of_row w g 0 _ _ _ h];rfl
theorem qmW.c1 {w:World} {g:Nat} {a b c d e:Value} (h:qmW w g a b c d e):w.cell? ⟨g,1,none⟩=some b:=by rw[cell_of_row w g 1 _ _ _ h];rfl
theorem qmW.c2 {w:World} {g:Nat} {a b c d e:Value} (h:qmW w g a b c d e):w.cell? ⟨g,2,none⟩=some c:=by rw[cell_of_row w g 2 _ _ _ h];rfl
theorem qmW.c3 {w:World} {g:Nat} {a b c d e:Value} (h:qmW w g a b c d e):w.cell? ⟨g,3,none⟩=some d:=by rw[cell_of_row w g 3 _ _ _ h];rfl
theorem qmW.c4 {w:World} {g:Nat} {a b c d e:Value} (h:qmW w g a b c d e):w.cell? ⟨g,4,none⟩=some e:=by rw[cell_of_row w g 4 _ _ _ h];rfl
theorem qmW.lt {w:World} {g:Nat} {a b c d e:Value} (h:qmW w g a b c d e):g<w.heap.size:=lt_of_block h
def okN (n:Nd):Prop:=n.rl<9218868437227405312∧n.re=0∧n.im=0
theorem qqR (b:Nat) (h:b<9218868437227405312):(FloatKind.f64.format.order b b==some Ordering.eq)=true:=by
 have hr:qbU b=b:=Nat.mod_eq_of_lt (by omega);have hn:qnM b=false:=by unfold qnM;rw[hr];exact decide_eq_false (by omega)
 show (Ieee.double.order b b==some Ordering.eq)=true;rw[qf9 _ _ hn hn,show compare (qkA b) (qkA b)=.eq from by simp];rfl
theorem qh7 (kd iv:Int) (rl re im:Nat) (tx:ByteArray) (w:World) :
  Calls Tryz.prog 136 #[qgK kd iv rl re im tx] w fun e w'=>e=.returned (.bool (qkW kd iv tx))∧Below w.heap.size w w':=by
 unfold qgK;have hb:Below w.heap.size w (w.alloc (.cells #[.int .i64 kd,.int .i64 iv,.float .f64 rl,.complex .f64 re im,.string tx] 107)):=(Below.refl _ w).alloc (Nat.le_refl _) _;have HB:=hid hb;clear hb;by_cases h4:kd=4
 ·subst h4;have hm:qkW 4 iv tx=decide (tx.size≤256):=rfl;rw[hm];cases hd:decide (tx.size≤256) with
  | true =>
   have t1:decide ((tx.size:Int)≤256)=true:=by rw[decide_eq_true_eq] at hd ⊢;omega
   clear hm;go_enter Tryz.func136,Tryz.ntmps136;go_wp2_with fail;go_ret;exact⟨rfl,HB.out⟩
  | false =>
   have t1:decide ((tx.size:Int)≤256)=false:=by rw[decide_eq_false_iff_not] at hd ⊢;omega
   clear hm;go_enter Tryz.func136,Tryz.ntmps136;go_wp2_with fail;go_ret;exact⟨rfl,HB.out⟩
 by_cases h5:kd=5
 ·subst h5;have hm:qkW 5 iv tx=decide (iv=0∨iv=1):=rfl;rw[hm];clear h4 hm;by_cases i0:iv=0
  ·subst i0;go_enter Tryz.func136,Tryz.ntmps136;go_wp2_with fail;go_ret;exact⟨rfl,HB.out⟩
  ·by_cases i1:iv=1
   ·subst i1;clear i0;go_enter Tryz.func136,Tryz.ntmps136;go_wp2_with fail;go_ret;exact⟨rfl,HB.out⟩
   ·have t0:(iv==0)=false:=by simpa using i0
    have t1:(iv==1)=false:=by simpa using i1
    have hd:decide (iv=0∨iv=1)=false:=by simp[i0,i1]
    rw[hd];clear i0 i1 hd;go_enter Tryz.func136,Tryz.ntmps136;go_wp2_with fail;go_ret;exact⟨rfl,HB.out⟩
 ·have t4:(kd==4)=false:=by simpa using h4
  have t5:(kd==5)=false:=by simpa using h5
  by_cases h123:1≤kd∧kd≤3
  ·have hm:qkW kd iv tx=true:=by unfold qkW;rw[if_pos (by omega)]
   have d1:decide ((1:Int)≤kd)=true:=decide_eq_true (by omega);have d2:decide (kd≤3)=true:=decide_eq_true (by omega);rw[hm];clear hm h4 h5 h123;go_enter Tryz.func136,Tryz.ntmps136;go_wp2_with fail;go_ret;exact⟨rfl,HB.out⟩
  ·have hm:qkW kd iv tx=false:=by unfold qkW;rw[if_neg (by omega),if_neg h4,if_neg h5]
   rw[hm];rcases Int.lt_or_le kd 1 with h|h
   ·have d1:decide ((1:Int)≤kd)=false:=decide_eq_false (by omega);clear hm h4 h5 h123 h;go_enter Tryz.func136,Tryz.ntmps136;go_wp2_with fail;go_ret;exact⟨rfl,HB.out⟩
   ·have d1:decide ((1:Int)≤kd)=true:=decide_eq_true (by omega);have d2:decide (kd≤3)=false:=decide_eq_false (by omega);clear hm h4 h5 h123 h;go_enter Tryz.func136,Tryz.ntmps136;go_wp2_with fail;go_ret;exact⟨rfl,HB.out⟩
theorem qyR:floatBits .quo .f64 4607182418800017408 0=some 9218868437227405312:=by decide
theorem qyP (b:Nat) (h:b<9218868437227405312):FloatKind.f64.format.order b 0=some (compare (b:Int) 0):=by
 have hr:qbU b=b:=Nat.mod_eq_of_lt (by omega);have hn:qnM b=false:=by unfold qnM;rw[hr];exact decide_eq_false (by omega)
 have hg:qiQ b=false:=by unfold qiQ;rw[show b / 9223372036854775808=0 by omega];rfl
 show Ieee.double.order b 0=_;rw[qf9 b 0 hn (by decide)];unfold qkA;rw[hg,hr];rfl
theorem qwJ (b:Nat) (h:b<9218868437227405312) (w:World):Calls Tryz.prog 158 #[.float .f64 b] w fun e w'=>e=.returned (.bool false)∧w=w':=by
 have ho:=qyP b h;have g0:∀ ty w,(binOp .quo ty (.float .f64 4607182418800017408) (.float .f64 0)).run Tryz.prog w=.ok (.float .f64 9218868437227405312) w:=fun ty w=>run_float_arith (h:=qyR) ..;have g1:(FloatKind.f64.format.order 9218868437227405312 0==some Ordering.lt)=false:=by decide
 by_cases h0:b=0
 ·subst h0;have o1:(FloatKind.f64.format.order 0 0==some Ordering.lt)=false:=by decide
  have o2:(FloatKind.f64.format.order 0 0==some Ordering.eq)=true:=by decide
  clear ho h;go_enter Tryz.func158,Tryz.ntmps158;go_wp2;go_ret;exact⟨rfl,rfl⟩
 ·have hc:compare (b:Int) 0=.gt:=q75 (by omega);rw[hc] at ho;have o1:(FloatKind.f64.format.order b 0==some Ordering.lt)=false:=by rw[ho];rfl
  have o2:(FloatKind.f64.format.order b 0==some Ordering.eq)=false:=by rw[ho];rfl
  clear ho h h0 hc;go_enter Tryz.func158,Tryz.ntmps158;go_wp2;go_ret;exact⟨rfl,rfl⟩
theorem qsA (a:Nat) (h:a<9218868437227405312) (w:World):Calls Tryz.prog 137 #[.float .f64 a,.float .f64 a] w fun e w'=>e=.returned (.int .i64 0)∧w=w':=by
 have q1:=qqR a h;have q3:(FloatKind.f64.format.order a a != some Ordering.eq)=false:=by rw[bne,q1];rfl
 have ho:FloatKind.f64.format.order a a=some Ordering.eq:=eq_of_beq q1;have q5:(FloatKind.f64.format.order a a==some Ordering.lt)=false:=by rw[ho];rfl
 have q6:(FloatKind.f64.format.order a a==some Ordering.gt)=false:=by rw[ho];rfl
 have HX:=hid (fun W=>qwJ a h W);clear h ho;go_enter Tryz.func137,Tryz.ntmps137;go_wp2_with (go_at_call 158;refine(HX.out _).mono ?_;rintro e w' ⟨rfl,rfl⟩);go_ret;exact⟨rfl,rfl⟩
theorem qgJ {B:Nat} {w W:World} (h:Below B w W) (k:Nat):Below B w (W.drewN k):=h.trans ⟨rfl,rfl,rfl,Nat.le_refl _,fun _ _=>rfl⟩
theorem qs9 (t:ByteArray) (ht:t.size≤256) (w:World):Calls Tryz.prog 138 #[.string t,.string t] w fun e w'=>e=.returned (.int .i64 0)∧Below w.heap.size w w':=by
 go_enter Tryz.func138,Tryz.ntmps138;go_wp2
 go_loopw [5] (fun i wr=>∃ k:Nat,i=.int .i64 k∧k≤t.size∧Hid (Below w.heap.size w wr)) (fun i _=>t.size-(intOf i).toNat)
 case atStart=>exact⟨0,rfl,Nat.zero_le _,hid (Below.refl _ _)⟩
 case round =>
  obtain⟨k,rfl,hk,HB⟩:=hrel;rcases Nat.lt_or_ge k t.size with hlt|hge
  ·have d1:decide ((k:Int)<(t.size:Int))=true:=decide_eq_true (by omega);have e2:(0:Int)≤(k:Int):=by omega
   have e3:(k:Int)<(t.size:Int):=by omega
   go_upto_region 4 with (fail);go_quiet (fail);have HB2:=hid (qgJ HB.out nq);generalize wr.drewN nq=w2 at HB2 ⊢;go_upto_region 6 with (fail);go_quiet (fail);have HB3:=hid (qgJ HB2.out nq);generalize w2.drewN nq=w3 at HB3 ⊢;go_wp2;go_roundw
   case rel=>exact⟨k+1,by go_num,by omega,HB3⟩
   case measure=>simp[intOf];omega
  ·obtain rfl:k=t.size:=by omega
   have d1:decide ((t.size:Int)<(t.size:Int))=false:=decide_eq_false (by omega);clear hk hge;go_wp2;go_ret;exact⟨rfl,HB.out⟩
theorem qo7 (kd iv:Int) (rl rl2:Nat) (tx:ByteArray) (hrr:rl2=rl) (hk:kd=2) (hr:rl<9218868437227405312) (w:World):Calls Tryz.prog 113 #[qgK kd iv rl 0 0 tx,qgK kd iv rl2 0 0 tx] w fun e w'=>e=.returned (.int .i64 0)∧Below w.heap.size w w':=by
 have hm1:=fun W=>qh7 kd iv rl 0 0 tx W;have hm2:=fun W=>qh7 kd iv rl2 0 0 tx W;generalize qkW kd iv tx=mb at hm1 hm2;have HR:Hid (∀ W,Calls Tryz.prog 137 #[.float .f64 rl,.float .f64 rl2] W fun e w'=>e=.returned (.int .i64 0)∧W=w'):=hid (fun W=>by rw[hrr];exact qsA rl hr W);clear hr;subst hk;unfold qgK;obtain⟨W0,hW0⟩:∃ W0,W0=(w.alloc (.cells #[.int .i64 2,.int .i64 iv,.float .f64 rl,.complex .f64 0 0,.string tx] 107)).alloc (.cells #[.int .i64 2,.int .i64 iv,.float .f64 rl2,.complex .f64 0 0,.string tx] 107):=⟨_,rfl⟩
 have hB0:Below w.heap.size w W0:=by rw[hW0];exact((Below.refl w.heap.size w).alloc (Nat.le_refl _) _).alloc (by simp) _
 have hb0:qmW W0 w.heap.size (.int .i64 2) (.int .i64 iv) (.float .f64 rl) (.complex .f64 0 0) (.string tx):=by rw[hW0];exact heap_alloc2_old _ _ _
 have hb1:qmW W0 (w.heap.size+1) (.int .i64 2) (.int .i64 iv) (.float .f64 rl2) (.complex .f64 0 0) (.string tx):=by rw[hW0];exact heap_alloc2_new _ _ _
 have HW0:=hid hW0;have HB0:=hid hB0;have HX0:=hid hb0;have HY0:=hid hb1;clear hW0 hB0 hb0 hb1;unfold qgK at hm1 hm2;have HM1:=hid hm1;have HM2:=hid hm2;clear hm1 hm2 hrr;cases mb
 all_goals
  have pc0:=HX0.out.c0;have pc1:=HX0.out.c1;have pc2:=HX0.out.c2;have pc3:=HX0.out.c3;have pc4:=HX0.out.c4;have plt:=HX0.out.lt;have qc0:=HY0.out.c0;have qc1:=HY0.out.c1;have qc2:=HY0.out.c2;have qc3:=HY0.out.c3;have qc4:=HY0.out.c4;have qlt:=HY0.out.lt;go_enter Tryz.func113,Tryz.ntmps113;go_upto_region 1 with (fail);rw[← HW0.out]
  go_region_held3 (fun W=>W.cell? ⟨w.heap.size,0,none⟩=some (.int .i64 2)∧W.cell? ⟨w.heap.size,1,none⟩=some (.int .i64 iv)∧W.cell? ⟨w.heap.size,2,none⟩=some (.float .f64 rl)∧W.cell? ⟨w.heap.size,3,none⟩=some (.complex .f64 0 0)∧W.cell? ⟨w.heap.size,4,none⟩=some (.string tx)∧W.cell? ⟨w.heap.size+1,0,none⟩=some (.int .i64 2)∧W.cell? ⟨w.heap.size+1,1,none⟩=some (.int .i64 iv)∧W.cell? ⟨w.heap.size+1,2,none⟩=some (.float .f64 rl2)∧W.cell? ⟨w.heap.size+1,3,none⟩=some (.complex .f64 0 0)∧W.cell? ⟨w.heap.size+1,4,none⟩=some (.string tx))
   (first|(refine⟨?_,?_,?_,?_,?_,?_,?_,?_,?_,?_⟩ <;> assumption)|go_keep)
   (first
    | (go_at_call 136;with_reducible refine(HM1.out _).mono ?_;rintro e w1 ⟨rfl,hb1⟩;have hb1:Below W0.heap.size W0 w1:=(by first|exact hb1|exact((Below.refl W0.heap.size W0).drew).trans (hb1.mono (Below.refl W0.heap.size W0).drew.size));have HB1:=hid (HB0.out.trans (hb1.mono HB0.out.size));have HX1:=hid (HX0.out.keep hb1 plt);have HY1:=hid (HY0.out.keep hb1 qlt);clear hb1;have rc0:=HX1.out.c0;have rc1:=HX1.out.c1;have rc2:=HX1.out.c2;have rc3:=HX1.out.c3;have rc4:=HX1.out.c4;have rlt:=HX1.out.lt;have sc0:=HY1.out.c0;have sc1:=HY1.out.c1;have sc2:=HY1.out.c2;have sc3:=HY1.out.c3;have sc4:=HY1.out.c4;have slt:=HY1.out.lt)
    | (go_at_call 136;with_reducible refine(HM2.out _).mono ?_;rintro e w2 ⟨rfl,hb2⟩;have HB2:=hid (HB1.out.trans (hb2.mono HB1.out.size));have HX2:=hid (HX1.out.keep hb2 rlt);have HY2:=hid (HY1.out.keep hb2 slt);clear hb2;have tc0:=HX2.out.c0;have tc1:=HX2.out.c1;have tc2:=HX2.out.c2;have tc3:=HX2.out.c3;have tc4:=HX2.out.c4;have tlt:=HX2.out.lt;have uc0:=HY2.out.c0;have uc1:=HY2.out.c1;have uc2:=HY2.out.c2;have uc3:=HY2.out.c3;have uc4:=HY2.out.c4;have ult:=HY2.out.lt))
  all_goals
   go_wp2_with (go_at_call 137;with_reducible refine(HR.out _).mono ?_;rintro e w' ⟨rfl,rfl⟩);go_ret;exact⟨rfl,HB2.out⟩
theorem qo6 (kd iv:Int) (rl rl2:Nat) (tx:ByteArray) (hrr:rl2=rl) (hk:kd=4) (ht:tx.size≤256) (w:World):Calls Tryz.prog 113 #[qgK kd iv rl 0 0 tx,qgK kd iv rl2 0 0 tx] w fun e w'=>e=.returned (.int .i64 0)∧Below w.heap.size w w':=by
 have hm1:=fun W=>qh7 kd iv rl 0 0 tx W;have hm2:=fun W=>qh7 kd iv rl2 0 0 tx W;generalize qkW kd iv tx=mb at hm1 hm2;have HR:=hid (fun W=>qs9 tx ht W);clear ht;subst hk;unfold qgK;obtain⟨W0,hW0⟩:∃ W0,W0=(w.alloc (.cells #[.int .i64 4,.int .i64 iv,.float .f64 rl,.complex .f64 0 0,.string tx] 107)).alloc (.cells #[.int .i64 4,.int .i64 iv,.float .f64 rl2,.complex .f64 0 0,.string tx] 107):=⟨_,rfl⟩
 have hB0:Below w.heap.size w W0:=by rw[hW0];exact((Below.refl w.heap.size w).alloc (Nat.le_refl _) _).alloc (by simp) _
 have hb0:qmW W0 w.heap.size (.int .i64 4) (.int .i64 iv) (.float .f64 rl) (.complex .f64 0 0) (.string tx):=by rw[hW0];exact heap_alloc2_old _ _ _
 have hb1:qmW W0 (w.heap.size+1) (.int .i64 4) (.int .i64 iv) (.float .f64 rl2) (.complex .f64 0 0) (.string tx):=by rw[hW0];exact heap_alloc2_new _ _ _
 have HW0:=hid hW0;have HB0:=hid hB0;have HX0:=hid hb0;have HY0:=hid hb1;clear hW0 hB0 hb0 hb1;unfold qgK at hm1 hm2;have HM1:=hid hm1;have HM2:=hid hm2;clear hm1 hm2 hrr;cases mb
 all_goals
  have pc0:=HX0.out.c0;have pc1:=HX0.out.c1;have pc2:=HX0.out.c2;have pc3:=HX0.out.c3;have pc4:=HX0.out.c4;have plt:=HX0.out.lt;have qc0:=HY0.out.c0;have qc1:=HY0.out.c1;have qc2:=HY0.out.c2;have qc3:=HY0.out.c3;have qc4:=HY0.out.c4;have qlt:=HY0.out.lt;go_enter Tryz.func113,Tryz.ntmps113;go_upto_region 1 with (fail);rw[← HW0.out]
  go_region_held3 (fun W=>W.cell? ⟨w.heap.size,0,none⟩=some (.int .i64 4)∧W.cell? ⟨w.heap.size,1,none⟩=some (.int .i64 iv)∧W.cell? ⟨w.heap.size,2,none⟩=some (.float .f64 rl)∧W.cell? ⟨w.heap.size,3,none⟩=some (.complex .f64 0 0)∧W.cell? ⟨w.heap.size,4,none⟩=some (.string tx)∧W.cell? ⟨w.heap.size+1,0,none⟩=some (.int .i64 4)∧W.cell? ⟨w.heap.size+1,1,none⟩=some (.int .i64 iv)∧W.cell? ⟨w.heap.size+1,2,none⟩=some (.float .f64 rl2)∧W.cell? ⟨w.heap.size+1,3,none⟩=some (.complex .f64 0 0)∧W.cell? ⟨w.heap.size+1,4,none⟩=some (.string tx))
   (first|(refine⟨?_,?_,?_,?_,?_,?_,?_,?_,?_,?_⟩ <;> assumption)|go_keep)
   (first
    | (go_at_call 136;with_reducible refine(HM1.out _).mono ?_;rintro e w1 ⟨rfl,hb1⟩;have hb1:Below W0.heap.size W0 w1:=(by first|exact hb1|exact((Below.refl W0.heap.size W0).drew).trans (hb1.mono (Below.refl W0.heap.size W0).drew.size));have HB1:=hid (HB0.out.trans (hb1.mono HB0.out.size));have HX1:=hid (HX0.out.keep hb1 plt);have HY1:=hid (HY0.out.keep hb1 qlt);clear hb1;have rc0:=HX1.out.c0;have rc1:=HX1.out.c1;have rc2:=HX1.out.c2;have rc3:=HX1.out.c3;have rc4:=HX1.out.c4;have rlt:=HX1.out.lt;have sc0:=HY1.out.c0;have sc1:=HY1.out.c1;have sc2:=HY1.out.c2;have sc3:=HY1.out.c3;have sc4:=HY1.out.c4;have slt:=HY1.out.lt)
    | (go_at_call 136;with_reducible refine(HM2.out _).mono ?_;rintro e w2 ⟨rfl,hb2⟩;have HB2:=hid (HB1.out.trans (hb2.mono HB1.out.size));have HX2:=hid (HX1.out.keep hb2 rlt);have HY2:=hid (HY1.out.keep hb2 slt);clear hb2;have tc0:=HX2.out.c0;have tc1:=HX2.out.c1;have tc2:=HX2.out.c2;have tc3:=HX2.out.c3;have tc4:=HX2.out.c4;have tlt:=HX2.out.lt;have uc0:=HY2.out.c0;have uc1:=HY2.out.c1;have uc2:=HY2.out.c2;have uc3:=HY2.out.c3;have uc4:=HY2.out.c4;have ult:=HY2.out.lt))
  all_goals
   go_wp2_with (go_at_call 138;with_reducible refine(HR.out _).mono ?_;rintro e w' ⟨rfl,hb9⟩;have HB3:=hid (HB2.out.trans (hb9.mono HB2.out.size));clear hb9);go_ret
   first|exact⟨rfl,HB3.out⟩|exact⟨rfl,HB2.out⟩
theorem qgR (kd iv:Int) (rl rl2:Nat) (tx:ByteArray) (hrr:rl2=rl) (h2:kd≠2) (h3:kd≠3) (h4:kd≠4) (w:World):Calls Tryz.prog 113 #[qgK kd iv rl 0 0 tx,qgK kd iv rl2 0 0 tx] w fun e w'=>e=.returned (.int .i64 0)∧Below w.heap.size w w':=by
 have hm1:=fun W=>qh7 kd iv rl 0 0 tx W;have hm2:=fun W=>qh7 kd iv rl2 0 0 tx W;generalize qkW kd iv tx=mb at hm1 hm2;have t2:(kd==2)=false:=beq_eq_false_iff_ne.2 h2;have t3:(kd==3)=false:=beq_eq_false_iff_ne.2 h3;have t4:(kd==4)=false:=beq_eq_false_iff_ne.2 h4;have tk:(kd==kd)=true:=beq_self_eq_true _;have ti:decide (iv<iv)=false:=decide_eq_false (by omega);clear h2 h3 h4;unfold qgK;obtain⟨W0,hW0⟩:∃ W0,W0=(w.alloc (.cells #[.int .i64 kd,.int .i64 iv,.float .f64 rl,.complex .f64 0 0,.string tx] 107)).alloc (.cells #[.int .i64 kd,.int .i64 iv,.float .f64 rl2,.complex .f64 0 0,.string tx] 107):=⟨_,rfl⟩
 have hB0:Below w.heap.size w W0:=by rw[hW0];exact((Below.refl w.heap.size w).alloc (Nat.le_refl _) _).alloc (by simp) _
 have hb0:qmW W0 w.heap.size (.int .i64 kd) (.int .i64 iv) (.float .f64 rl) (.complex .f64 0 0) (.string tx):=by rw[hW0];exact heap_alloc2_old _ _ _
 have hb1:qmW W0 (w.heap.size+1) (.int .i64 kd) (.int .i64 iv) (.float .f64 rl2) (.complex .f64 0 0) (.string tx):=by rw[hW0];exact heap_alloc2_new _ _ _
 have HW0:=hid hW0;have HB0:=hid hB0;have HX0:=hid hb0;have HY0:=hid hb1;clear hW0 hB0 hb0 hb1;unfold qgK at hm1 hm2;have HM1:=hid hm1;have HM2:=hid hm2;clear hm1 hm2 hrr;cases mb
 all_goals
  have pc0:=HX0.out.c0;have pc1:=HX0.out.c1;have pc2:=HX0.out.c2;have pc3:=HX0.out.c3;have pc4:=HX0.out.c4;have plt:=HX0.out.lt;have qc0:=HY0.out.c0;have qc1:=HY0.out.c1;have qc2:=HY0.out.c2;have qc3:=HY0.out.c3;have qc4:=HY0.out.c4;have qlt:=HY0.out.lt;go_enter Tryz.func113,Tryz.ntmps113;go_upto_region 1 with (fail);rw[← HW0.out]
  go_region_held3 (fun W=>W.cell? ⟨w.heap.size,0,none⟩=some (.int .i64 kd)∧W.cell? ⟨w.heap.size,1,none⟩=some (.int .i64 iv)∧W.cell? ⟨w.heap.size,2,none⟩=some (.float .f64 rl)∧W.cell? ⟨w.heap.size,3,none⟩=some (.complex .f64 0 0)∧W.cell? ⟨w.heap.size,4,none⟩=some (.string tx)∧W.cell? ⟨w.heap.size+1,0,none⟩=some (.int .i64 kd)∧W.cell? ⟨w.heap.size+1,1,none⟩=some (.int .i64 iv)∧W.cell? ⟨w.heap.size+1,2,none⟩=some (.float .f64 rl2)∧W.cell? ⟨w.heap.size+1,3,none⟩=some (.complex .f64 0 0)∧W.cell? ⟨w.heap.size+1,4,none⟩=some (.string tx))
   (first|(refine⟨?_,?_,?_,?_,?_,?_,?_,?_,?_,?_⟩ <;> assumption)|go_keep)
   (first
    | (go_at_call 136;with_reducible refine(HM1.out _).mono ?_;rintro e w1 ⟨rfl,hb1⟩;have hb1:Below W0.heap.size W0 w1:=(by first|exact hb1|exact((Below.refl W0.heap.size W0).drew).trans (hb1.mono (Below.refl W0.heap.size W0).drew.size));have HB1:=hid (HB0.out.trans (hb1.mono HB0.out.size));have HX1:=hid (HX0.out.keep hb1 plt);have HY1:=hid (HY0.out.keep hb1 qlt);clear hb1;have rc0:=HX1.out.c0;have rc1:=HX1.out.c1;have rc2:=HX1.out.c2;have rc3:=HX1.out.c3;have rc4:=HX1.out.c4;have rlt:=HX1.out.lt;have sc0:=HY1.out.c0;have sc1:=HY1.out.c1;have sc2:=HY1.out.c2;have sc3:=HY1.out.c3;have sc4:=HY1.out.c4;have slt:=HY1.out.lt)
    | (go_at_call 136;with_reducible refine(HM2.out _).mono ?_;rintro e w2 ⟨rfl,hb2⟩;have HB2:=hid (HB1.out.trans (hb2.mono HB1.out.size));have HX2:=hid (HX1.out.keep hb2 rlt);have HY2:=hid (HY1.out.keep hb2 slt);clear hb2;have tc0:=HX2.out.c0;have tc1:=HX2.out.c1;have tc2:=HX2.out.c2;have tc3:=HX2.out.c3;have tc4:=HX2.out.c4;have tlt:=HX2.out.lt;have uc0:=HY2.out.c0;have uc1:=HY2.out.c1;have uc2:=HY2.out.c2;have uc3:=HY2.out.c3;have uc4:=HY2.out.c4;have ult:=HY2.out.lt))
  all_goals
   go_wp2_with (fail);go_ret;exact⟨rfl,HB2.out⟩
theorem qiD {kd iv:Int} {rl:Nat} {tx:ByteArray} (hc:∀ W,Calls Tryz.prog 113 #[qgK kd iv rl 0 0 tx,qgK kd iv rl 0 0 tx] W fun e w'=>e=.returned (.int .i64 0)∧Below W.heap.size W w') (w:World) :
  Calls Tryz.prog 77 #[qgK kd iv rl 0 0 tx,qgK kd iv rl 0 0 tx] w fun e w'=>e=.returned (.bool true)∧Below w.heap.size w w':=by
 unfold qgK at hc ⊢;have HC:=hid hc;have HB:Hid (Below w.heap.size w ((w.alloc (.cells #[.int .i64 kd,.int .i64 iv,.float .f64 rl,.complex .f64 0 0,.string tx] 107)).alloc (.cells #[.int .i64 kd,.int .i64 iv,.float .f64 rl,.complex .f64 0 0,.string tx] 107))):=hid (((Below.refl w.heap.size w).alloc (Nat.le_refl _) _).alloc (by simp) _);clear hc;go_enter Tryz.func77,Tryz.ntmps77;go_wp2_with (go_at_call 113;with_reducible refine(HC.out _).mono ?_;rintro e w1 ⟨rfl,hb1⟩;have HB1:=hid (HB.out.trans (hb1.mono HB.out.size));clear hb1);go_ret;exact⟨rfl,HB1.out⟩
theorem qyN (l:Lf) (hok:okL l=true) (w:World):Calls Tryz.prog 77 #[qrI l,qrI l] w fun e w'=>e=.returned (.bool true)∧Below w.heap.size w w':=by
 unfold qrI;cases l with
 | int v=>exact qiD (fun W=>qgR 1 v 0 0 _ rfl (by decide) (by decide) (by decide) W) w
 | real b=>exact qiD (fun W=>qo7 2 0 b b _ rfl rfl (of_decide_eq_true hok) W) w
 | text t=>exact qiD (fun W=>qo6 4 0 0 0 t rfl rfl (of_decide_eq_true hok) W) w
 | bool b=>exact qiD (fun W=>qgR 5 (if b then 1 else 0) 0 0 _ rfl (by decide) (by decide) (by decide) W) w
 | var t=>exact qiD (fun W=>qgR 0 0 0 0 _ rfl (by decide) (by decide) (by decide) W) w
end Go.Proofs.YtenlhcgpajphhaaGreatDoor
