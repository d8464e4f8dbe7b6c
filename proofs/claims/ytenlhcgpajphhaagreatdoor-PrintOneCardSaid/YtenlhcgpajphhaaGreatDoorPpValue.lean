import Derived.Test.YtenlhcgpajphhaaGreatDoorPpReal
import Derived.Test.YtenlhcgpajphhaaGreatDoorMVForm
import Derived.Test.YtenlhcgpajphhaaGreatDoorMVReal
import Derived.Deep.Cut
import Derived.Deep.RegionHeld3
namespace Go.Proofs.YtenlhcgpajphhaaGreatDoor
open Go.RowKit Go.Shelf
set_option maxRecDepth 100000
open Lib(hid)
set_option linter.all false
set_option maxHeartbeats 4000000
theorem qeW (a b:ByteArray):(a++b).size=a.size+b.size:=by simp
theorem qkX {b:Nat} (hb:b<9223372036854775808):(qrG b).size≤42:=by
 unfold qrG;split
 ·decide
 ·split
  ·decide
  ·rename_i h1 h2;have hb0:b≠0:=by
    rintro rfl;exact h2 (by decide)
   have l1:=qj3 _ (qlX hb);obtain⟨e1,e2⟩:=qlY hb hb0;have l2:=qvB _ e1 e2;rw[qeW,qeW];have s1:(⟨(Lib.decDigits (qjA b / 2 ^ Lib.ctz 64 (qjA b))).toArray⟩:ByteArray).size=(Lib.decDigits (qjA b / 2 ^ Lib.ctz 64 (qjA b))).length:=rfl;have s2:(⟨(Lib.itoa (qv2 b)).toArray⟩:ByteArray).size=(Lib.itoa (qv2 b)).length:=rfl;have s3:(⟨#[112]⟩:ByteArray).size=1:=rfl;omega
theorem q7H (r:Nat) (hr:r<2 ^ 63):(2 ^ 63+r) ^^^ 2 ^ 63=r:=by
 apply Nat.eq_of_testBit_eq;intro i;rw[Nat.testBit_xor,Nat.testBit_two_pow];rcases Nat.lt_trichotomy i 63 with h|h|h
 ·rw[Nat.testBit_two_pow_add_gt h];have:decide (63=i)=false:=by rw[decide_eq_false_iff_not];omega
  rw[this];simp
 ·subst h;rw[Nat.testBit_two_pow_add_eq,Nat.testBit_lt_two_pow hr];rfl
 ·have h1:(2 ^ 63+r).testBit i=false:=Nat.testBit_lt_two_pow (Nat.lt_of_lt_of_le (by omega:2 ^ 63+r<2 ^ 64) (Nat.pow_le_pow_right (by omega) (by omega)));have h2:r.testBit i=false:=Nat.testBit_lt_two_pow (Nat.lt_of_lt_of_le hr (Nat.pow_le_pow_right (by omega) (by omega)));have:decide (63=i)=false:=by rw[decide_eq_false_iff_not];omega
  rw[h1,h2,this];rfl
theorem q82 (b:Nat) (h1:9223372036854775808≤b) (h2:b<18446744073709551616) (w:World):(Op.unary UnOp.neg (.float .f64 b)).run Tryz.prog w=.ok (.float .f64 (b-9223372036854775808)) w:=by
 have e:Op.negFloat .f64 b=b-9223372036854775808:=by
  have:=q7H (b-9223372036854775808) (by omega);rw[show 2 ^ 63+(b-9223372036854775808)=b by omega] at this;exact this
 show (pure (Value.float .f64 (Op.negFloat .f64 b)):Sem Value).run Tryz.prog w=_;rw[e];rfl
def qe5 (b:Nat):ByteArray:=if eqB b b=false then ⟨#[110,97,110]⟩ else if 9223372036854775808≤b then ⟨#[45]⟩++qrG (b-9223372036854775808) else qrG b
theorem qn9 {b:Nat} (hb:b<18446744073709551616):(qe5 b).size≤43:=by
 unfold qe5;split
 ·decide
 ·split
  ·rw[qeW];have:=qkX (b:=b-9223372036854775808) (by omega);have s3:(⟨#[45]⟩:ByteArray).size=1:=rfl;omega
  ·have:=qkX (b:=b) (by omega);omega
theorem qoL (b:Nat) (hb:b<18446744073709551616) (w:World) (hG:qk3 w) :
  Calls Tryz.prog 188 #[.float .f64 b] w fun e w'=>e=.returned (.string (qe5 b))∧Below w.heap.size w w':=by
 have hn:=qiW b w;have hs:=quC b hb w;have HG:=hid hG;cases he:eqB b b with
 | false =>
  have ht:qe5 b=⟨#[110,97,110]⟩:=by unfold qe5;rw[if_pos he]
  rw[he] at hn;have HN:=hid hn;rw[ht];clear ht hn hs he hb;go_enter Tryz.func188,Tryz.ntmps188;go_wp2_with fail;refine HN.out.mono ?_;rintro e w' ⟨rfl,rfl⟩;go_wp2_with fail;go_ret;exact⟨rfl,Below.refl _ _⟩
 | true =>
  rw[he] at hn;have HN:=hid hn;by_cases hsg:9223372036854775808≤b
  ·have ht:qe5 b=⟨#[45]⟩++qrG (b-9223372036854775808):=by unfold qe5;rw[if_neg (by simp[he]),if_pos hsg]
   have hm:=q16 (b-9223372036854775808) (by omega) w hG;have hl:=qkX (b:=b-9223372036854775808) (by omega);generalize qrG (b-9223372036854775808)=t at ht hm hl;rw[decide_eq_true hsg] at hs;have HS:=hid hs;have HM:=hid hm;have hneg:=q82 b hsg hb;rw[ht];clear ht hn hs he hG hm;go_enter Tryz.func188,Tryz.ntmps188;go_wp2_with fail;refine HN.out.mono ?_;rintro e w' ⟨rfl,rfl⟩;go_wp2_with fail;refine HS.out.mono ?_;rintro e w' ⟨rfl,rfl⟩;go_wp2_with fail;refine HM.out.mono ?_;rintro e w1 ⟨rfl,hb1⟩;have HB1:=hid hb1;clear hb1;go_wp2_with fail;go_ret;exact⟨rfl,HB1.out⟩
  ·have ht:qe5 b=qrG b:=by unfold qe5;rw[if_neg (by simp[he]),if_neg hsg]
   have hm:=q16 b (by omega) w hG;generalize qrG b=t at ht hm;rw[decide_eq_false hsg] at hs;have HS:=hid hs;have HM:=hid hm;rw[ht];clear ht hn hs he hG hm hsg;go_enter Tryz.func188,Tryz.ntmps188;go_wp2_with fail;refine HN.out.mono ?_;rintro e w' ⟨rfl,rfl⟩;go_wp2_with fail;refine HS.out.mono ?_;rintro e w' ⟨rfl,rfl⟩;go_wp2_with fail;refine HM.out.mono ?_;rintro e w1 ⟨rfl,hb1⟩;have HB1:=hid hb1;clear hb1;go_wp2_with fail;go_ret;exact⟨rfl,HB1.out⟩
def qfY (kd iv:Int) (rl re im:Nat) (tx:ByteArray):ByteArray :=
 if qkW kd iv tx=false then ⟨#[]⟩ else if kd=1 then ⟨(Lib.itoa iv).toArray⟩ else if kd=2 then qe5 rl
 else if kd=3 then (((⟨#[40]⟩++qe5 re)++⟨#[44]⟩)++qe5 im)++⟨#[41]⟩ else if kd=4 then ⟨(qdI tx.data.toList).toArray⟩ else if iv=0 then ⟨#[102,97,108,115,101]⟩ else ⟨#[116,114,117,101]⟩
def WfV (iv:Int) (rl re im:Nat):Prop:=(-9223372036854775808≤iv∧iv≤9223372036854775807)∧rl<18446744073709551616∧re<18446744073709551616∧im<18446744073709551616
theorem q0K (kd iv:Int) (rl re im:Nat) (tx:ByteArray) (w:World) (hG:qk3 w) (hv:WfV iv rl re im) :
  Calls Tryz.prog 160 #[qgK kd iv rl re im tx] w fun e w'=>e=.returned (.string (qfY kd iv rl re im tx))∧Below w.heap.size w w':=by
 obtain⟨⟨hi1,hi2⟩,hrl,hre,him⟩:=hv;have HG:=hid hG;obtain⟨w1,hw1⟩:∃ w1,w1=w.alloc (.cells #[.int .i64 kd,.int .i64 iv,.float .f64 rl,.complex .f64 re im,.string tx] 107):=⟨_,rfl⟩
 have hb1:Below w.heap.size w w1:=by rw[hw1];exact(Below.refl _ w).alloc (Nat.le_refl _) _
 have hblk:w1.heap[w.heap.size]?=some (.cells #[.int .i64 kd,.int .i64 iv,.float .f64 rl,.complex .f64 re im,.string tx] 107 (0,0)):=by rw[hw1];exact heap_alloc_new w _
 have hz1:w1.heap.size=w.heap.size+1:=by rw[hw1];simp
 have HW1:=hid hw1;have HB1:=hid hb1;have HK1:=hid hblk;have HZ1:=hid hz1;have hm:=fun W=>qp4 kd iv rl re im tx W;unfold qgK at hm ⊢;cases hmay:qkW kd iv tx with
 | false =>
  have ht:qfY kd iv rl re im tx=⟨#[]⟩:=by unfold qfY;rw[if_pos hmay]
  rw[hmay] at hm;have HM:=hid hm;have x0:w1.cell? ⟨w.heap.size,0,none⟩=some (.int .i64 kd):=by simp[World.cell?,hblk]
  have x1:w1.cell? ⟨w.heap.size,1,none⟩=some (.int .i64 iv):=by simp[World.cell?,hblk]
  have x2:w1.cell? ⟨w.heap.size,2,none⟩=some (.float .f64 rl):=by simp[World.cell?,hblk]
  have x3:w1.cell? ⟨w.heap.size,3,none⟩=some (.complex .f64 re im):=by simp[World.cell?,hblk]
  have x4:w1.cell? ⟨w.heap.size,4,none⟩=some (.string tx):=by simp[World.cell?,hblk]
  rw[ht];clear ht hm hmay hw1 hb1 hblk hz1 hG;go_enter Tryz.func160,Tryz.ntmps160;go_upto_region 1 with (fail);rw[← HW1.out];go_wp2_with fail;refine(HM.out w1).mono ?_;rintro e w2 ⟨rfl,hb2⟩;have HB2:=hid (HB1.out.trans (hb2.mono HB1.out.size));clear hb2;go_wp2_with fail;go_ret;exact⟨rfl,HB2.out⟩
 | true =>
  rw[hmay] at hm;have HM:=hid hm;have x0:w1.cell? ⟨w.heap.size,0,none⟩=some (.int .i64 kd):=by simp[World.cell?,hblk]
  have x1:w1.cell? ⟨w.heap.size,1,none⟩=some (.int .i64 iv):=by simp[World.cell?,hblk]
  have x2:w1.cell? ⟨w.heap.size,2,none⟩=some (.float .f64 rl):=by simp[World.cell?,hblk]
  have x3:w1.cell? ⟨w.heap.size,3,none⟩=some (.complex .f64 re im):=by simp[World.cell?,hblk]
  have x4:w1.cell? ⟨w.heap.size,4,none⟩=some (.string tx):=by simp[World.cell?,hblk]
  obtain⟨s,hs⟩:∃ s,s=qfY kd iv rl re im tx:=⟨_,rfl⟩
  have hk:kd=1∨kd=2∨kd=3∨kd=4∨kd=5:=by
   unfold qkW at hmay;by_cases h:kd=1∨kd=2∨kd=3
   ·omega
   ·rw[if_neg h] at hmay;by_cases h4:kd=4
    ·omega
    ·rw[if_neg h4] at hmay;by_cases h5:kd=5
     ·omega
     ·rw[if_neg h5] at hmay;cases hmay
  have h4:kd=4→tx.size≤256:=fun h=>by subst h;simpa [qkW] using hmay
  have hpt:qfY kd iv rl re im tx=if kd=1 then ⟨(Lib.itoa iv).toArray⟩ else if kd=2 then qe5 rl else if kd=3 then (((⟨#[40]⟩++qe5 re)++⟨#[44]⟩)++qe5 im)++⟨#[41]⟩ else if kd=4 then ⟨(qdI tx.data.toList).toArray⟩ else if iv=0 then ⟨#[102,97,108,115,101]⟩ else ⟨#[116,114,117,101]⟩:=by
   conv=>lhs;unfold qfY
   rw[if_neg (by simp[hmay])]
  rw[hpt];clear hpt hs hm hmay hw1 hz1 hG;have hcell:∀ W,Below w1.heap.size w1 W→∀ j,W.cell? ⟨w.heap.size,j,none⟩=w1.cell? ⟨w.heap.size,j,none⟩:=fun W hW j=>hW.cell (p:=⟨w.heap.size,j,none⟩) (by rw[HZ1.out];simp);have HC:=hid hcell;clear hcell hblk hb1;rcases hk with rfl|rfl|rfl|rfl|rfl
  ·clear h4;go_enter Tryz.func160,Tryz.ntmps160;go_upto_region 1 with (fail);rw[← HW1.out];go_wp2_with fail;refine(HM.out w1).mono ?_;rintro e w2 ⟨rfl,hb2⟩;have x0:=(HC.out w2 hb2 0).trans x0;have x1:=(HC.out w2 hb2 1).trans x1;have HB2:=hid (HB1.out.trans (hb2.mono HB1.out.size));clear hb2;go_wp2_with fail;refine(qxU iv hi1 hi2 w2 (HG.out.below HB2.out (Nat.le_refl _))).mono ?_;rintro e w3 ⟨rfl,hb3⟩;have HB3:=hid (HB2.out.trans (hb3.mono HB2.out.size));clear hb3;go_wp2_with fail;go_ret;exact⟨rfl,HB3.out⟩
  ·clear h4;go_enter Tryz.func160,Tryz.ntmps160;go_upto_region 1 with (fail);rw[← HW1.out];go_wp2_with fail;refine(HM.out w1).mono ?_;rintro e w2 ⟨rfl,hb2⟩;have x0:=(HC.out w2 hb2 0).trans x0;have x2:=(HC.out w2 hb2 2).trans x2;have HB2:=hid (HB1.out.trans (hb2.mono HB1.out.size));clear hb2;go_wp2_with fail;refine(qoL rl hrl w2 (HG.out.below HB2.out (Nat.le_refl _))).mono ?_;rintro e w3 ⟨rfl,hb3⟩;have HB3:=hid (HB2.out.trans (hb3.mono HB2.out.size));clear hb3;go_wp2_with fail;go_ret;exact⟨rfl,HB3.out⟩
  ·clear h4;have hl1:=qn9 hre;have hl2:=qn9 him;have hr1:=fun W hW=>qoL re hre W hW;have hr2:=fun W hW=>qoL im him W hW;generalize qe5 re=s1 at hl1 hr1 ⊢;generalize qe5 im=s2 at hl2 hr2 ⊢;have HR1:=hid hr1;have HR2:=hid hr2;clear hr1 hr2;have z1:(⟨#[40]⟩:ByteArray).size=1:=rfl;have z2:(⟨#[44]⟩:ByteArray).size=1:=rfl;have z3:(⟨#[41]⟩:ByteArray).size=1:=rfl;have A1:∀ W:World,(Op.stringOp .add ⟨#[40]⟩ s1).run Tryz.prog W=.ok (.string (⟨#[40]⟩++s1)) W:=fun W=>run_string_add_sum W _ _ (by omega);have A2:∀ W:World,(Op.stringOp .add (⟨#[40]⟩++s1) ⟨#[44]⟩).run Tryz.prog W=.ok (.string ((⟨#[40]⟩++s1)++⟨#[44]⟩)) W:=fun W=>run_string_add_sum W _ _ (by rw[qeW];omega);have A3:∀ W:World,(Op.stringOp .add ((⟨#[40]⟩++s1)++⟨#[44]⟩) s2).run Tryz.prog W=.ok (.string (((⟨#[40]⟩++s1)++⟨#[44]⟩)++s2)) W:=fun W=>run_string_add_sum W _ _ (by rw[qeW,qeW];omega);have A4:∀ W:World,(Op.stringOp .add (((⟨#[40]⟩++s1)++⟨#[44]⟩)++s2) ⟨#[41]⟩).run Tryz.prog W=.ok (.string ((((⟨#[40]⟩++s1)++⟨#[44]⟩)++s2)++⟨#[41]⟩)) W:=fun W=>run_string_add_sum W _ _ (by rw[qeW,qeW,qeW];omega);clear z1 z2 z3 hl1 hl2;go_enter Tryz.func160,Tryz.ntmps160;go_upto_region 1 with (fail);rw[← HW1.out];go_wp2_with fail;refine(HM.out w1).mono ?_;rintro e w2 ⟨rfl,hb2⟩;have x0:=(HC.out w2 hb2 0).trans x0;have x3':=x3;have x3:=(HC.out w2 hb2 3).trans x3;have HB2:=hid (HB1.out.trans (hb2.mono HB1.out.size));have X3:=hid x3';have HBa:=hid hb2;clear hb2;go_wp2_with fail
   go_region_held3 (fun W=>W.cell? ⟨w.heap.size,3,none⟩=some (.complex .f64 re im))
    (first|assumption|go_keep)
    (first
     | (go_at_call 188;with_reducible refine(HR1.out w2.drew (HG.out.below (HB2.out.drew) (Nat.le_refl _))).mono ?_;rintro e w3 ⟨rfl,hb3⟩;have b3:=(HBa.out.drew).trans (hb3.mono (HBa.out.drew).size);have z3:=(HC.out w3 b3 3).trans X3.out;have HBb:=hid b3;clear hb3 b3)
     | (go_at_call 188;with_reducible refine(HR2.out w3 (HG.out.below (HB1.out.trans (HBb.out.mono HB1.out.size)) (Nat.le_refl _))).mono ?_;rintro e w4 ⟨rfl,hb4⟩;have b4:=HBb.out.trans (hb4.mono HBb.out.size);have z4:=(HC.out w4 b4 3).trans X3.out;have HBc:=hid (HB1.out.trans (b4.mono HB1.out.size));clear hb4 b4))
   all_goals
    go_wp2_with fail;go_ret;exact⟨rfl,HBc.out⟩
  ·have h4':=h4 rfl;clear h4;go_enter Tryz.func160,Tryz.ntmps160;go_upto_region 1 with (fail);rw[← HW1.out];go_wp2_with fail;refine(HM.out w1).mono ?_;rintro e w2 ⟨rfl,hb2⟩;have x0:=(HC.out w2 hb2 0).trans x0;have x4:=(HC.out w2 hb2 4).trans x4;have HB2:=hid (HB1.out.trans (hb2.mono HB1.out.size));clear hb2;go_wp2_with fail;refine(qwL tx w2 h4').mono ?_;rintro e w3 ⟨rfl,hb3⟩;have HB3:=hid (HB2.out.trans (hb3.mono HB2.out.size));clear hb3;go_wp2_with fail;go_ret;exact⟨rfl,HB3.out⟩
  ·clear h4;by_cases hi0:iv=0
   ·subst hi0;go_enter Tryz.func160,Tryz.ntmps160;go_upto_region 1 with (fail);rw[← HW1.out];go_wp2_with fail;refine(HM.out w1).mono ?_;rintro e w2 ⟨rfl,hb2⟩;have x0:=(HC.out w2 hb2 0).trans x0;have x1:=(HC.out w2 hb2 1).trans x1;have HB2:=hid (HB1.out.trans (hb2.mono HB1.out.size));clear hb2;go_wp2_with fail;go_ret;exact⟨rfl,HB2.out⟩
   ·have t0:(iv==0)=false:=by simpa using hi0
    have HI:=hid hi0;clear hi0;rw[if_neg (by decide),if_neg (by decide),if_neg (by decide),if_neg (by decide),if_neg HI.out];go_enter Tryz.func160,Tryz.ntmps160;go_upto_region 1 with (fail);rw[← HW1.out];go_wp2_with fail;refine(HM.out w1).mono ?_;rintro e w2 ⟨rfl,hb2⟩;have x0:=(HC.out w2 hb2 0).trans x0;have x1:=(HC.out w2 hb2 1).trans x1;have HB2:=hid (HB1.out.trans (hb2.mono HB1.out.size));clear hb2;go_wp2_with fail;go_ret;exact⟨rfl,HB2.out⟩
end Go.Proofs.YtenlhcgpajphhaaGreatDoor
