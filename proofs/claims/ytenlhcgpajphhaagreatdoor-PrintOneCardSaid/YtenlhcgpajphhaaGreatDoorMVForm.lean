import Derived.Test.YtenlhcgpajphhaaGreatDoorShlv
import Derived.Test.YtenlhcgpajphhaaGreatDoorMQuotePlain
import Derived.Test.YtenlhcgpajphhaaGreatDoorMWhole
import Derived.Lib.AppendIntMem
import Derived.Lib.TrailingZeros
import Derived.Lib.LaidTab
import Derived.Laws.Bits64b
import Derived.Test.YtenlhcgpajphhaaGreatDoorQuoteLex
namespace Go.Proofs.YtenlhcgpajphhaaGreatDoor
open Go.RowKit Go.Shelf Go.Sort
open Lib(hid)
set_option maxRecDepth 100000
set_option linter.all false
set_option maxHeartbeats 1000000
def qk3 (w:World):Prop:=qq3 w∧Lib.TabIs Tryz.prog w "internal/strconv.uint64pow10" .u64 Lib.pow10Tab∧Lib.TabIs Tryz.prog w "math/bits.deBruijn64tab" .u8 (Lib.deBruijn64tab.map Int.ofNat)
theorem qqI {w w':World} {B:Nat} {name:String} {k:IntKind} {zs:List Int} (h:Lib.TabIs Tryz.prog w name k zs) (hb:Below B w w') (hB:w.heap.size≤B):Lib.TabIs Tryz.prog w' name k zs:=by
 unfold Lib.TabIs World.var? at h ⊢;cases hg:(Tryz.prog).globalNamed name with
 | none=>rw[hg] at h;simp at h
 | some g =>
  rw[hg] at h;simp only[Option.bind_some] at h ⊢;have hlt:g<w.heap.size:=by
   rcases Nat.lt_or_ge g w.heap.size with h'|h'
   ·exact h'
   ·rw[Array.getElem?_eq_none h'] at h;cases h
  rw[hb.block g (by omega)];exact h
theorem qk3.below {w w':World} {B:Nat} (h:qk3 w) (hb:Below B w w') (hB:w.heap.size≤B):qk3 w':=⟨h.1.below hb hB,qqI h.2.1 hb hB,qqI h.2.2 hb hB⟩
theorem qi7 (w:World) (k:Nat) (os:Array Obj):Below w.heap.size w (Go.Sort.grow (w.drewN k) os) :=
 ⟨rfl,rfl,rfl,by simp[Go.Sort.grow],fun i hi=>by
  unfold Go.Sort.grow;simp only;rw[Array.getElem?_append_left (by simpa using hi)];rfl⟩
theorem ja3 (x a:Nat) (hx:x<18446744073709551616) (hx0:x≠0) (hlow:x &&& (18446744073709551616-x)=a) :
  IntKind.u64.wrap (bits BinOp.and IntKind.u64 (x:Int) (IntKind.u64.wrap (-(x:Int))) * 285870213051353865) / 288230376151711744=((a * 285870213051353865 % 18446744073709551616 / 288230376151711744:Nat):Int):=by
 have e1:IntKind.u64.wrap (-(x:Int))=((18446744073709551616-x:Nat):Int):=by rw[IntKind.wrap_u64];omega
 rw[e1,bits_and_u64_nat x _ hx (by omega),hlow,IntKind.wrap_u64];omega
theorem q7N (x k idx:Nat) (w:World) (hx0:((x:Int)==0)=false)
  (key:IntKind.u64.wrap (bits BinOp.and IntKind.u64 (x:Int) (IntKind.u64.wrap (-(x:Int))) * 285870213051353865) / 288230376151711744=(idx:Int))
  (hi:idx<64) (hk:k<64) (hcell:w.cell? ⟨6,idx,none⟩=some (.int .u8 k)) :
  Calls Tryz.prog 261 #[.int .u64 x] w fun e w'=>e=.returned (.int .i64 k)∧w=w':=by
 go_enter Tryz.func261,Tryz.ntmps261;go_wp2_with (simp only[key]);go_ret;exact⟨rfl,rfl⟩
theorem q3U (w:World) (idx k:Nat) (hi:idx<64) (htab:Lib.deBruijn64tab.getD idx 0=k) (hT:Lib.TabIs Tryz.prog w "math/bits.deBruijn64tab" .u8 (Lib.deBruijn64tab.map Int.ofNat)) :
  w.cell? ⟨6,idx,none⟩=some (.int .u8 k):=by
 have hlen:Lib.deBruijn64tab.length=64:=by decide
 have hcell:=hT.cell (g:=6) (by kernel_rfl) idx (by rw[List.length_map,hlen];exact hi);rw[hcell];simp only[List.getD_eq_getElem?_getD,List.getElem?_map] at htab ⊢;rw[List.getElem?_eq_getElem (by omega)] at htab ⊢;simp only[Option.getD_some,Option.map_some] at htab ⊢;rw[htab];rfl
theorem q69 (x:Nat) (hx:x<18446744073709551616) (hx0:x≠0) (w:World) (hT:Lib.TabIs Tryz.prog w "math/bits.deBruijn64tab" .u8 (Lib.deBruijn64tab.map Int.ofNat)) :
  Calls Tryz.prog 261 #[.int .u64 x] w fun e w'=>e=.returned (.int .i64 (Lib.ctz 64 x:Nat))∧w=w':=by
 obtain⟨hlow,hk⟩:=Lib.lowest_bit 64 x hx0 hx;obtain⟨hi,htab⟩:=Lib.deBruijn64_at _ hk;have hkey:=ja3 x _ hx hx0 hlow;generalize 2 ^ Lib.ctz 64 x * 285870213051353865 % 18446744073709551616 / 288230376151711744=idx at hi htab hkey;exact q7N x (Lib.ctz 64 x) idx w (by rw[beq_eq_false_iff_ne];omega) hkey hi hk (q3U w idx _ hi htab hT)
theorem qxT (u:Nat) (hu64:u<18446744073709551616) (w:World) (htab:Lib.TabIs Tryz.prog w "internal/strconv.uint64pow10" .u64 Lib.pow10Tab) :
  Calls Tryz.prog 262 #[.int .u64 u,.int .i64 10] w fun e w'=>e=.returned (.string ⟨(Lib.decDigits u).toArray⟩)∧∃ k os,w'=Go.Sort.grow (w.drewN k) os:=by
 by_cases hs:u<100
 ·go_enter Tryz.func262,Tryz.ntmps262;go_wp2_with (go_at_call 239;refine(Tryz.internal_strconv_small u hs _).mono ?_;rintro e w' ⟨rfl,rfl⟩);go_ret;exact⟨rfl,0,#[],by simp[World.drewN_zero]⟩
 ·have hu1:1≤u:=by omega
  have hnd20:Lib.nDigits u≤20:=by have:=Lib.numDigits_eq u hu1 hu64;split at this <;> omega
  have hb3:Lib.nDigits u≤24:=by omega
  have hal:Tryz.prog.arrayLen 280=24:=by simp[Program.arrayLen,Tryz.underlying280]
  have hsl1:∀ W,(Instr.sliceAt 280 (.pointer (some ⟨w.heap.size,0,none⟩)) none (some (.int .i64 (Lib.nDigits u:Int))) none).run Tryz.prog W=.ok (.slice (some ⟨w.heap.size,0,none⟩) (Lib.nDigits u) 24) W:=fun W=>by
   rw[run_sliceAt_array_h W 280 ⟨w.heap.size,0,none⟩ (by simp[Program.arrayLen,Program.elem,Tryz.underlying280]) .i64 (Lib.nDigits u:Int) (by omega) (by rw[hal];omega)];go_simp
  have hH0:=Lib.holds_zero0 w 280 (Lib.nDigits u) (by omega);have hfmt:=Tryz.internal_strconv_formatBase10 w.heap.size 0 24 u (Array.replicate (Lib.nDigits u) 0) (w.alloc (.cells Lib.zeros24 280)) hH0 (by rw[Array.size_replicate];exact Lib.lt_pow_nDigits u) hu64 (by rw[Array.size_replicate];omega);rw[Array.size_replicate] at hfmt;have HH0:=hid hH0;clear hH0 hal;go_enter Tryz.func262,Tryz.ntmps262;go_wp2_with (first
   | (go_at_call 240;refine(Tryz.internal_strconv_numDigits u hu1 hu64 _ (Lib.tabIs_alloc htab _)).mono ?_;rintro e w' ⟨rfl,rfl⟩))
  refine hfmt.mono ?_;rintro e w' ⟨rfl,k,v',dk,rfl,hF⟩;have hcv:(convert 22 9 (.slice (some ⟨w.heap.size,0,none⟩) (Lib.nDigits u) 24)).run Tryz.prog ((putRow (fun (b:UInt8)=>Value.int .u8 (b.toNat:Int)) (w.alloc (.cells Lib.zeros24 280)) w.heap.size 0 dk).drewN k)=.ok (.string ⟨(Lib.decDigits u).toArray⟩) ((putRow (fun (b:UInt8)=>Value.int .u8 (b.toNat:Int)) (w.alloc (.cells Lib.zeros24 280)) w.heap.size 0 dk).drewN k):=by
   have h:=run_convert_bytes_back (P:=Tryz.prog) ((putRow (fun (b:UInt8)=>Value.int .u8 (b.toNat:Int)) (w.alloc (.cells Lib.zeros24 280)) w.heap.size 0 dk).drewN k) 22 9 5 ⟨w.heap.size,0,none⟩ 24 (Lib.decDigits u) Tryz.underlying22 Tryz.underlying5 Tryz.underlying9 (fun j hj=>by
    rw[Lib.row_is_numeral hF j hj,Lib.add_plain,World.cell?_drewN];exact cell?_putRow (fun (b:UInt8)=>Value.int .u8 (b.toNat:Int)) _ w.heap.size 0 _ dk HH0.out (by rw[hF.size,Array.size_replicate]) j (by rw[hF.size];rw[Lib.decDigits_length] at hj;exact hj))
   rw[Lib.decDigits_length] at h;exact h
  go_wp2;go_ret;obtain⟨os,eo⟩:=Lib.fin_at w (.cells Lib.zeros24 280) dk k 0;exact⟨rfl,k,os,eo⟩
theorem qtG (u:Nat) (hu64:u<18446744073709551616) (w:World) (hG:qk3 w) :
  Calls Tryz.prog 244 #[.int .u64 u,.int .i64 10] w fun e w'=>e=.returned (.string ⟨(Lib.decDigits u).toArray⟩)∧Below w.heap.size w w':=by
 go_enter Tryz.func244,Tryz.ntmps244;go_wp2_with fail;refine(qxT u hu64 w hG.2.1).mono ?_;rintro e w' ⟨rfl,k,os,rfl⟩;have HB:=hid (qi7 w k os);go_wp2_with fail;go_ret;exact⟨rfl,HB.out⟩
theorem qxU (n:Int) (h0:-9223372036854775808≤n) (h1:n≤9223372036854775807) (w:World) (hG:qk3 w) :
  Calls Tryz.prog 187 #[.int .i64 n,.int .i64 10] w fun e w'=>e=.returned (.string ⟨(Lib.itoa n).toArray⟩)∧Below w.heap.size w w' :=
 (Tryz.strconv_FormatInt_10 n h0 h1 w hG.2.1).mono fun e w' ⟨he,k,os,h⟩=>⟨he,by rw[h];exact qi7 w k os⟩
theorem q51 (n:Int) (h0:-9223372036854775808≤n) (h1:n≤9223372036854775807) (w:World) (hG:qk3 w) :
  Calls Tryz.prog 245 #[.int .i64 n] w fun e w'=>e=.returned (.string ⟨(Lib.itoa n).toArray⟩)∧Below w.heap.size w w' :=
 (Tryz.strconv_Itoa n h0 h1 w hG.2.1).mono fun e w' ⟨he,k,os,h⟩=>⟨he,by rw[h];exact qi7 w k os⟩
end Go.Proofs.YtenlhcgpajphhaaGreatDoor
namespace Go.Proofs.YtenlhcgpajphhaaGreatDoor
open Go.RowKit
set_option linter.all false
set_option maxHeartbeats 400000
set_option maxRecDepth 100000 in
theorem qwL (s:ByteArray) (w:World) (hs:s.size≤256) :
  Calls Tryz.prog 189 #[.string s] w fun e w'=>e=.returned (.string ⟨(qdI s.data.toList).toArray⟩)∧Below w.heap.size w w':=by
 obtain⟨i0,hi,hz0,hz1,hz2⟩:=info_parts q8Q;go_enter Tryz.func189,Tryz.ntmps189;go_wp2
 go_loopw [3,9] (fun q i wr=>∃ k:Nat,k≤s.size∧i=.int .i64 k∧wr.ownsRow w.heap.size 5 1 q (qfQ (s.data.toList.take k)).length (u8s (qfQ (s.data.toList.take k)))∧Below w.heap.size w wr)
  (fun _ i _=>s.size-(intOf i).toNat)
 case atStart =>
  refine⟨0,Nat.zero_le _,rfl,?_,(Below.refl _ _).alloc (Nat.le_refl _) _⟩;exact⟨by simp[qf1],.inr ⟨w.heap.size,1,_,rfl,Nat.le_refl _,heap_alloc_new w _,by simp[qfQ],by unfold maxLen;omega,rfl,by simp[qfQ,u8s]⟩⟩
 case round =>
  obtain⟨k,hk,rfl,hown,hbel⟩:=hrel;have hz:=hbel.size;have hql:(qfQ (s.data.toList.take k)).length≤1100:=by
   have:=quM (s.data.toList.take k);have:(s.data.toList.take k).length≤k:=List.length_take_le _ _;omega
  by_cases hlt:k<s.size
  ·have hcl:=(s[k]'hlt).toNat_lt;by_cases h1:(s[k]'hlt).toNat=34∨(s[k]'hlt).toNat=92
   ·have H1:Hid ((s[k]'hlt).toNat=34∨(s[k]'hlt).toNat=92):=h1;by_cases h4:(s[k]'hlt).toNat=34
    ·have hb1:(((s[k]'hlt).toNat:Int)==34)=true:=by simp;omega
     clear h1 h4;go_wp2_with (at_builtin;refine wpList_append_own _ rfl _ _ 22 rfl w.heap.size 5 i0 (.int .u8 0) 1 1 Tryz.underlying22 hi hz0 hz1 hz2 rfl (by decide) _ _ _ rfl (hown.alloc _) ⟨wr.heap.size,0,none⟩ 2 2 (u8s [92,s[k]'hlt]) rfl rfl (qfF _ _ _) (qhU _) (by unfold maxLen;omega) (by omega) (by simp;omega) ?_);intro v' w1 hown' hgrow _;have R:=qkQ (B:=w.heap.size) hlt (qqV _ H1.out) hown' hbel hgrow hown;clear hown' hgrow hown hbel;go_wp2;go_roundw
     case rel=>exact⟨k+1,by omega,by go_num,R.1,R.2⟩
     case measure=>simp[intOf];omega
    ·have hb1:(((s[k]'hlt).toNat:Int)==34)=false:=by simp;omega
     have hb2:(((s[k]'hlt).toNat:Int)==92)=true:=by simp;omega
     clear h1 h4;go_wp2_with (at_builtin;refine wpList_append_own _ rfl _ _ 22 rfl w.heap.size 5 i0 (.int .u8 0) 1 1 Tryz.underlying22 hi hz0 hz1 hz2 rfl (by decide) _ _ _ rfl (hown.alloc _) ⟨wr.heap.size,0,none⟩ 2 2 (u8s [92,s[k]'hlt]) rfl rfl (qfF _ _ _) (qhU _) (by unfold maxLen;omega) (by omega) (by simp;omega) ?_);intro v' w1 hown' hgrow _;have R:=qkQ (B:=w.heap.size) hlt (qqV _ H1.out) hown' hbel hgrow hown;clear hown' hgrow hown hbel;go_wp2;go_roundw
     case rel=>exact⟨k+1,by omega,by go_num,R.1,R.2⟩
     case measure=>simp[intOf];omega
   ·have hb1:(((s[k]'hlt).toNat:Int)==34)=false:=by simp;omega
    have hb2:(((s[k]'hlt).toNat:Int)==92)=false:=by simp;omega
    have H1:Hid (¬ ((s[k]'hlt).toNat=34∨(s[k]'hlt).toNat=92)):=h1;clear h1;by_cases h2:32≤(s[k]'hlt).toNat∧(s[k]'hlt).toNat≤126
    ·have H2:Hid (32≤(s[k]'hlt).toNat∧(s[k]'hlt).toNat≤126):=h2;have d1:decide ((32:Int)≤((s[k]'hlt).toNat:Int))=true:=by rw[decide_eq_true_eq];omega
     have d2:decide (((s[k]'hlt).toNat:Int)≤126)=true:=by rw[decide_eq_true_eq];omega
     clear h2;go_wp2_with (at_builtin;refine wpList_append_own _ rfl _ _ 22 rfl w.heap.size 5 i0 (.int .u8 0) 1 1 Tryz.underlying22 hi hz0 hz1 hz2 rfl (by decide) _ _ _ rfl (hown.alloc _) ⟨wr.heap.size,0,none⟩ 1 1 (u8s [s[k]'hlt]) rfl rfl (qfF _ _ _) (qhU _) (by unfold maxLen;omega) (by omega) (by simp;omega) ?_);intro v' w1 hown' hgrow _;have R:=qkQ (B:=w.heap.size) hlt (qsR _ H1.out H2.out) hown' hbel hgrow hown;clear hown' hgrow hown hbel;go_wp2;go_roundw
     case rel=>exact⟨k+1,by omega,by go_num,R.1,R.2⟩
     case measure=>simp[intOf];omega
    ·have H2:Hid (¬ (32≤(s[k]'hlt).toNat∧(s[k]'hlt).toNat≤126)):=h2;have hd:(decide ((32:Int)≤((s[k]'hlt).toNat:Int))=false)∨(decide ((32:Int)≤((s[k]'hlt).toNat:Int))=true∧decide (((s[k]'hlt).toNat:Int)≤126)=false):=by
      simp only[decide_eq_true_eq,decide_eq_false_iff_not];omega
     clear h2;rcases hd with d1|⟨d1,d2⟩
     all_goals
      go_wp2_with fail;have b1:(0:Int)≤((s[k]'hlt).toNat:Int) / 16:=by omega
      have b2:((s[k]'hlt).toNat:Int) / 16<16:=by omega
      have b3:(0:Int)≤((s[k]'hlt).toNat:Int) % 16:=by omega
      have b4:((s[k]'hlt).toNat:Int) % 16<16:=by omega
      have a1:=jd3 (s[k]'hlt).toNat hcl;have x1:=qvM (((s[k]'hlt).toNat:Int) / 16) ((s[k]'hlt).toNat / 16) (by omega) (by omega);have x2:=qvM (((s[k]'hlt).toNat:Int) % 16) ((s[k]'hlt).toNat % 16) (by omega) (by omega)
      go_region_law ((refine qkH rfl (.tmp 15) (.tmp 22) 22 rfl w.heap.size 5 i0 (.int .u8 0) 1 1 Tryz.underlying22 hi hz0 hz1 hz2 rfl (by decide) u3 _ _ rfl (hown.drew.alloc _) ⟨wr.heap.size,0,none⟩ 4 4 (u8s [92,120,qb6 ((s[k]'hlt).toNat / 16),qb6 ((s[k]'hlt).toNat % 16)]) rfl rfl (qfF _ _ _) (qhU _) (by unfold maxLen;omega) (by omega) (by simp;omega) ?_;intro v' w1 hown' hgrow))
      all_goals
       have hgrow':(wr.alloc (.cells (u8s [92,120,qb6 ((s[k]'hlt).toNat / 16),qb6 ((s[k]'hlt).toNat % 16)]).toArray 5)).grownBy w1 u3.ownBlock:=⟨hgrow.os,hgrow.tape,hgrow.output,hgrow.size,hgrow.block⟩
       have R:=qkQ (B:=w.heap.size) hlt (q0E _ H1.out H2.out) hown' hbel hgrow' hown;clear hown' hgrow hgrow' hown hbel x1 x2 a1;go_wp2;go_roundw
       case rel=>exact⟨k+1,by omega,by go_num,R.1,R.2⟩
       case measure=>simp[intOf];omega
  ·go_wp2_with (at_builtin;refine wpList_append_own _ rfl _ _ 22 rfl w.heap.size 5 i0 (.int .u8 0) 1 1 Tryz.underlying22 hi hz0 hz1 hz2 rfl (by decide) _ _ _ rfl (hown.alloc _) ⟨wr.heap.size,0,none⟩ 1 1 (u8s [34]) rfl rfl (qfF _ _ _) (qhU _) (by unfold maxLen;omega) (by omega) (by simp;omega) ?_);intro v' w1 hown' hgrow _;have hk2:s.data.toList.take k=s.data.toList:=List.take_of_length_le (by simp;omega);rw[hk2,show u8s (qfQ s.data.toList)++u8s [34]=u8s (qdI s.data.toList) from by simp[qdI,qf2]] at hown';have hb1:Below w.heap.size w w1:=(hbel.alloc hz _).grown hgrow (by simp;omega) (fun b hb=>(hown.lt b hb).1);obtain⟨g,cap,rfl⟩:=ownsRow_succ hown';have hcv:=qnL hown' Tryz.underlying22 Tryz.underlying5 Tryz.underlying9;clear hown' hgrow hown hbel;go_wp2;go_ret;exact⟨rfl,hb1⟩
end Go.Proofs.YtenlhcgpajphhaaGreatDoor
