import Derived.Test.YtkpboalccpancaaGreatDoorMRefPart
import Derived.Test.YtkpboalccpancaaGreatDoorMRefReal2
import Derived.Test.YtkpboalccpancaaGreatDoorMVReal
import Derived.Deep.Cut
namespace Go.Proofs.YtkpboalccpancaaGreatDoor
open Go.RowKit
open Lib(hid)
set_option maxRecDepth 100000
set_option linter.all false
set_option maxHeartbeats 4000000
theorem own_form' {w:World} {base e N:Nat} {v:Value} {xs:List Value} (hown:w.ownsRow base e 1 v N xs):∃ ba bc,v=.slice ba N bc:=by
 rcases hown.2 with ⟨h,h0⟩|⟨g,cap,cur,h,_⟩
 ·exact⟨none,0,by rw[h,h0]⟩
 ·exact⟨_,_,h⟩
def partsF:Nat→List UInt8→Nat→List UInt8 × Nat
 | 0,_,i=>([],i)
 | f+1,l,i=>if (partF (l.drop i)).2=0 then ([],i) else ((partF (l.drop i)).1 :: (partsF f l (i+(partF (l.drop i)).2)).1,(partsF f l (i+(partF (l.drop i)).2)).2)
def refText (l:List UInt8) (A:Nat):Tok × Nat :=
 if (partsF (l.length+1) l (A+1)).2<l.length∧bAt l (partsF (l.length+1) l (A+1)).2=34∧(partsF (l.length+1) l (A+1)).1.length≤256 then
  (⟨4,(partsF (l.length+1) l (A+1)).1,0,0,A,(partsF (l.length+1) l (A+1)).2+1-A⟩,0)
 else (zeroTok,11)
def TRel (l:List UInt8) (A k:Nat) (bs:List UInt8) (f:Nat):Prop :=
 partsF (l.length+1) l (A+1)=(bs++(partsF f l k).1,(partsF f l k).2)∧bs.length+A+1≤k∧l.length+1≤f+(k-(A+1))∧k≤l.length
theorem TRel.step {l:List UInt8} {A k:Nat} {bs:List UInt8} {f:Nat} (h:TRel l A k bs f) (hA:A<l.length) {c:UInt8} {s:Nat} (hp:partF (l.drop k)=(c,s)) (hs:s≠0) :
  ∃ f',TRel l A (k+s) (bs++[c]) f'∧k+s≤l.length:=by
 obtain⟨h1,h2,h3,h4⟩:=h;have hle:=(partF_le (l.drop k)).1;rw[hp,List.length_drop] at hle;simp only at hle;have hks:k+s≤l.length:=by omega
 obtain⟨f',rfl⟩:∃ f',f=f'+1:=⟨f-1,by omega⟩
 refine⟨f',⟨?_,by simp;omega,by omega,hks⟩,hks⟩;rw[h1,partsF,hp,if_neg hs];simp
theorem TRel.stop {l:List UInt8} {A k:Nat} {bs:List UInt8} {f:Nat} (h:TRel l A k bs f) {c:UInt8} (hp:partF (l.drop k)=(c,0)):partsF (l.length+1) l (A+1)=(bs,k):=by
 obtain⟨h1,_⟩:=h;rw[h1];cases f with
 | zero=>simp[partsF]
 | succ f=>rw[partsF,hp,if_pos rfl];simp
theorem refText_any (a:Option Addr) (n cap A:Nat) (l:List UInt8) (w:World) (hT:Txt w a n cap l) (hr:n≤140737488351232) (hA:A<n) :
  Calls Tryz.prog 67 #[.slice a n cap,.int .i64 A] w fun e w'=>RTok (refText l A) w e w':=by
 have sf:∀ (p:Addr) (b:Nat) (m:Mode) (w':World),(store p (.float .f64 b) m).run Tryz.prog w'=stored Tryz.prog w' p (.float .f64 b) m:=fun p b m w'=>run_store _ w' p _ m rfl;have hl:=hT.1;obtain⟨i0,hi,hz0,hz1,hz2⟩:=info_parts info5';obtain⟨W0,hW0⟩:∃ W0,W0=w.alloc (.cells #[.int .i64 0,.string ⟨#[]⟩,.int .i64 0,.float .f64 0,.int .i64 0,.int .i64 0] 59):=⟨_,rfl⟩
 have hB0:Below w.heap.size w W0:=by rw[hW0];exact(Below.refl w.heap.size w).alloc (Nat.le_refl _) _
 have hz:W0.heap.size=w.heap.size+1:=by rw[hW0];simp
 have hg:W0.heap[w.heap.size]?=some (.cells #[.int .i64 0,.string ⟨#[]⟩,.int .i64 0,.float .f64 0,.int .i64 0,.int .i64 0] 59 (0,0)):=by rw[hW0];exact heap_alloc_new w _
 have hfz:∀ j,W0.frozen? ⟨w.heap.size,j,none⟩=false:=by intro j;rw[hW0];simp
 have HT0:Hid (∀ W,Below W0.heap.size W0 W→Txt W a n cap l):=by
  have:∀ W,Below W0.heap.size W0 W→Txt W a n cap l:=fun W hW=>hT.below (hB0.trans (hW.mono (by omega))) (Nat.le_refl _);exact this
 have HW0:=hid hW0;have HB0:=hid hB0;have HZ:=hid hz;have HG0:=hid hg;have HFZ:=hid hfz;have HL:=hid hl;clear hT hl hW0 hB0 hz hg hfz;go_enter Tryz.func67,Tryz.ntmps67;go_wp2_with fail;rw[← HW0.out]
 go_loopw [6,7] (fun i b wr=>∃ (k:Nat) (bs:List UInt8) (f:Nat),i=.int .i64 k∧k≤n∧wr.ownsRow W0.heap.size 5 1 b bs.length (u8s bs)∧Hid (TRel l A k bs f)∧Below W0.heap.size W0 wr)
  (fun i _ _=>n-(intOf i).toNat)
 case atStart=>exact⟨A+1,[],l.length+1,by go_num,hA,World.ownsRow_nil _ _ _ _,⟨by simp,by simp,by omega,by rw[HL.out];exact hA⟩,Below.refl _ _⟩
 case round =>
  obtain⟨k,bs,f,rfl,hk,hown,hrel,hbr⟩:=hrel;have hsz:=hbr.size;have HBR:=hid hbr;have HOWN:=hid hown;have hlen:bs.length≤140737488351232:=by have:=hrel.out.2.1;omega
  have HP:=hid (refPart_any a n cap k l wr (HT0.out wr hbr) hr hk);clear hown hbr;go_wp2_with fail;refine HP.out.mono ?_;rintro e w5 ⟨rfl,q,rfl⟩;have hownd:(wr.drewN q).ownsRow W0.heap.size 5 1 _ bs.length (u8s bs):=HOWN.out;have hbd:Below W0.heap.size W0 (wr.drewN q):=below_drewN HBR.out q;have hzd:W0.heap.size≤(wr.drewN q).heap.size:=hbd.size;generalize wr.drewN q=wd at hownd hbd hzd ⊢;obtain⟨⟨c,s⟩,hp⟩:∃ p,p=partF (l.drop k):=⟨_,rfl⟩
  rw[← hp];have HBD:=hid hbd;have HOD:=hid hownd;clear hbd hownd HP HBR HOWN;rcases Nat.eq_zero_or_pos s with rfl|hs
  ·obtain⟨ba,bc,rfl⟩  :=own_form' HOD.out;have hst:=hrel.out.stop hp.symm;have HTX:=hid (txt_of_owned HOD.out);have hcv:=text_of HTX.out;have cq:∀ j,wd.cell? ⟨w.heap.size,j,none⟩=W0.cell? ⟨w.heap.size,j,none⟩:=fun j=>HBD.out.cell (p:=⟨w.heap.size,j,none⟩) (by rw[HZ.out];simp);have fq:∀ j,wd.frozen? ⟨w.heap.size,j,none⟩=false:=fun j=>(HBD.out.frozen (p:=⟨w.heap.size,j,none⟩) (by rw[HZ.out];simp)).trans (HFZ.out j);have z0:wd.cell? ⟨w.heap.size,0,none⟩=some (.int .i64 0):=by rw[cq];simp[World.cell?,HG0.out]
   have z1:wd.cell? ⟨w.heap.size,1,none⟩=some (.string ⟨#[]⟩):=by rw[cq];simp[World.cell?,HG0.out]
   have z2:wd.cell? ⟨w.heap.size,2,none⟩=some (.int .i64 0):=by rw[cq];simp[World.cell?,HG0.out]
   have z3:wd.cell? ⟨w.heap.size,3,none⟩=some (.float .f64 0):=by rw[cq];simp[World.cell?,HG0.out]
   have z4:wd.cell? ⟨w.heap.size,4,none⟩=some (.int .i64 0):=by rw[cq];simp[World.cell?,HG0.out]
   have z5:wd.cell? ⟨w.heap.size,5,none⟩=some (.int .i64 0):=by rw[cq];simp[World.cell?,HG0.out]
   have f0:=fq 0;have f1:=fq 1;have f2:=fq 2;have f3:=fq 3;have f4:=fq 4;have f5:=fq 5;have HBW:=hid (HB0.out.trans (HBD.out.mono (by rw[HZ.out];omega)));have hTd:=HT0.out wd HBD.out;have hkA:A+1≤k:=by have:=hrel.out.2.1;omega
   have hway:(refText l A=(zeroTok,11)∧(n≤k∨(k<n∧bAt l k≠34)∨(k<n∧bAt l k=34∧256<bs.length)))∨(k<n∧bAt l k=34∧bs.length≤256∧refText l A=(⟨4,bs,0,0,A,k+1-A⟩,0)):=by
    unfold refText;rw[hst,HL.out];by_cases h:k<n∧bAt l k=34∧bs.length≤256
    ·right;exact⟨h.1,h.2.1,h.2.2,by rw[if_pos h]⟩
    ·left;refine⟨by rw[if_neg h],?_⟩;rcases Nat.lt_or_ge k n with h1|h1
     ·by_cases h2:bAt l k=34
      ·exact .inr (.inr ⟨h1,h2,Nat.lt_of_not_le fun h3=>h ⟨h1,h2,h3⟩⟩)
      ·exact .inr (.inl ⟨h1,h2⟩)
     ·exact .inl h1
   clear hst cq fq hp hrel;rcases hway with ⟨hq,h1|⟨h1,h2⟩|⟨h1,h2,h3⟩⟩|⟨h1,h2,h3,hq⟩
   ·have HQ:=hid hq;have d1:decide (n≤k)=true:=by rw[decide_eq_true_eq];exact h1
    clear hq h1 hTd;go_wp2_with fail;refine bodyPost_ret (v:=.tuple #[.agg #[.int .i64 0,.string ⟨#[]⟩,.int .i64 0,.float .f64 0,.int .i64 0,.int .i64 0],.int .i64 11]) (by simp[results,Tryz.results67,go_sem,z0,z1,z2,z3,z4,z5]) rfl ?_;rw[HQ.out];exact⟨rfl,below_six HBW.out _ _ _ _ _ _ (by simp) (by simp) (by simp) (by simp) (by simp) (by simp)⟩
   ·have HQ:=hid hq;obtain⟨b',o',rfl,hck⟩:=hTd.cellAt h1;have d1:decide (n≤k)=false:=by rw[decide_eq_false_iff_not];omega
    have d2:(((bAt l k).toNat:Int) != 34)=true:=u8_neqn (d:=34) h2;clear hq h2 hTd;go_wp2_with fail;refine bodyPost_ret (v:=.tuple #[.agg #[.int .i64 0,.string ⟨#[]⟩,.int .i64 0,.float .f64 0,.int .i64 0,.int .i64 0],.int .i64 11]) (by simp[results,Tryz.results67,go_sem,z0,z1,z2,z3,z4,z5]) rfl ?_;rw[HQ.out];exact⟨rfl,below_six HBW.out _ _ _ _ _ _ (by simp) (by simp) (by simp) (by simp) (by simp) (by simp)⟩
   ·have HQ:=hid hq;obtain⟨b',o',rfl,hck⟩:=hTd.cellAt h1;rw[h2] at hck;simp only[show (((34:UInt8).toNat:Nat):Int)=34 from rfl] at hck;have d1:decide (n≤k)=false:=by rw[decide_eq_false_iff_not];omega
    have d3:decide ((256:Int)<(bs.length:Int))=true:=by rw[decide_eq_true_eq];omega
    have d3':decide (256<bs.length)=true:=by rw[decide_eq_true_eq];omega
    clear hq h2 h3 hTd;go_wp2_with fail;refine bodyPost_ret (v:=.tuple #[.agg #[.int .i64 0,.string ⟨#[]⟩,.int .i64 0,.float .f64 0,.int .i64 0,.int .i64 0],.int .i64 11]) (by simp[results,Tryz.results67,go_sem,z0,z1,z2,z3,z4,z5]) rfl ?_;rw[HQ.out];exact⟨rfl,below_six HBW.out _ _ _ _ _ _ (by simp) (by simp) (by simp) (by simp) (by simp) (by simp)⟩
   ·have HQ:=hid hq;obtain⟨b',o',rfl,hck⟩:=hTd.cellAt h1;rw[h2] at hck;simp only[show (((34:UInt8).toNat:Nat):Int)=34 from rfl] at hck;have d1:decide (n≤k)=false:=by rw[decide_eq_false_iff_not];omega
    have d3:decide ((256:Int)<(bs.length:Int))=false:=by rw[decide_eq_false_iff_not];omega
    have d3':decide (256<bs.length)=false:=by rw[decide_eq_false_iff_not];omega
    clear hq h2 h3 hTd;go_wp2_with fail;refine bodyPost_ret (v:=.tuple #[.agg #[.int .i64 4,.string ⟨bs.toArray⟩,.int .i64 0,.float .f64 0,.int .i64 A,.int .i64 (k+1-A)],.int .i64 0]) (by simp[results,Tryz.results67,go_sem,z0,z1,z2,z3,z4,z5]) rfl ?_;rw[HQ.out];refine⟨by simp only[tokVal];rw[show ((k+1-A:Nat):Int)=(k:Int)+1-A by omega];rfl,?_⟩;exact below_six HBW.out _ _ _ _ _ _ (by simp) (by simp) (by simp) (by simp) (by simp) (by simp)
  ·obtain⟨f',hrel',hks⟩:=hrel.out.step (by rw[HL.out];exact hA) hp.symm (by omega);have HREL:=hid hrel';have hks':k+s≤n:=by rw[← HL.out];exact hks
   have hz9:((s:Int)==0)=false:=by rw[beq_eq_false_iff_ne];omega
   clear hp hrel hrel' hks;go_wp2_with (at_builtin;refine wpList_append_own _ rfl _ _ 22 rfl W0.heap.size 5 i0 (.int .u8 0) 1 1 Tryz.underlying22 hi hz0 hz1 hz2 rfl (by decide) _ _ _ rfl (HOD.out.alloc _) ⟨wd.heap.size,0,none⟩ 1 1 (u8s [c]) rfl rfl (cells_new _ _ _) (u8s_one _) (by unfold maxLen;omega) (by omega) (by simp;omega) ?_);intro v2 w8 hown2 hgrow2 _;have hb8:Below W0.heap.size W0 w8:=(HBD.out.alloc hzd _).grown hgrow2 (by simp;omega) (fun b hb=>(HOD.out.lt b hb).1);rw[← u8s_append] at hown2;have HB8:=hid hb8;have HO8:Hid (w8.ownsRow W0.heap.size 5 1 v2 (bs++[c]).length (u8s (bs++[c]))):=by
    have:w8.ownsRow W0.heap.size 5 1 v2 (bs++[c]).length (u8s (bs++[c])):=by rw[List.length_append];exact hown2
    exact this
   clear hb8 hgrow2 hown2;go_wp2_with fail;go_roundw
   case rel=>exact⟨k+s,bs++[c],f',by go_num,hks',HO8.out,HREL,HB8.out⟩
   case measure=>simp[intOf];omega
def isMarkB (l:List UInt8):Bool:=l==[40] || l==[41] || l==[123] || l==[125] || l==[44] || l==[59] || l==[58] || l==[46] || l==[38] || l==[43] || l==[45] || l==[42] || l==[47] || l==[37] || l==[60] || l==[62] || l==[33] || l==[61] || l==[95] || l==[61,61] || l==[33,61] || l==[60,61] || l==[62,61] || l==[38,38] || l==[124,124] || l==[45,62]
theorem refMark_any (s:ByteArray) (w:World):Calls Tryz.prog 68 #[.string s] w fun e w'=>e=.returned (.bool (isMarkB s.toList))∧w=w':=by
 unfold isMarkB;cases f0:(s.toList==[40])
 case true =>
  go_enter Tryz.func68,Tryz.ntmps68;go_wp2;go_ret;exact⟨by simp only[Bool.or_true,Bool.true_or,Bool.or_false,Bool.false_or];rfl,rfl⟩
 cases f1:(s.toList==[41])
 case true =>
  go_enter Tryz.func68,Tryz.ntmps68;go_wp2;go_ret;exact⟨by simp only[Bool.or_true,Bool.true_or,Bool.or_false,Bool.false_or];rfl,rfl⟩
 cases f2:(s.toList==[123])
 case true =>
  go_enter Tryz.func68,Tryz.ntmps68;go_wp2;go_ret;exact⟨by simp only[Bool.or_true,Bool.true_or,Bool.or_false,Bool.false_or];rfl,rfl⟩
 cases f3:(s.toList==[125])
 case true =>
  go_enter Tryz.func68,Tryz.ntmps68;go_wp2;go_ret;exact⟨by simp only[Bool.or_true,Bool.true_or,Bool.or_false,Bool.false_or];rfl,rfl⟩
 cases f4:(s.toList==[44])
 case true =>
  go_enter Tryz.func68,Tryz.ntmps68;go_wp2;go_ret;exact⟨by simp only[Bool.or_true,Bool.true_or,Bool.or_false,Bool.false_or];rfl,rfl⟩
 cases f5:(s.toList==[59])
 case true =>
  go_enter Tryz.func68,Tryz.ntmps68;go_wp2;go_ret;exact⟨by simp only[Bool.or_true,Bool.true_or,Bool.or_false,Bool.false_or];rfl,rfl⟩
 cases f6:(s.toList==[58])
 case true =>
  go_enter Tryz.func68,Tryz.ntmps68;go_wp2;go_ret;exact⟨by simp only[Bool.or_true,Bool.true_or,Bool.or_false,Bool.false_or];rfl,rfl⟩
 cases f7:(s.toList==[46])
 case true =>
  go_enter Tryz.func68,Tryz.ntmps68;go_wp2;go_ret;exact⟨by simp only[Bool.or_true,Bool.true_or,Bool.or_false,Bool.false_or];rfl,rfl⟩
 cases f8:(s.toList==[38])
 case true =>
  go_enter Tryz.func68,Tryz.ntmps68;go_wp2;go_ret;exact⟨by simp only[Bool.or_true,Bool.true_or,Bool.or_false,Bool.false_or];rfl,rfl⟩
 cases f9:(s.toList==[43])
 case true =>
  go_enter Tryz.func68,Tryz.ntmps68;go_wp2;go_ret;exact⟨by simp only[Bool.or_true,Bool.true_or,Bool.or_false,Bool.false_or];rfl,rfl⟩
 cases f10:(s.toList==[45])
 case true =>
  go_enter Tryz.func68,Tryz.ntmps68;go_wp2;go_ret;exact⟨by simp only[Bool.or_true,Bool.true_or,Bool.or_false,Bool.false_or];rfl,rfl⟩
 cases f11:(s.toList==[42])
 case true =>
  go_enter Tryz.func68,Tryz.ntmps68;go_wp2;go_ret;exact⟨by simp only[Bool.or_true,Bool.true_or,Bool.or_false,Bool.false_or];rfl,rfl⟩
 cases f12:(s.toList==[47])
 case true =>
  go_enter Tryz.func68,Tryz.ntmps68;go_wp2;go_ret;exact⟨by simp only[Bool.or_true,Bool.true_or,Bool.or_false,Bool.false_or];rfl,rfl⟩
 cases f13:(s.toList==[37])
 case true =>
  go_enter Tryz.func68,Tryz.ntmps68;go_wp2;go_ret;exact⟨by simp only[Bool.or_true,Bool.true_or,Bool.or_false,Bool.false_or];rfl,rfl⟩
 cases f14:(s.toList==[60])
 case true =>
  go_enter Tryz.func68,Tryz.ntmps68;go_wp2;go_ret;exact⟨by simp only[Bool.or_true,Bool.true_or,Bool.or_false,Bool.false_or];rfl,rfl⟩
 cases f15:(s.toList==[62])
 case true =>
  go_enter Tryz.func68,Tryz.ntmps68;go_wp2;go_ret;exact⟨by simp only[Bool.or_true,Bool.true_or,Bool.or_false,Bool.false_or];rfl,rfl⟩
 cases f16:(s.toList==[33])
 case true =>
  go_enter Tryz.func68,Tryz.ntmps68;go_wp2;go_ret;exact⟨by simp only[Bool.or_true,Bool.true_or,Bool.or_false,Bool.false_or];rfl,rfl⟩
 cases f17:(s.toList==[61])
 case true =>
  go_enter Tryz.func68,Tryz.ntmps68;go_wp2;go_ret;exact⟨by simp only[Bool.or_true,Bool.true_or,Bool.or_false,Bool.false_or];rfl,rfl⟩
 cases f18:(s.toList==[95])
 case true =>
  go_enter Tryz.func68,Tryz.ntmps68;go_wp2;go_ret;exact⟨by simp only[Bool.or_true,Bool.true_or,Bool.or_false,Bool.false_or];rfl,rfl⟩
 cases f19:(s.toList==[61,61])
 case true =>
  go_enter Tryz.func68,Tryz.ntmps68;go_wp2;go_ret;exact⟨by simp only[Bool.or_true,Bool.true_or,Bool.or_false,Bool.false_or];rfl,rfl⟩
 cases f20:(s.toList==[33,61])
 case true =>
  go_enter Tryz.func68,Tryz.ntmps68;go_wp2;go_ret;exact⟨by simp only[Bool.or_true,Bool.true_or,Bool.or_false,Bool.false_or];rfl,rfl⟩
 cases f21:(s.toList==[60,61])
 case true =>
  go_enter Tryz.func68,Tryz.ntmps68;go_wp2;go_ret;exact⟨by simp only[Bool.or_true,Bool.true_or,Bool.or_false,Bool.false_or];rfl,rfl⟩
 cases f22:(s.toList==[62,61])
 case true =>
  go_enter Tryz.func68,Tryz.ntmps68;go_wp2;go_ret;exact⟨by simp only[Bool.or_true,Bool.true_or,Bool.or_false,Bool.false_or];rfl,rfl⟩
 cases f23:(s.toList==[38,38])
 case true =>
  go_enter Tryz.func68,Tryz.ntmps68;go_wp2;go_ret;exact⟨by simp only[Bool.or_true,Bool.true_or,Bool.or_false,Bool.false_or];rfl,rfl⟩
 cases f24:(s.toList==[124,124])
 case true =>
  go_enter Tryz.func68,Tryz.ntmps68;go_wp2;go_ret;exact⟨by simp only[Bool.or_true,Bool.true_or,Bool.or_false,Bool.false_or];rfl,rfl⟩
 cases f25:(s.toList==[45,62])
 case true =>
  go_enter Tryz.func68,Tryz.ntmps68;go_wp2;go_ret;exact⟨by simp only[Bool.or_true,Bool.true_or,Bool.or_false,Bool.false_or];rfl,rfl⟩
 go_enter Tryz.func68,Tryz.ntmps68;go_wp2;go_ret;exact⟨by simp only[Bool.or_false,Bool.false_or];rfl,rfl⟩
def refName (l:List UInt8) (A:Nat):Tok × Nat :=
 if 32<1+tw wordB l (A+1) then (zeroTok,13) else (⟨1,(l.drop A).take (1+tw wordB l (A+1)),0,0,A,1+tw wordB l (A+1)⟩,0)
theorem word_ways (c:UInt8):(wordB c=true∧(letterB c=true∨(letterB c=false∧digitB c=true)∨(letterB c=false∧digitB c=false∧((c.toNat:Int)==95)=true)))∨(wordB c=false∧letterB c=false∧digitB c=false∧((c.toNat:Int)==95)=false):=by
 have f95:(c==95)=((c.toNat:Int)==95):=by
  obtain⟨j1,j2⟩:=u8_is (c:=c) (k:=95) (by decide);by_cases h95:c=95
  ·have:=(j1 h95).1;rw[show ((95:Nat):Int)=95 from rfl] at this;rw[this,h95];rfl
  ·have:=(j2 h95).1;rw[show ((95:Nat):Int)=95 from rfl] at this;rw[this,beq_eq_false_iff_ne];exact h95
 unfold wordB;rw[f95];cases letterB c <;> cases digitB c <;> cases ((c.toNat:Int)==95) <;> simp
theorem refTok_name (a:Option Addr) (n cap A:Nat) (l:List UInt8) (w:World) (hT:Txt w a n cap l) (hr:n≤140737488351232) (hA:A<n) (hc:letterB (bAt l A)=true) :
  Calls Tryz.prog 43 #[.slice a n cap,.int .i64 A] w fun e w'=>RTok (refName l A) w e w':=by
 have sf:∀ (p:Addr) (b:Nat) (m:Mode) (w':World),(store p (.float .f64 b) m).run Tryz.prog w'=stored Tryz.prog w' p (.float .f64 b) m:=fun p b m w'=>run_store _ w' p _ m rfl;have hl:=hT.1;obtain⟨b,o,rfl,hc0⟩:=hT.cellAt hA;have hb:b<w.heap.size:=World.block_lt_of_cell? w _ hc0;have hL0:=fun W=>refLetter_any (bAt l A) W;rw[hc] at hL0;have HL0:=hid hL0;have HD0:=hid (fun W=>refDigit_any (bAt l A) W);have HT:=hid hT;have HL:=hid hl;clear hL0 hT hl hc;go_enter Tryz.func43,Tryz.ntmps43;go_wp2_with (first|((go_at_call 64;with_reducible refine(HL0.out _).mono ?_);rintro e w' ⟨rfl,rfl⟩)|((go_at_call 65;with_reducible refine(HD0.out _).mono ?_);rintro e w' ⟨rfl,rfl⟩));clear hc0;go_loop [6] (fun i=>∃ j:Nat,1≤j∧A+j≤n∧i=.int .i64 j∧Hid (tw wordB l (A+1)=(j-1)+tw wordB l (A+j))) (fun i=>n-(intOf i).toNat)
 case atStart=>exact⟨1,Nat.le_refl _,hA,rfl,by show tw wordB l (A+1)=(1-1)+tw wordB l (A+1);omega⟩
 case round =>
  obtain⟨j,hj1,hj,rfl,hg⟩:=hrel;have hend:(A+j=n∨(A+j<n∧wordB (bAt l (A+j))=false))∨(A+j<n∧wordB (bAt l (A+j))=true):=by
   rcases Nat.lt_or_ge (A+j) n with h|h
   ·cases hw:wordB (bAt l (A+j))
    ·exact .inl (.inr ⟨h,rfl⟩)
    ·exact .inr ⟨h,rfl⟩
   ·exact .inl (.inl (by omega))
  rcases hend with hend|⟨h1,h2⟩
  ·have hN:tw wordB l (A+1)=j-1:=by
    rw[hg.out];have:tw wordB l (A+j)=0:=by
     rcases hend with h|⟨_,h⟩
     ·have:=tw_le wordB l (A+j);rw[HL.out] at this;omega
     ·exact tw_no h
    omega
   have hnm:refName l A=if 32<j then (zeroTok,13) else (⟨1,(l.drop A).take j,0,0,A,j⟩,0):=by unfold refName;rw[hN,show 1+(j-1)=j by omega]
   obtain⟨a1,hs1,hT1⟩:=slice_mid A (A+j) HT.out (Nat.le_add_right _ _) hj;rw[Nat.add_sub_cancel_left] at hs1 hT1;have hs1':∀ w',(Instr.slice 22 (.slice (some ⟨b,o,none⟩) n cap) (some (.int .i64 (A:Int))) (some (.int .i64 ((A:Int)+(j:Int)))) none).run Tryz.prog w'=.ok (.slice a1 j (cap-A)) w':=hs1;have hcv:=text_of (hT1.below ((Below.refl w.heap.size w).alloc (Nat.le_refl _) (.cells #[.int .i64 0,.string ⟨#[]⟩,.int .i64 0,.float .f64 0,.int .i64 0,.int .i64 0] 59)) (Nat.le_refl _));have HNM:=hid hnm;clear hN hnm hs1 hT1 hg;have hf:(decide ((A:Int)+(j:Int)<(n:Int))=false∧decide (A+j<n)=false∧(∀ q:UInt8,True))∨(decide ((A:Int)+(j:Int)<(n:Int))=true∧decide (A+j<n)=true∧A+j<n∧w.cell? ⟨b,o+(A+j),none⟩=some (.int .u8 ((bAt l (A+j)).toNat:Int))∧letterB (bAt l (A+j))=false∧digitB (bAt l (A+j))=false∧(((bAt l (A+j)).toNat:Int)==95)=false):=by
    rcases hend with h|⟨h,h2⟩
    ·left;exact⟨by rw[decide_eq_false_iff_not];omega,by rw[decide_eq_false_iff_not];omega,fun _=>trivial⟩
    ·right;obtain⟨b',o',e,hck⟩:=HT.out.cellAt h;cases e;rcases word_ways (bAt l (A+j)) with ⟨e1,_⟩|⟨_,e2,e3,e4⟩
     ·rw[h2] at e1;cases e1
     ·exact⟨by rw[decide_eq_true_eq];omega,by rw[decide_eq_true_eq];omega,h,hck,e2,e3,e4⟩
   obtain⟨d,hd⟩:∃ d,d=bAt l (A+j):=⟨_,rfl⟩
   rw[← hd] at hf;have HLt':=fun W=>refLetter_any d W;have HDt':=fun W=>refDigit_any d W;have h32:(decide ((32:Int)<(j:Int))=true∧32<j)∨(decide ((32:Int)<(j:Int))=false∧¬ 32<j):=by
    by_cases h:32<j
    ·left;exact⟨by rw[decide_eq_true_eq];omega,h⟩
    ·right;exact⟨by rw[decide_eq_false_iff_not];omega,h⟩
   clear hend hd;rcases hf with ⟨q1,q2,_⟩|⟨q1,q2,q3,hck,e1,e2,e3⟩
   ·clear HLt' HDt';rcases h32 with ⟨g1,g2⟩|⟨g1,g2⟩
    ·have HF:Hid (refName l A=(zeroTok,13)):=by
      have:refName l A=(zeroTok,13):=by rw[HNM.out,if_pos g2]
      exact this
     clear g2;go_wp2_with fail;refine bodyPost_ret (v:=.tuple #[.agg #[.int .i64 0,.string ⟨#[]⟩,.int .i64 0,.float .f64 0,.int .i64 0,.int .i64 0],.int .i64 13]) (by simp[results,Tryz.results43,go_sem]) rfl ?_;rw[HF.out];exact⟨rfl,(Below.refl _ _).alloc (Nat.le_refl _) _⟩
    ·have HF:Hid (refName l A=(⟨1,(l.drop A).take j,0,0,A,j⟩,0)):=by
      have:refName l A=(⟨1,(l.drop A).take j,0,0,A,j⟩,0):=by rw[HNM.out,if_neg g2]
      exact this
     clear g2;go_wp2_with fail;refine bodyPost_ret (v:=.tuple #[.agg #[.int .i64 1,.string ⟨((l.drop A).take j).toArray⟩,.int .i64 0,.float .f64 0,.int .i64 A,.int .i64 j],.int .i64 0]) (by simp[results,Tryz.results43,go_sem]) rfl ?_;rw[HF.out];exact⟨rfl,(Below.refl _ _).alloc (Nat.le_refl _) _⟩
   ·rw[e1] at HLt';rw[e2] at HDt';have HLt:=hid HLt';have HDt:=hid HDt';clear HLt' HDt' e1 e2;rcases h32 with ⟨g1,g2⟩|⟨g1,g2⟩
    ·have HF:Hid (refName l A=(zeroTok,13)):=by
      have:refName l A=(zeroTok,13):=by rw[HNM.out,if_pos g2]
      exact this
     clear g2;go_wp2_with (first|((go_at_call 64;with_reducible refine(HLt.out _).mono ?_);rintro e w' ⟨rfl,rfl⟩)|((go_at_call 65;with_reducible refine(HDt.out _).mono ?_);rintro e w' ⟨rfl,rfl⟩));refine bodyPost_ret (v:=.tuple #[.agg #[.int .i64 0,.string ⟨#[]⟩,.int .i64 0,.float .f64 0,.int .i64 0,.int .i64 0],.int .i64 13]) (by simp[results,Tryz.results43,go_sem]) rfl ?_;rw[HF.out];exact⟨rfl,(Below.refl _ _).alloc (Nat.le_refl _) _⟩
    ·have HF:Hid (refName l A=(⟨1,(l.drop A).take j,0,0,A,j⟩,0)):=by
      have:refName l A=(⟨1,(l.drop A).take j,0,0,A,j⟩,0):=by rw[HNM.out,if_neg g2]
      exact this
     clear g2;go_wp2_with (first|((go_at_call 64;with_reducible refine(HLt.out _).mono ?_);rintro e w' ⟨rfl,rfl⟩)|((go_at_call 65;with_reducible refine(HDt.out _).mono ?_);rintro e w' ⟨rfl,rfl⟩));refine bodyPost_ret (v:=.tuple #[.agg #[.int .i64 1,.string ⟨((l.drop A).take j).toArray⟩,.int .i64 0,.float .f64 0,.int .i64 A,.int .i64 j],.int .i64 0]) (by simp[results,Tryz.results43,go_sem]) rfl ?_;rw[HF.out];exact⟨rfl,(Below.refl _ _).alloc (Nat.le_refl _) _⟩
  ·obtain⟨b',o',e,hck⟩:=HT.out.cellAt h1;cases e;have HG2:Hid (tw wordB l (A+1)=(j+1-1)+tw wordB l (A+(j+1))):=by
    have:tw wordB l (A+1)=(j+1-1)+tw wordB l (A+(j+1)):=by
     rw[hg.out,(tw_yes h2 word0).2,← Nat.add_assoc A j 1];omega
    exact this
   have hw:=word_ways (bAt l (A+j));obtain⟨d,hd⟩:∃ d,d=bAt l (A+j):=⟨_,rfl⟩
   rw[← hd] at hck hw h2;have HLt':=fun W=>refLetter_any d W;have HDt':=fun W=>refDigit_any d W;rw[h2] at hw;clear hg h2 hd;rcases hw with ⟨_,e1|⟨e1,e2⟩|⟨e1,e2,e3⟩⟩|⟨e,_⟩
   ·rw[e1] at HLt';have HLt:=hid HLt';have HDt:=hid HDt';clear HLt' HDt' e1;go_wp2_with (first|((go_at_call 64;with_reducible refine(HLt.out _).mono ?_);rintro e w' ⟨rfl,rfl⟩)|((go_at_call 65;with_reducible refine(HDt.out _).mono ?_);rintro e w' ⟨rfl,rfl⟩))
    go_round
    case rel=>exact⟨j+1,by omega,by omega,by go_num,HG2⟩
    case measure=>simp[intOf];omega
   ·rw[e1] at HLt';rw[e2] at HDt';have HLt:=hid HLt';have HDt:=hid HDt';clear HLt' HDt' e1 e2;go_wp2_with (first|((go_at_call 64;with_reducible refine(HLt.out _).mono ?_);rintro e w' ⟨rfl,rfl⟩)|((go_at_call 65;with_reducible refine(HDt.out _).mono ?_);rintro e w' ⟨rfl,rfl⟩))
    go_round
    case rel=>exact⟨j+1,by omega,by omega,by go_num,HG2⟩
    case measure=>simp[intOf];omega
   ·rw[e1] at HLt';rw[e2] at HDt';have HLt:=hid HLt';have HDt:=hid HDt';clear HLt' HDt' e1 e2;go_wp2_with (first|((go_at_call 64;with_reducible refine(HLt.out _).mono ?_);rintro e w' ⟨rfl,rfl⟩)|((go_at_call 65;with_reducible refine(HDt.out _).mono ?_);rintro e w' ⟨rfl,rfl⟩))
    go_round
    case rel=>exact⟨j+1,by omega,by omega,by go_num,HG2⟩
    case measure=>simp[intOf];omega
   ·cases e
theorem refTok_num (a:Option Addr) (n cap A:Nat) (l:List UInt8) (w:World) (hT:Txt w a n cap l) (hr:n≤140737488351232) (hA:A<n) (hc:letterB (bAt l A)=false) (hd:digitB (bAt l A)=true) :
  Calls Tryz.prog 43 #[.slice a n cap,.int .i64 A] w fun e w'=>RTok (refNum l A) w e w':=by
 have sf:∀ (p:Addr) (b:Nat) (m:Mode) (w':World),(store p (.float .f64 b) m).run Tryz.prog w'=stored Tryz.prog w' p (.float .f64 b) m:=fun p b m w'=>run_store _ w' p _ m rfl;have hl:=hT.1;obtain⟨b,o,rfl,hc0⟩:=hT.cellAt hA;have hb:b<w.heap.size:=World.block_lt_of_cell? w _ hc0;have hL0:=fun W=>refLetter_any (bAt l A) W;have hD0:=fun W=>refDigit_any (bAt l A) W;rw[hc] at hL0;have hdk:=hd;rw[hd] at hD0;have HL0:=hid hL0;have HD0:=hid hD0;obtain⟨t,ht⟩:∃ t,t=refNum l A:=⟨_,rfl⟩
 have HRL:Hid (∀ W,Below w.heap.size w W→Calls Tryz.prog 66 #[.slice (some ⟨b,o,none⟩) n cap,.int .i64 A] W fun e w'=>RTok t W e w'):=by
  have:∀ W,Below w.heap.size w W→Calls Tryz.prog 66 #[.slice (some ⟨b,o,none⟩) n cap,.int .i64 A] W fun e w'=>RTok t W e w':=by
   intro W hW;rw[ht];exact refNumber_any _ n cap A l W (hT.below hW (Nat.le_refl _)) hr hA hdk
  exact this
 rw[← ht];have hB0:Below w.heap.size w (w.alloc (.cells #[.int .i64 0,.string ⟨#[]⟩,.int .i64 0,.float .f64 0,.int .i64 0,.int .i64 0] 59)):=(Below.refl w.heap.size w).alloc (Nat.le_refl _) _;have HB0:=hid hB0;clear hL0 hD0 hT hl hc ht hB0 hd hdk;go_enter Tryz.func43,Tryz.ntmps43;go_wp2_with (first|((go_at_call 64;with_reducible refine(HL0.out _).mono ?_);rintro e w' ⟨rfl,rfl⟩)|((go_at_call 65;with_reducible refine(HD0.out _).mono ?_);rintro e w' ⟨rfl,rfl⟩));refine(HRL.out _ HB0.out).mono ?_;rintro e w5 hrt;obtain⟨⟨k0,t0,i0,r0,a0,s0⟩,er⟩:=t;obtain⟨rfl,hb5⟩:=hrt;unfold tokVal;have hz5:w.heap.size+1≤w5.heap.size:=by have:=hb5.size;simpa using this
 have cq:∀ j,w5.cell? ⟨w.heap.size,j,none⟩=_:=fun j=>hb5.cell (p:=⟨w.heap.size,j,none⟩) (by simp);have fq:∀ j,w5.frozen? ⟨w.heap.size,j,none⟩=_:=fun j=>hb5.frozen (p:=⟨w.heap.size,j,none⟩) (by simp);have z0:w5.cell? ⟨w.heap.size,0,none⟩=some (.int .i64 0):=by rw[cq];simp
 have z1:w5.cell? ⟨w.heap.size,1,none⟩=some (.string ⟨#[]⟩):=by rw[cq];simp
 have z2:w5.cell? ⟨w.heap.size,2,none⟩=some (.int .i64 0):=by rw[cq];simp
 have z3:w5.cell? ⟨w.heap.size,3,none⟩=some (.float .f64 0):=by rw[cq];simp
 have z4:w5.cell? ⟨w.heap.size,4,none⟩=some (.int .i64 0):=by rw[cq];simp
 have z5:w5.cell? ⟨w.heap.size,5,none⟩=some (.int .i64 0):=by rw[cq];simp
 have fz:∀ j,w5.frozen? ⟨w.heap.size,j,none⟩=false:=fun j=>by rw[fq];simp
 have HB5:=hid (HB0.out.trans (hb5.mono (by simp)));have hlt5:w.heap.size<w5.heap.size:=by omega
 obtain⟨wx,hwx⟩:∃ wx,wx=w5.alloc (.cells #[.int .i64 k0,.string ⟨t0.toArray⟩,.int .i64 i0,.float .f64 r0,.int .i64 a0,.int .i64 s0] 59):=⟨_,rfl⟩
 have y0:wx.cell? ⟨w.heap.size,0,none⟩=some (.int .i64 0):=by rw[hwx];exact cell_keep _ z0
 have y1:wx.cell? ⟨w.heap.size,1,none⟩=some (.string ⟨#[]⟩):=by rw[hwx];exact cell_keep _ z1
 have y2:wx.cell? ⟨w.heap.size,2,none⟩=some (.int .i64 0):=by rw[hwx];exact cell_keep _ z2
 have y3:wx.cell? ⟨w.heap.size,3,none⟩=some (.float .f64 0):=by rw[hwx];exact cell_keep _ z3
 have y4:wx.cell? ⟨w.heap.size,4,none⟩=some (.int .i64 0):=by rw[hwx];exact cell_keep _ z4
 have y5:wx.cell? ⟨w.heap.size,5,none⟩=some (.int .i64 0):=by rw[hwx];exact cell_keep _ z5
 have x0:wx.cell? ⟨w5.heap.size,0,none⟩=some (.int .i64 k0):=by rw[hwx];simp
 have x1:wx.cell? ⟨w5.heap.size,1,none⟩=some (.string ⟨t0.toArray⟩):=by rw[hwx];simp
 have x2:wx.cell? ⟨w5.heap.size,2,none⟩=some (.int .i64 i0):=by rw[hwx];simp
 have x3:wx.cell? ⟨w5.heap.size,3,none⟩=some (.float .f64 r0):=by rw[hwx];simp
 have x4:wx.cell? ⟨w5.heap.size,4,none⟩=some (.int .i64 a0):=by rw[hwx];simp
 have x5:wx.cell? ⟨w5.heap.size,5,none⟩=some (.int .i64 s0):=by rw[hwx];simp
 have fy:∀ j,wx.frozen? ⟨w.heap.size,j,none⟩=false:=fun j=>by rw[hwx];exact(((Below.refl w5.heap.size w5).alloc (Nat.le_refl _) _).frozen (p:=⟨w.heap.size,j,none⟩) hlt5).trans (fz j)
 have f0:=fy 0;have f1:=fy 1;have f2:=fy 2;have f3:=fy 3;have f4:=fy 4;have f5:=fy 5;have HBX:=hid (show Below w.heap.size w wx from by rw[hwx];exact HB5.out.alloc (by omega) _);have HWX:=hid hwx;clear cq fq hb5 z0 z1 z2 z3 z4 z5 fz fy hwx;go_upto_region 10 with (fail);rw[← HWX.out];go_wp2_with fail;refine bodyPost_ret (v:=.tuple #[.agg #[.int .i64 k0,.string ⟨t0.toArray⟩,.int .i64 i0,.float .f64 r0,.int .i64 a0,.int .i64 s0],.int .i64 er]) (by simp[results,Tryz.results43,go_sem,y0,y1,y2,y3,y4,y5]) rfl ?_;exact⟨rfl,below_six HBX.out _ _ _ _ _ _ (by simp) (by simp) (by simp) (by simp) (by simp) (by simp)⟩
theorem refTok_text (a:Option Addr) (n cap A:Nat) (l:List UInt8) (w:World) (hT:Txt w a n cap l) (hr:n≤140737488351232) (hA:A<n) (hc:letterB (bAt l A)=false) (hq:bAt l A=34) :
  Calls Tryz.prog 43 #[.slice a n cap,.int .i64 A] w fun e w'=>RTok (refText l A) w e w':=by
 have sf:∀ (p:Addr) (b:Nat) (m:Mode) (w':World),(store p (.float .f64 b) m).run Tryz.prog w'=stored Tryz.prog w' p (.float .f64 b) m:=fun p b m w'=>run_store _ w' p _ m rfl;have hl:=hT.1;obtain⟨b,o,rfl,hc0⟩:=hT.cellAt hA;have hb:b<w.heap.size:=World.block_lt_of_cell? w _ hc0;have hL0:=fun W=>refLetter_any (bAt l A) W;have hD0:=fun W=>refDigit_any (bAt l A) W;rw[hc] at hL0;have hd:digitB (bAt l A)=false:=by rw[hq];decide
 rw[hd] at hD0;have e34:(((bAt l A).toNat:Int)==34)=true:=by rw[hq];rfl
 have HL0:=hid hL0;have HD0:=hid hD0;obtain⟨t,ht⟩:∃ t,t=refText l A:=⟨_,rfl⟩
 have HRL:Hid (∀ W,Below w.heap.size w W→Calls Tryz.prog 67 #[.slice (some ⟨b,o,none⟩) n cap,.int .i64 A] W fun e w'=>RTok t W e w'):=by
  have:∀ W,Below w.heap.size w W→Calls Tryz.prog 67 #[.slice (some ⟨b,o,none⟩) n cap,.int .i64 A] W fun e w'=>RTok t W e w':=by
   intro W hW;rw[ht];exact refText_any _ n cap A l W (hT.below hW (Nat.le_refl _)) hr hA
  exact this
 rw[← ht];have hB0:Below w.heap.size w (w.alloc (.cells #[.int .i64 0,.string ⟨#[]⟩,.int .i64 0,.float .f64 0,.int .i64 0,.int .i64 0] 59)):=(Below.refl w.heap.size w).alloc (Nat.le_refl _) _;have HB0:=hid hB0;clear hL0 hD0 hT hl hc ht hB0 hq hd;go_enter Tryz.func43,Tryz.ntmps43;go_wp2_with (first|((go_at_call 64;with_reducible refine(HL0.out _).mono ?_);rintro e w' ⟨rfl,rfl⟩)|((go_at_call 65;with_reducible refine(HD0.out _).mono ?_);rintro e w' ⟨rfl,rfl⟩));refine(HRL.out _ HB0.out).mono ?_;rintro e w5 hrt;obtain⟨⟨k0,t0,i0,r0,a0,s0⟩,er⟩:=t;obtain⟨rfl,hb5⟩:=hrt;unfold tokVal;have hz5:w.heap.size+1≤w5.heap.size:=by have:=hb5.size;simpa using this
 have cq:∀ j,w5.cell? ⟨w.heap.size,j,none⟩=_:=fun j=>hb5.cell (p:=⟨w.heap.size,j,none⟩) (by simp);have fq:∀ j,w5.frozen? ⟨w.heap.size,j,none⟩=_:=fun j=>hb5.frozen (p:=⟨w.heap.size,j,none⟩) (by simp);have z0:w5.cell? ⟨w.heap.size,0,none⟩=some (.int .i64 0):=by rw[cq];simp
 have z1:w5.cell? ⟨w.heap.size,1,none⟩=some (.string ⟨#[]⟩):=by rw[cq];simp
 have z2:w5.cell? ⟨w.heap.size,2,none⟩=some (.int .i64 0):=by rw[cq];simp
 have z3:w5.cell? ⟨w.heap.size,3,none⟩=some (.float .f64 0):=by rw[cq];simp
 have z4:w5.cell? ⟨w.heap.size,4,none⟩=some (.int .i64 0):=by rw[cq];simp
 have z5:w5.cell? ⟨w.heap.size,5,none⟩=some (.int .i64 0):=by rw[cq];simp
 have fz:∀ j,w5.frozen? ⟨w.heap.size,j,none⟩=false:=fun j=>by rw[fq];simp
 have HB5:=hid (HB0.out.trans (hb5.mono (by simp)));have hlt5:w.heap.size<w5.heap.size:=by omega
 obtain⟨wx,hwx⟩:∃ wx,wx=w5.alloc (.cells #[.int .i64 k0,.string ⟨t0.toArray⟩,.int .i64 i0,.float .f64 r0,.int .i64 a0,.int .i64 s0] 59):=⟨_,rfl⟩
 have y0:wx.cell? ⟨w.heap.size,0,none⟩=some (.int .i64 0):=by rw[hwx];exact cell_keep _ z0
 have y1:wx.cell? ⟨w.heap.size,1,none⟩=some (.string ⟨#[]⟩):=by rw[hwx];exact cell_keep _ z1
 have y2:wx.cell? ⟨w.heap.size,2,none⟩=some (.int .i64 0):=by rw[hwx];exact cell_keep _ z2
 have y3:wx.cell? ⟨w.heap.size,3,none⟩=some (.float .f64 0):=by rw[hwx];exact cell_keep _ z3
 have y4:wx.cell? ⟨w.heap.size,4,none⟩=some (.int .i64 0):=by rw[hwx];exact cell_keep _ z4
 have y5:wx.cell? ⟨w.heap.size,5,none⟩=some (.int .i64 0):=by rw[hwx];exact cell_keep _ z5
 have x0:wx.cell? ⟨w5.heap.size,0,none⟩=some (.int .i64 k0):=by rw[hwx];simp
 have x1:wx.cell? ⟨w5.heap.size,1,none⟩=some (.string ⟨t0.toArray⟩):=by rw[hwx];simp
 have x2:wx.cell? ⟨w5.heap.size,2,none⟩=some (.int .i64 i0):=by rw[hwx];simp
 have x3:wx.cell? ⟨w5.heap.size,3,none⟩=some (.float .f64 r0):=by rw[hwx];simp
 have x4:wx.cell? ⟨w5.heap.size,4,none⟩=some (.int .i64 a0):=by rw[hwx];simp
 have x5:wx.cell? ⟨w5.heap.size,5,none⟩=some (.int .i64 s0):=by rw[hwx];simp
 have fy:∀ j,wx.frozen? ⟨w.heap.size,j,none⟩=false:=fun j=>by rw[hwx];exact(((Below.refl w5.heap.size w5).alloc (Nat.le_refl _) _).frozen (p:=⟨w.heap.size,j,none⟩) hlt5).trans (fz j)
 have f0:=fy 0;have f1:=fy 1;have f2:=fy 2;have f3:=fy 3;have f4:=fy 4;have f5:=fy 5;have HBX:=hid (show Below w.heap.size w wx from by rw[hwx];exact HB5.out.alloc (by omega) _);have HWX:=hid hwx;clear cq fq hb5 z0 z1 z2 z3 z4 z5 fz fy hwx;go_upto_region 13 with (fail);rw[← HWX.out];go_wp2_with fail;refine bodyPost_ret (v:=.tuple #[.agg #[.int .i64 k0,.string ⟨t0.toArray⟩,.int .i64 i0,.float .f64 r0,.int .i64 a0,.int .i64 s0],.int .i64 er]) (by simp[results,Tryz.results43,go_sem,y0,y1,y2,y3,y4,y5]) rfl ?_;exact⟨rfl,below_six HBX.out _ _ _ _ _ _ (by simp) (by simp) (by simp) (by simp) (by simp) (by simp)⟩
theorem bytes_toList (l:List UInt8):(⟨l.toArray⟩:ByteArray).toList=l:=by rw[ByteArray.toList_eq]
def refMarkT (l:List UInt8) (A:Nat):Tok × Nat :=
 if A+2≤l.length∧isMarkB ((l.drop A).take 2)=true then (⟨5,(l.drop A).take 2,0,0,A,2⟩,0)
 else if isMarkB ((l.drop A).take 1)=true then (⟨5,(l.drop A).take 1,0,0,A,1⟩,0) else (zeroTok,10)
theorem refTok_mark (a:Option Addr) (n cap A:Nat) (l:List UInt8) (w:World) (hT:Txt w a n cap l) (hr:n≤140737488351232) (hA:A<n) (hc:letterB (bAt l A)=false) (hd:digitB (bAt l A)=false) (hq:bAt l A≠34) :
  Calls Tryz.prog 43 #[.slice a n cap,.int .i64 A] w fun e w'=>RTok (refMarkT l A) w e w':=by
 have sf:∀ (p:Addr) (b:Nat) (m:Mode) (w':World),(store p (.float .f64 b) m).run Tryz.prog w'=stored Tryz.prog w' p (.float .f64 b) m:=fun p b m w'=>run_store _ w' p _ m rfl;have hl:=hT.1;obtain⟨b,o,rfl,hc0⟩:=hT.cellAt hA;have hb:b<w.heap.size:=World.block_lt_of_cell? w _ hc0;have hL0:=fun W=>refLetter_any (bAt l A) W;have hD0:=fun W=>refDigit_any (bAt l A) W;rw[hc] at hL0;rw[hd] at hD0;have e34:(((bAt l A).toNat:Int)==34)=false:=u8_neq (d:=34) hq;have HL0:=hid hL0;have HD0:=hid hD0;have HM:=hid (fun (s:ByteArray) (W:World)=>refMark_any s W);have HT:=hid hT;have HL:=hid hl;have hB0:Below w.heap.size w (w.alloc (.cells #[.int .i64 0,.string ⟨#[]⟩,.int .i64 0,.float .f64 0,.int .i64 0,.int .i64 0] 59)):=(Below.refl w.heap.size w).alloc (Nat.le_refl _) _;have HB0:=hid hB0;clear hL0 hD0 hT hl hc hd hq hB0;go_enter Tryz.func43,Tryz.ntmps43;go_wp2_with (first|((go_at_call 64;with_reducible refine(HL0.out _).mono ?_);rintro e w' ⟨rfl,rfl⟩)|((go_at_call 65;with_reducible refine(HD0.out _).mono ?_);rintro e w' ⟨rfl,rfl⟩));go_loop [11] (fun i=>∃ j:Nat,i=.int .i64 j∧(j=2∨(j=1∧Hid (¬ (A+2≤l.length∧isMarkB ((l.drop A).take 2)=true)))∨(j=0∧Hid (refMarkT l A=(zeroTok,10))))) (fun i=>(intOf i).toNat)
 case atStart=>exact⟨2,rfl,.inl rfl⟩
 case round =>
  obtain⟨j,rfl,rfl|⟨rfl,h2⟩|⟨rfl,h0⟩⟩:=hrel
  ·rcases Nat.lt_or_ge n (A+2) with hlt|hge
   ·have d1:decide ((A:Int)+2≤(n:Int))=false:=by rw[decide_eq_false_iff_not];omega
    have HN:Hid (¬ (A+2≤l.length∧isMarkB ((l.drop A).take 2)=true)):=by
     have:¬ (A+2≤l.length∧isMarkB ((l.drop A).take 2)=true):=by rw[HL.out];omega
     exact this
    go_wp2_with fail
    go_round
    case rel=>exact⟨1,rfl,.inr (.inl ⟨rfl,HN⟩)⟩
    case measure=>simp[intOf]
   ·have d1:decide ((A:Int)+2≤(n:Int))=true:=by rw[decide_eq_true_eq];omega
    obtain⟨a1,hs1,hT1⟩:=slice_mid A (A+2) HT.out (Nat.le_add_right _ _) hge;rw[Nat.add_sub_cancel_left] at hs1 hT1;have hs1':∀ w',(Instr.slice 22 (.slice (some ⟨b,o,none⟩) n cap) (some (.int .i64 (A:Int))) (some (.int .i64 ((A:Int)+2))) none).run Tryz.prog w'=.ok (.slice a1 2 (cap-A)) w':=hs1;have hcv:=text_of (hT1.below HB0.out (Nat.le_refl _));have hm:=HM.out ⟨((l.drop A).take 2).toArray⟩;rw[bytes_toList] at hm;rcases Bool.eq_false_or_eq_true (isMarkB ((l.drop A).take 2)) with hv|hv
    rotate_left
    ·rw[hv] at hm;have HM:=hid hm;have HN:Hid (¬ (A+2≤l.length∧isMarkB ((l.drop A).take 2)=true)):=by
      have:¬ (A+2≤l.length∧isMarkB ((l.drop A).take 2)=true):=by rw[hv];simp
      exact this
     clear hm hv hs1 hT1;go_wp2_with (first|((go_at_call 64;with_reducible refine(HL0.out _).mono ?_);rintro e w' ⟨rfl,rfl⟩)|((go_at_call 65;with_reducible refine(HD0.out _).mono ?_);rintro e w' ⟨rfl,rfl⟩)|((go_at_call 68;refine(HM.out _).mono ?_);rintro e w' ⟨rfl,rfl⟩))
     go_round
     case rel=>exact⟨1,rfl,.inr (.inl ⟨rfl,HN⟩)⟩
     case measure=>simp[intOf]
    ·rw[hv] at hm;have HM:=hid hm;have HF:Hid (refMarkT l A=(⟨5,(l.drop A).take 2,0,0,A,2⟩,0)):=by
      have:refMarkT l A=(⟨5,(l.drop A).take 2,0,0,A,2⟩,0):=by unfold refMarkT;rw[if_pos ⟨by rw[HL.out];exact hge,hv⟩]
      exact this
     clear hm hv hs1 hT1;go_wp2_with (first|((go_at_call 64;with_reducible refine(HL0.out _).mono ?_);rintro e w' ⟨rfl,rfl⟩)|((go_at_call 65;with_reducible refine(HD0.out _).mono ?_);rintro e w' ⟨rfl,rfl⟩)|((go_at_call 68;refine(HM.out _).mono ?_);rintro e w' ⟨rfl,rfl⟩));refine bodyPost_ret (v:=.tuple #[.agg #[.int .i64 5,.string ⟨((l.drop A).take 2).toArray⟩,.int .i64 0,.float .f64 0,.int .i64 A,.int .i64 2],.int .i64 0]) (by simp[results,Tryz.results43,go_sem]) rfl ?_;rw[HF.out];exact⟨rfl,(Below.refl _ _).alloc (Nat.le_refl _) _⟩
  ·have d1:decide ((A:Int)+1≤(n:Int))=true:=by rw[decide_eq_true_eq];omega
   obtain⟨a1,hs1,hT1⟩:=slice_mid A (A+1) HT.out (Nat.le_add_right _ _) hA;rw[Nat.add_sub_cancel_left] at hs1 hT1;have hs1':∀ w',(Instr.slice 22 (.slice (some ⟨b,o,none⟩) n cap) (some (.int .i64 (A:Int))) (some (.int .i64 ((A:Int)+1))) none).run Tryz.prog w'=.ok (.slice a1 1 (cap-A)) w':=hs1;have hcv:=text_of (hT1.below HB0.out (Nat.le_refl _));have hm:=HM.out ⟨((l.drop A).take 1).toArray⟩;rw[bytes_toList] at hm;rcases Bool.eq_false_or_eq_true (isMarkB ((l.drop A).take 1)) with hv|hv
   rotate_left
   ·rw[hv] at hm;have HM:=hid hm;have HN:Hid (refMarkT l A=(zeroTok,10)):=by
     have:refMarkT l A=(zeroTok,10):=by unfold refMarkT;rw[if_neg h2.out,hv,if_neg (by simp)]
     exact this
    clear hm hv hs1 hT1;go_wp2_with (first|((go_at_call 64;with_reducible refine(HL0.out _).mono ?_);rintro e w' ⟨rfl,rfl⟩)|((go_at_call 65;with_reducible refine(HD0.out _).mono ?_);rintro e w' ⟨rfl,rfl⟩)|((go_at_call 68;refine(HM.out _).mono ?_);rintro e w' ⟨rfl,rfl⟩))
    go_round
    case rel=>exact⟨0,rfl,.inr (.inr ⟨rfl,HN⟩)⟩
    case measure=>simp[intOf]
   ·rw[hv] at hm;have HM:=hid hm;have HF:Hid (refMarkT l A=(⟨5,(l.drop A).take 1,0,0,A,1⟩,0)):=by
     have:refMarkT l A=(⟨5,(l.drop A).take 1,0,0,A,1⟩,0):=by unfold refMarkT;rw[if_neg h2.out,if_pos hv]
     exact this
    clear hm hv hs1 hT1;go_wp2_with (first|((go_at_call 64;with_reducible refine(HL0.out _).mono ?_);rintro e w' ⟨rfl,rfl⟩)|((go_at_call 65;with_reducible refine(HD0.out _).mono ?_);rintro e w' ⟨rfl,rfl⟩)|((go_at_call 68;refine(HM.out _).mono ?_);rintro e w' ⟨rfl,rfl⟩));refine bodyPost_ret (v:=.tuple #[.agg #[.int .i64 5,.string ⟨((l.drop A).take 1).toArray⟩,.int .i64 0,.float .f64 0,.int .i64 A,.int .i64 1],.int .i64 0]) (by simp[results,Tryz.results43,go_sem]) rfl ?_;rw[HF.out];exact⟨rfl,(Below.refl _ _).alloc (Nat.le_refl _) _⟩
  ·go_wp2_with fail;refine bodyPost_ret (v:=.tuple #[.agg #[.int .i64 0,.string ⟨#[]⟩,.int .i64 0,.float .f64 0,.int .i64 0,.int .i64 0],.int .i64 10]) (by simp[results,Tryz.results43,go_sem]) rfl ?_;rw[h0.out];exact⟨rfl,(Below.refl _ _).alloc (Nat.le_refl _) _⟩
def refTok (l:List UInt8) (A:Nat):Tok × Nat :=
 if letterB (bAt l A)=true then refName l A else if digitB (bAt l A)=true then refNum l A else if bAt l A=34 then refText l A else refMarkT l A
theorem refTok_any (a:Option Addr) (n cap A:Nat) (l:List UInt8) (w:World) (hT:Txt w a n cap l) (hr:n≤140737488351232) (hA:A<n) :
  Calls Tryz.prog 43 #[.slice a n cap,.int .i64 A] w fun e w'=>RTok (refTok l A) w e w':=by
 unfold refTok;by_cases h1:letterB (bAt l A)=true
 ·rw[if_pos h1];exact refTok_name a n cap A l w hT hr hA h1
 ·rw[if_neg h1];have h1':letterB (bAt l A)=false:=by simpa using h1
  by_cases h2:digitB (bAt l A)=true
  ·rw[if_pos h2];exact refTok_num a n cap A l w hT hr hA h1' h2
  ·rw[if_neg h2];have h2':digitB (bAt l A)=false:=by simpa using h2
   by_cases h3:bAt l A=34
   ·rw[if_pos h3];exact refTok_text a n cap A l w hT hr hA h1' h3
   ·rw[if_neg h3];exact refTok_mark a n cap A l w hT hr hA h1' h2' h3
end Go.Proofs.YtkpboalccpancaaGreatDoor
