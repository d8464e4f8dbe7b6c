import Derived.Test.YtkpboalccpancaaGreatDoorQMRefPart
import Derived.Test.YtkpboalccpancaaGreatDoorQMRefReal2
import Derived.Test.YtkpboalccpancaaGreatDoorQMVReal
namespace Go.Proofs.YtkpboalccpancaaGreatDoor
open Go.RowKit
open Lib(hid)
set_option maxRecDepth 100000
set_option linter.all false
set_option maxHeartbeats 4000000
theorem own_form' {w:World} {base e N:Nat} {v:Value} {xs:List Value} (hown:w.ownsRow base e 1 v N xs):∃ ba bc,v=.slice ba N bc:=by
 rcases hown.2 with ⟨h,h0⟩|⟨g,cap,cur,h,_⟩
 ·exact⟨none,0,by rw[h,h0]⟩
 ·exact⟨_,_,h⟩
def partsF:Nat→List UInt8→Nat→List UInt8 × Nat
 | 0,_,i=>([],i)
 | f+1,l,i=>if (partF (l.drop i)).2=0 then ([],i) else ((partF (l.drop i)).1 :: (partsF f l (i+(partF (l.drop i)).2)).1,(partsF f l (i+(partF (l.drop i)).2)).2)
def refText (l:List UInt8) (A:Nat):Tok × Nat :=
 if (partsF (l.length+1) l (A+1)).2<l.length∧bAt l (partsF (l.length+1) l (A+1)).2=34∧(partsF (l.length+1) l (A+1)).1.length≤256 then
  (⟨4,(partsF (l.length+1) l (A+1)).1,0,0,A,(partsF (l.length+1) l (A+1)).2+1-A⟩,0)
 else (zeroTok,11)
def TRel (l:List UInt8) (A k:Nat) (bs:List UInt8) (f:Nat):Prop :=
 partsF (l.length+1) l (A+1)=(bs++(partsF f l k).1,(partsF f l k).2)∧bs.length+A+1≤k∧l.length+1≤f+(k-(A+1))∧k≤l.length
theorem TRel.step {l:List UInt8} {A k:Nat} {bs:List UInt8} {f:Nat} (h:TRel l A k bs f) (hA:A<l.length) {c:UInt8} {s:Nat} (hp:partF (l.drop k)=(c,s)) (hs:s≠0) :
  ∃ f',TRel l A (k+s) (bs++[c]) f'∧k+s≤l.length:=by
 obtain⟨h1,h2,h3,h4⟩:=h;have hle:=(partF_le (l.drop k)).1;rw[hp,List.length_drop] at hle;simp only at hle;have hks:k+s≤l.length:=by omega
 obtain⟨f',rfl⟩:∃ f',f=f'+1:=⟨f-1,by omega⟩
 refine⟨f',⟨?_,by simp;omega,by omega,hks⟩,hks⟩;rw[h1,partsF,hp,if_neg hs];simp
theorem TRel.stop {l:List UInt8} {A k:Nat} {bs:List UInt8} {f:Nat} (h:TRel l A k bs f) {c:UInt8} (hp:partF (l.drop k)=(c,0)):partsF (l.length+1) l (A+1)=(bs,k):=by
 obtain⟨h1,_⟩:=h;rw[h1];cases f with
 | zero=>simp[partsF]
 | succ f=>rw[partsF,hp,if_pos rfl];simp
theorem refText_any (a:Option Addr) (n cap A:Nat) (l:List UInt8) (w:World) (hT:Txt w a n cap l) (hr:n≤140737488351232) (hA:A<n) :
  Calls Tryz.prog 67 #[.slice a n cap,.int .i64 A] w fun e w'=>RTok (refText l A) w e w':=by
 have sf:∀ (p:Addr) (b:Nat) (m:Mode) (w':World),(store p (.float .f64 b) m).run Tryz.prog w'=stored Tryz.prog w' p (.float .f64 b) m:=fun p b m w'=>run_store _ w' p _ m rfl;have hl:=hT.1;obtain⟨i0,hi,hz0,hz1,hz2⟩:=info_parts info5';obtain⟨W0,hW0⟩:∃ W0,W0=w.alloc (.cells #[.int .i64 0,.string ⟨#[]⟩,.int .i64 0,.float .f64 0,.int .i64 0,.int .i64 0] 59):=⟨_,rfl⟩
 have hB0:Below w.heap.size w W0:=by rw[hW0];exact(Below.refl w.heap.size w).alloc (Nat.le_refl _) _
 have hz:W0.heap.size=w.heap.size+1:=by rw[hW0];simp
 have hg:W0.heap[w.heap.size]?=some (.cells #[.int .i64 0,.string ⟨#[]⟩,.int .i64 0,.float .f64 0,.int .i64 0,.int .i64 0] 59 (0,0)):=by rw[hW0];exact heap_alloc_new w _
 have hfz:∀ j,W0.frozen? ⟨w.heap.size,j,none⟩=false:=by intro j;rw[hW0];simp
 have HT0:Hid (∀ W,Below W0.heap.size W0 W→Txt W a n cap l):=by
  have:∀ W,Below W0.heap.size W0 W→Txt W a n cap l:=fun W hW=>hT.below (hB0.trans (hW.mono (by omega))) (Nat.le_refl _);exact this
 have HW0:=hid hW0;have HB0:=hid hB0;have HZ:=hid hz;have HG0:=hid hg;have HFZ:=hid hfz;have HL:=hid hl;clear hT hl hW0 hB0 hz hg hfz;go_enter Tryz.func67,Tryz.ntmps67;go_wp2_with fail;rw[← HW0.out]
 go_loopw [6,7] (fun i b wr=>∃ (k:Nat) (bs:List UInt8) (f:Nat),i=.int .i64 k∧k≤n∧wr.ownsRow W0.heap.size 5 1 b bs.length (u8s bs)∧Hid (TRel l A k bs f)∧Below W0.heap.size W0 wr)
  (fun i _ _=>n-(intOf i).toNat)
 case atStart=>exact⟨A+1,[],l.length+1,by go_num,hA,World.ownsRow_nil _ _ _ _,⟨by simp,by simp,by omega,by rw[HL.out];exact hA⟩,Below.refl _ _⟩
 case round =>
  obtain⟨k,bs,f,rfl,hk,hown,hrel,hbr⟩:=hrel;have hsz:=hbr.size;have HBR:=hid hbr;have HOWN:=hid hown;have hlen:bs.length≤140737488351232:=by have:=hrel.out.2.1;omega
  have HP:=hid (refPart_any a n cap k l wr (HT0.out wr hbr) hr hk);clear hown hbr;go_wp2_with fail;refine HP.out.mono ?_;rintro e w5 ⟨rfl,q,rfl⟩;have hownd:(wr.drewN q).ownsRow W0.heap.size 5 1 _ bs.length (u8s bs):=HOWN.out;have hbd:Below W0.heap.size W0 (wr.drewN q):=below_drewN HBR.out q;have hzd:W0.heap.size≤(wr.drewN q).heap.size:=hbd.size;generalize wr.drewN q=wd at hownd hbd hzd ⊢;obtain⟨⟨c,s⟩,hp⟩:∃ p,p=partF (l.drop k):=⟨_,rfl⟩
  rw[← hp];have HBD:=hid hbd;have HOD:=hid hownd;clear hbd hownd HP HBR HOWN;rcases Nat.eq_zero_or_pos s with rfl|hs
  ·obtain⟨ba,bc,rfl⟩  :=own_form' HOD.out;have hst:=hrel.out.stop hp.symm;have HTX:=hid (txt_of_owned HOD.out);have hcv:=text_of HTX.out;have cq:∀ j,wd.cell? ⟨w.heap.size,j,none⟩=W0.cell? ⟨w.heap.size,j,none⟩:=fun j=>HBD.out.cell (p:=⟨w.heap.size,j,none⟩) (by rw[HZ.out];simp);have fq:∀ j,wd.frozen? ⟨w.heap.size,j,none⟩=false:=fun j=>(HBD.out.frozen (p:=⟨w.heap.size,j,none⟩) (by rw[HZ.out];simp)).trans (HFZ.out j);have z0:wd.cell? ⟨w.heap.size,0,none⟩=some (.int .i64 0):=by rw[cq];simp[World.cell?,HG0.out]
   have z1:wd.cell? ⟨w.heap.size,1,none⟩=some (.string ⟨#[]⟩):=by rw[cq];simp[World.cell?,HG0.out]
   have z2:wd.cell? ⟨w.heap.size,2,none⟩=some (.int .i64 0):=by rw[cq];simp[World.cell?,HG0.out]
   have z3:wd.cell? ⟨w.heap.size,3,none⟩=some (.float .f64 0):=by rw[cq];simp[World.cell?,HG0.out]
   have z4:wd.cell? ⟨w.heap.size,4,none⟩=some (.int .i64 0):=by rw[cq];simp[World.cell?,HG0.out]
   have z5:wd.cell? ⟨w.heap.size,5,none⟩=some (.int .i64 0):=by rw[cq];simp[World.cell?,HG0.out]
   have f0:=fq 0;have f1:=fq 1;have f2:=fq 2;have f3:=fq 3;have f4:=fq 4;have f5:=fq 5;have HBW:=hid (HB0.out.trans (HBD.out.mono (by rw[HZ.out];omega)));have hTd:=HT0.out wd HBD.out;have hkA:A+1≤k:=by have:=hrel.out.2.1;omega
   have hway:(refText l A=(zeroTok,11)∧(n≤k∨(k<n∧bAt l k≠34)∨(k<n∧bAt l k=34∧256<bs.length)))∨(k<n∧bAt l k=34∧bs.length≤256∧refText l A=(⟨4,bs,0,0,A,k+1-A⟩,0)):=by
    unfold refText;rw[hst,HL.out];by_cases h:k<n∧bAt l k=34∧bs.length≤256
    ·right;exact⟨h.1,h.2.1,h.2.2,by rw[if_pos h]⟩
    ·left;refine⟨by rw[if_neg h],?_⟩;rcases Nat.lt_or_ge k n with h1|h1
     ·by_cases h2:bAt l k=34
      ·exact .inr (.inr ⟨h1,h2,Nat.lt_of_not_le fun h3=>h ⟨h1,h2,h3⟩⟩)
      ·exact .inr (.inl ⟨h1,h2⟩)
     ·exact .inl h1
   clear hst cq fq hp hrel;rcases hway with ⟨hq,h1|⟨h1,h2⟩|⟨h1,h2,h3⟩⟩|⟨h1,h2,h3,hq⟩
   ·have HQ:=hid hq;have d1:decide (n≤k)=true:=by rw[decide_eq_true_eq];exact h1
    clear hq h1 hTd;go_wp2_with fail;refine bodyPost_ret (v:=.tuple #[.agg #[.int .i64 0,.string ⟨#[]⟩,.int .i64 0,.float .f64 0,.int .i64 0,.int .i64 0],.int .i64 11]) (by simp[results,Tryz.results67,go_sem,z0,z1,z2,z3,z4,z5]) rfl ?_;rw[HQ.out];exact⟨rfl,below_six HBW.out _ _ _ _ _ _ (by simp) (by simp) (by simp) (by simp) (by simp) (by simp)⟩
   ·have HQ:=hid hq;obtain⟨b',o',rfl,hck⟩:=hTd.cellAt h1;have d1:decide (n≤k)=false:=by rw[decide_eq_false_iff_not];omega
    have d2:(((bAt l k).toNat:Int) != 34)=true:=u8_neqn (d:=34) h2;clear hq h2 hTd;go_wp2_with fail;refine bodyPost_ret (v:=.tuple #[.agg #[.int .i64 0,.string ⟨#[]⟩,.int .i64 0,.float .f64 0,.int .i64 0,.int .i64 0],.int .i64 11]) (by simp[results,Tryz.results67,go_sem,z0,z1,z2,z3,z4,z5]) rfl ?_;rw[HQ.out];exact⟨rfl,below_six HBW.out _ _ _ _ _ _ (by simp) (by simp) (by simp) (by simp) (by simp) (by simp)⟩
   ·have HQ:=hid hq;obtain⟨b',o',rfl,hck⟩:=hTd.cellAt h1;rw[h2] at hck;simp only[show (((34:UInt8).toNat:Nat):Int)=34 from rfl] at hck;have d1:decide (n≤k)=false:=by rw[decide_eq_false_iff_not];omega
    have d3:decide ((256:Int)<(bs.length:Int))=true:=by rw[decide_eq_true_eq];omega
    have d3':decide (256<bs.length)=true:=by rw[decide_eq_true_eq];omega
    clear hq h2 h3 hTd;go_wp2_with fail;refine bodyPost_ret (v:=.tuple #[.agg #[.int .i64 0,.string ⟨#[]⟩,.int .i64 0,.float .f64 0,.int .i64 0,.int .i64 0],.int .i64 11]) (by simp[results,Tryz.results67,go_sem,z0,z1,z2,z3,z4,z5]) rfl ?_;rw[HQ.out];exact⟨rfl,below_six HBW.out _ _ _ _ _ _ (by simp) (by simp) (by simp) (by simp) (by simp) (by simp)⟩
   ·have HQ:=hid hq;obtain⟨b',o',rfl,hck⟩:=hTd.cellAt h1;rw[h2] at hck;simp only[show (((34:UInt8).toNat:Nat):Int)=34 from rfl] at hck;have d1:decide (n≤k)=false:=by rw[decide_eq_false_iff_not];omega
    have d3:decide ((256:Int)<(bs.length:Int))=false:=by rw[decide_eq_false_iff_not];omega
    have d3':decide (256<bs.length)=false:=by rw[decide_eq_false_iff_not];omega
    clear hq h2 h3 hTd;go_wp2_with fail;refine bodyPost_ret (v:=.tuple #[.agg #[.int .i64 4,.string ⟨bs.toArray⟩,.int .i64 0,.float .f64 0,.int .i64 A,.int .i64 (k+1-A)],.int .i64 0]) (by simp[results,Tryz.results67,go_sem,z0,z1,z2,z3,z4,z5]) rfl ?_;rw[HQ.out];refine⟨by simp only[tokVal];rw[show ((k+1-A:Nat):Int)=(k:Int)+1-A by omega];rfl,?_⟩;exact below_six HBW.out _ _ _ _ _ _ (by simp) (by simp) (by simp) (by simp) (by simp) (by simp)
  ·obtain⟨f',hrel',hks⟩:=hrel.out.step (by rw[HL.out];exact hA) hp.symm (by omega);have HREL:=hid hrel';have hks':k+s≤n:=by rw[← HL.out];exact hks
   have hz9:((s:Int)==0)=false:=by rw[beq_eq_false_iff_ne];omega
   clear hp hrel hrel' hks;go_wp2_with (at_builtin;refine wpList_append_own _ rfl _ _ 22 rfl W0.heap.size 5 i0 (.int .u8 0) 1 1 Tryz.underlying22 hi hz0 hz1 hz2 rfl (by decide) _ _ _ rfl (HOD.out.alloc _) ⟨wd.heap.size,0,none⟩ 1 1 (u8s [c]) rfl rfl (cells_new _ _ _) (u8s_one _) (by unfold maxLen;omega) (by omega) (by simp;omega) ?_);intro v2 w8 hown2 hgrow2 _;have hb8:Below W0.heap.size W0 w8:=(HBD.out.alloc hzd _).grown hgrow2 (by simp;omega) (fun b hb=>(HOD.out.lt b hb).1);rw[← u8s_append] at hown2;have HB8:=hid hb8;have HO8:Hid (w8.ownsRow W0.heap.size 5 1 v2 (bs++[c]).length (u8s (bs++[c]))):=by
    have:w8.ownsRow W0.heap.size 5 1 v2 (bs++[c]).length (u8s (bs++[c])):=by rw[List.length_append];exact hown2
    exact this
   clear hb8 hgrow2 hown2;go_wp2_with fail;go_roundw
   case rel=>exact⟨k+s,bs++[c],f',by go_num,hks',HO8.out,HREL,HB8.out⟩
   case measure=>simp[intOf];omega
def isMarkB (l:List UInt8):Bool:=l==[40] || l==[41] || l==[123] || l==[125] || l==[44] || l==[59] || l==[58] || l==[46] || l==[38] || l==[43] || l==[45] || l==[42] || l==[47] || l==[37] || l==[60] || l==[62] || l==[33] || l==[61] || l==[95] || l==[61,61] || l==[33,61] || l==[60,61] || l==[62,61] || l==[38,38] || l==[124,124] || l==[45,62]
theorem refMark_any (s:ByteArray) (w:World):Calls Tryz.prog 68 #[.string s] w fun e w'=>e=.returned (.bool (isMarkB s.toList))∧w=w':=by
 unfold isMarkB;cases f0:(s.toList==[40])
 case true =>
  go_enter Tryz.func68,Tryz.ntmps68;go_wp2;go_ret;exact⟨by simp only[Bool.or_true,Bool.true_or,Bool.or_false,Bool.false_or];rfl,rfl⟩
 cases f1:(s.toList==[41])
 case true =>
  go_enter Tryz.func68,Tryz.ntmps68;go_wp2;go_ret;exact⟨by simp only[Bool.or_true,Bool.true_or,Bool.or_false,Bool.false_or];rfl,rfl⟩
 cases f2:(s.toList==[123])
 case true =>
  go_enter Tryz.func68,Tryz.ntmps68;go_wp2;go_ret;exact⟨by simp only[Bool.or_true,Bool.true_or,Bool.or_false,Bool.false_or];rfl,rfl⟩
 cases f3:(s.toList==[125])
 case true =>
  go_enter Tryz.func68,Tryz.ntmps68;go_wp2;go_ret;exact⟨by simp only[Bool.or_true,Bool.true_or,Bool.or_false,Bool.false_or];rfl,rfl⟩
 cases f4:(s.toList==[44])
 case true =>
  go_enter Tryz.func68,Tryz.ntmps68;go_wp2;go_ret;exact⟨by simp only[Bool.or_true,Bool.true_or,Bool.or_false,Bool.false_or];rfl,rfl⟩
 cases f5:(s.toList==[59])
 case true =>
  go_enter Tryz.func68,Tryz.ntmps68;go_wp2;go_ret;exact⟨by simp only[Bool.or_true,Bool.true_or,Bool.or_false,Bool.false_or];rfl,rfl⟩
 cases f6:(s.toList==[58])
 case true =>
  go_enter Tryz.func68,Tryz.ntmps68;go_wp2;go_ret;exact⟨by simp only[Bool.or_true,Bool.true_or,Bool.or_false,Bool.false_or];rfl,rfl⟩
 cases f7:(s.toList==[46])
 case true =>
  go_enter Tryz.func68,Tryz.ntmps68;go_wp2;go_ret;exact⟨by simp only[Bool.or_true,Bool.true_or,Bool.or_false,Bool.false_or];rfl,rfl⟩
 cases f8:(s.toList==[38])
 case true =>
  go_enter Tryz.func68,Tryz.ntmps68;go_wp2;go_ret;exact⟨by simp only[Bool.or_true,Bool.true_or,Bool.or_false,Bool.false_or];rfl,rfl⟩
 cases f9:(s.toList==[43])
 case true =>
  go_enter Tryz.func68,Tryz.ntmps68;go_wp2;go_ret;exact⟨by simp only[Bool.or_true,Bool.true_or,Bool.or_false,Bool.false_or];rfl,rfl⟩
 cases f10:(s.toList==[45])
 case true =>
  go_enter Tryz.func68,Tryz.ntmps68;go_wp2;go_ret;exact⟨by simp only[Bool.or_true,Bool.true_or,Bool.or_false,Bool.false_or];rfl,rfl⟩
 cases f11:(s.toList==[42])
 case true =>
  go_enter Tryz.func68,Tryz.ntmps68;go_wp2;go_ret;exact⟨by simp only[Bool.or_true,Bool.true_or,Bool.or_false,Bool.false_or];rfl,rfl⟩
 cases f12:(s.toList==[47])
 case true =>
  go_enter Tryz.func68,Tryz.ntmps68;go_wp2;go_ret;exact⟨by simp only[Bool.or_true,Bool.true_or,Bool.or_false,Bool.false_or];rfl,rfl⟩
 cases f13:(s.toList==[37])
 case true =>
  go_enter Tryz.func68,Tryz.ntmps68;go_wp2;go_ret;exact⟨by simp only[Bool.or_true,Bool.true_or,Bool.or_false,Bool.false_or];rfl,rfl⟩
 cases f14:(s.toList==[60])
 case true =>
  go_enter Tryz.func68,Tryz.ntmps68;go_wp2;go_ret;exact⟨by simp only[Bool.or_true,Bool.true_or,Bool.or_false,Bool.false_or];rfl,rfl⟩
 cases f15:(s.toList==[62])
 case true =>
  go_enter Tryz.func68,Tryz.ntmps68;go_wp2;go_ret;exact⟨by simp only[Bool.or_true,Bool.true_or,Bool.or_false,Bool.false_or];rfl,rfl⟩
 cases f16:(s.toList==[33])
 case true =>
  go_enter Tryz.func68,Tryz.ntmps68;go_wp2;go_ret;exact⟨by simp only[Bool.or_true,Bool.true_or,Bool.or_false,Bool.false_or];rfl,rfl⟩
 cases f17:(s.toList==[61])
 case true =>
  go_enter Tryz.func68,Tryz.ntmps68;go_wp2;go_ret;exact⟨by simp only[Bool.or_true,Bool.true_or,Bool.or_false,Bool.false_or];rfl,rfl⟩
 cases f18:(s.toList==[95])
 case true =>
  go_enter Tryz.func68,Tryz.ntmps68;go_wp2;go_ret;exact⟨by simp only[Bool.or_true,Bool.true_or,Bool.or_false,Bool.false_or];rfl,rfl⟩
 cases f19:(s.toList==[61,61])
 case true =>
  go_enter Tryz.func68,Tryz.ntmps68;go_wp2;go_ret;exact⟨by simp only[Bool.or_true,Bool.true_or,Bool.or_false,Bool.false_or];rfl,rfl⟩
 cases f20:(s.toList==[33,61])
 case true =>
  go_enter Tryz.func68,Tryz.ntmps68;go_wp2;go_ret;exact⟨by simp only[Bool.or_true,Bool.true_or,Bool.or_false,Bool.false_or];rfl,rfl⟩
 cases f21:(s.toList==[60,61])
 case true =>
  go_enter Tryz.func68,Tryz.ntmps68;go_wp2;go_ret;exact⟨by simp only[Bool.or_true,Bool.true_or,Bool.or_false,Bool.false_or];rfl,rfl⟩
 cases f22:(s.toList==[62,61])
 case true =>
  go_enter Tryz.func68,Tryz.ntmps68;go_wp2;go_ret;exact⟨by simp only[Bool.or_true,Bool.true_or,Bool.or_false,Bool.false_or];rfl,rfl⟩
 cases f23:(s.toList==[38,38])
 case true =>
  go_enter Tryz.func68,Tryz.ntmps68;go_wp2;go_ret;exact⟨by simp only[Bool.or_true,Bool.true_or,Bool.or_false,Bool.false_or];rfl,rfl⟩
 cases f24:(s.toList==[124,124])
 case true =>
  go_enter Tryz.func68,Tryz.ntmps68;go_wp2;go_ret;exact⟨by simp only[Bool.or_true,Bool.true_or,Bool.or_false,Bool.false_or];rfl,rfl⟩
 cases f25:(s.toList==[45,62])
 case true =>
  go_enter Tryz.func68,Tryz.ntmps68;go_wp2;go_ret;exact⟨by simp only[Bool.or_true,Bool.true_or,Bool.or_false,Bool.false_or];rfl,rfl⟩
 go_enter Tryz.func68,Tryz.ntmps68;go_wp2;go_ret;exact⟨by simp only[Bool.or_false,Bool.false_or];rfl,rfl⟩
end Go.Proofs.YtkpboalccpancaaGreatDoor
