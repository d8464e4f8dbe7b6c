import Derived.Test.YtenlhcgpajphhaaGreatDoorMEbSmall
import Derived.Test.YtenlhcgpajphhaaGreatDoorMTextWalks
import Derived.Test.YtenlhcgpajphhaaGreatDoorMQuotePlain
import Derived.Laws.Rows
import Derived.Deep.Cut
namespace Go.Proofs.YtenlhcgpajphhaaGreatDoor
open Go.RowKit
open Lib(hid)
set_option maxRecDepth 100000
set_option linter.all false
set_option maxHeartbeats 1000000
theorem qpQ (c:UInt8) (w:World):Calls Tryz.prog 256 #[.int .u8 c.toNat] w fun e w'=>e=.returned (.bool (qa8 c))∧w=w':=by
 have hc:=c.toNat_lt;have h0:c.toNat<65∨(65≤c.toNat∧c.toNat≤90)∨(90<c.toNat∧c.toNat<97)∨(97≤c.toNat∧c.toNat≤122)∨122<c.toNat:=by omega
 have hb:qa8 c=true∨qa8 c=false:=by cases qa8 c <;> simp
 unfold qa8;rcases h0 with h1|⟨h1,h2⟩|⟨h1,h2⟩|⟨h1,h2⟩|h1
 ·have d1:decide ((65:Int)≤c.toNat)=false:=by simp;omega
  have d2:decide ((97:Int)≤c.toNat)=false:=by simp;omega
  go_enter Tryz.func256,Tryz.ntmps256;go_wp2;go_ret;exact⟨by simp;omega,rfl⟩
 ·have d1:decide ((65:Int)≤c.toNat)=true:=by simp;omega
  have d2:decide ((c.toNat:Int)≤90)=true:=by simp;omega
  go_enter Tryz.func256,Tryz.ntmps256;go_wp2;go_ret;exact⟨by simp;omega,rfl⟩
 ·have d1:decide ((65:Int)≤c.toNat)=true:=by simp;omega
  have d2:decide ((c.toNat:Int)≤90)=false:=by simp;omega
  have d3:decide ((97:Int)≤c.toNat)=false:=by simp;omega
  go_enter Tryz.func256,Tryz.ntmps256;go_wp2;go_ret;exact⟨by simp;omega,rfl⟩
 ·have d1:decide ((65:Int)≤c.toNat)=true:=by simp;omega
  have d2:decide ((c.toNat:Int)≤90)=false:=by simp;omega
  have d3:decide ((97:Int)≤c.toNat)=true:=by simp;omega
  have d4:decide ((c.toNat:Int)≤122)=true:=by simp;omega
  go_enter Tryz.func256,Tryz.ntmps256;go_wp2;go_ret;exact⟨by simp;omega,rfl⟩
 ·have d1:decide ((65:Int)≤c.toNat)=true:=by simp;omega
  have d2:decide ((c.toNat:Int)≤90)=false:=by simp;omega
  have d3:decide ((97:Int)≤c.toNat)=true:=by simp;omega
  have d4:decide ((c.toNat:Int)≤122)=false:=by simp;omega
  go_enter Tryz.func256,Tryz.ntmps256;go_wp2;go_ret;exact⟨by simp;omega,rfl⟩
theorem qeM {l:List UInt8} {k:Nat} (h:k<l.length):(l.drop k).all qaJ=(qaJ (bAt l k) && (l.drop (k+1)).all qaJ):=by
 rw[List.drop_eq_getElem_cons h,List.all_cons,qeT h]
theorem qxS (s:ByteArray) (w:World):Calls Tryz.prog 238 #[.string s] w fun e w'=>e=.returned (.bool (qd2 s.data.toList))∧w=w':=by
 have hsz:s.data.toList.length=s.size:=by simp
 by_cases h0:s.size=0
 ·have hr:qd2 s.data.toList=false:=by unfold qd2;rw[hsz,h0];rfl
  rw[hr];clear hsz hr;go_enter Tryz.func238,Tryz.ntmps238;go_wp2;go_ret;exact⟨rfl,rfl⟩
 by_cases h32:s.size≤32
 ·have hat:∀ (k:Nat) (h:k<s.size),s[k]'h=bAt s.data.toList k:=fun k h=>by rw[qeT (by omega)];rfl
  generalize hL:s.data.toList=l at hsz hat ⊢;have hnm:qd2 l=(qa8 (bAt l 0) && l.all qaJ):=by
   unfold qd2;rw[hsz,decide_eq_true (by omega:0<s.size),decide_eq_true h32];rfl
  rw[hnm];have HL:=fun c W=>qpQ c W;cases hb0:qa8 (bAt l 0) with
  | false =>
   have HB0:=hid hb0;have HLL:=hid HL;clear hL hnm hsz hb0 HL;go_enter Tryz.func238,Tryz.ntmps238;go_wp2_with (go_at_call 256;refine(HLL.out _ _).mono ?_;rintro e w' ⟨rfl,rfl⟩;try rw[HB0.out]);go_ret;exact⟨rfl,rfl⟩
  | true =>
   have HB0:=hid hb0;have HLL:=hid HL;have HSZ:=hid hsz;have d0:((s.size:Int)==0)=false:=beq_eq_false_iff_ne.2 (by omega);have d1:decide ((32:Int)<s.size)=false:=decide_eq_false (by omega);clear hL hnm hsz hb0 HL;go_enter Tryz.func238,Tryz.ntmps238;go_wp2_with (go_at_call 256;refine(HLL.out _ _).mono ?_;rintro e w' ⟨rfl,rfl⟩;try rw[HB0.out]);go_loop [20] (fun i=>∃ k:Nat,k≤s.size∧i=.int .i64 k∧Hid (l.all qaJ=(l.drop k).all qaJ)) (fun i=>s.size-(intOf i).toNat)
   case atStart=>exact⟨0,by omega,rfl,hid (by rw[List.drop_zero])⟩
   case round =>
    obtain⟨k,hk,rfl,HE⟩:=hrel;have hsz:=HSZ.out;rcases Nat.lt_or_ge k s.size with hlt|hge
    ·have x1:∀ h:k<s.size,s[k]'h=bAt l k:=fun h=>hat k h;clear hat;have hwb:qaJ (bAt l k)=(qa8 (bAt l k) || qa1 (bAt l k) || bAt l k==95):=rfl;have hc:=(bAt l k).toNat_lt;obtain⟨c,hcx⟩:∃ c,bAt l k=c:=⟨_,rfl⟩
     have HCX:=hid hcx;rw[hcx] at x1 hwb hc;cases hlc:qa8 c with
     | true =>
      have HC:=hid hlc;have HWB:Hid (qaJ c=true):=hid (by rw[hwb,hlc];rfl);clear hsz hwb hcx hlc;go_wp2_with (go_at_call 256;refine(HLL.out _ _).mono ?_;rintro e w' ⟨rfl,rfl⟩;rw[HC.out])
      go_round
      case rel=>exact⟨k+1,by omega,by go_num,hid (by rw[HE.out,qeM (by rw[HSZ.out];exact hlt),HCX.out,HWB.out];rfl)⟩
      case measure=>simp[intOf];omega
     | false =>
     have HC:=hid hlc;by_cases h95:c=95
     ·have HWB:Hid (qaJ c=true):=hid (by rw[h95];rfl);have d2:((c.toNat:Int) != 95)=false:=by rw[h95];rfl
      clear h95;clear hsz hwb hcx hlc;go_wp2_with (go_at_call 256;refine(HLL.out _ _).mono ?_;rintro e w' ⟨rfl,rfl⟩;rw[HC.out])
      go_round
      case rel=>exact⟨k+1,by omega,by go_num,hid (by rw[HE.out,qeM (by rw[HSZ.out];exact hlt),HCX.out,HWB.out];rfl)⟩
      case measure=>simp[intOf];omega
     have d2:((c.toNat:Int) != 95)=true:=qe8 (d:=95) h95;have h95b:(c==95)=false:=beq_eq_false_iff_ne.2 h95;by_cases h48:c.toNat<48
     ·have HWB:Hid (qaJ c=false):=hid (by rw[hwb,hlc,h95b];unfold qa1;rw[decide_eq_false (by omega)];rfl);have d3:decide ((c.toNat:Int)<48)=true:=decide_eq_true (by omega);clear h95 h95b;clear hsz hwb hcx hlc;go_wp2_with (go_at_call 256;refine(HLL.out _ _).mono ?_;rintro e w' ⟨rfl,rfl⟩;rw[HC.out]);go_ret;exact⟨by rw[HE.out,qeM (by rw[HSZ.out];exact hlt),HCX.out,HWB.out];rfl,rfl⟩
     have d3:decide ((c.toNat:Int)<48)=false:=decide_eq_false (by omega);by_cases h57:57<c.toNat
     ·have HWB:Hid (qaJ c=false):=hid (by rw[hwb,hlc,h95b];unfold qa1;rw[decide_eq_false (by omega)];rfl);have d4:decide ((57:Int)<c.toNat)=true:=decide_eq_true (by omega);clear h95 h95b;clear hsz hwb hcx hlc;go_wp2_with (go_at_call 256;refine(HLL.out _ _).mono ?_;rintro e w' ⟨rfl,rfl⟩;rw[HC.out]);go_ret;exact⟨by rw[HE.out,qeM (by rw[HSZ.out];exact hlt),HCX.out,HWB.out];rfl,rfl⟩
     ·have HWB:Hid (qaJ c=true):=hid (by rw[hwb,hlc,h95b];unfold qa1;rw[decide_eq_true (by omega)];rfl);have d4:decide ((57:Int)<c.toNat)=false:=decide_eq_false (by omega);clear h95 h95b;clear hsz hwb hcx hlc;go_wp2_with (go_at_call 256;refine(HLL.out _ _).mono ?_;rintro e w' ⟨rfl,rfl⟩;rw[HC.out])
      go_round
      case rel=>exact⟨k+1,by omega,by go_num,hid (by rw[HE.out,qeM (by rw[HSZ.out];exact hlt),HCX.out,HWB.out];rfl)⟩
      case measure=>simp[intOf];omega
    ·obtain rfl:k=s.size:=by omega
     clear hsz;go_wp2;go_ret;exact⟨by rw[HE.out,List.drop_of_length_le (by rw[HSZ.out];exact Nat.le_refl _)];rfl,rfl⟩
 ·have hr:qd2 s.data.toList=false:=by unfold qd2;rw[hsz,decide_eq_false h32];simp
  rw[hr];clear hsz hr;go_enter Tryz.func238,Tryz.ntmps238;go_wp2;go_ret;exact⟨rfl,rfl⟩
set_option maxHeartbeats 2000000
theorem qyQ {k:Nat} {l:List UInt8} (hk:k<27) (h1:qb3 k=7) (h2:0<qeJ k) (h3:qcF k=l):qcX l=k:=by
 have:∀ k:Fin 27,qb3 k.val=7→0<qeJ k.val→qcX (qcF k.val)=k.val:=by decide
 rw[← h3];exact this ⟨k,hk⟩ h1 h2
theorem qlB {l:List UInt8} (h:qcX l≠0):qb3 (qcX l)=7∧0<qeJ (qcX l)∧qcF (qcX l)=l:=by
 unfold qcX at h ⊢;split
 ·rename_i h1;rw[h1];decide
 split
 ·rename_i h1;rw[h1];decide
 split
 ·rename_i h1;rw[h1];decide
 split
 ·rename_i h1;rw[h1];decide
 split
 ·rename_i h1;rw[h1];decide
 split
 ·rename_i h1;rw[h1];decide
 split
 ·rename_i h1;rw[h1];decide
 split
 ·rename_i h1;rw[h1];decide
 split
 ·rename_i h1;rw[h1];decide
 rename_i h1 h2 h3 h4 h5 h6 h7 h8 h9;rw[if_neg h1,if_neg h2,if_neg h3,if_neg h4,if_neg h5,if_neg h6,if_neg h7,if_neg h8,if_neg h9] at h;exact absurd rfl h
theorem qwE {l:List UInt8} (h:∀ j,j<27→¬ (qb3 j=7∧0<qeJ j∧qcF j=l)):qcX l=0:=by
 rcases Decidable.em (qcX l=0) with h0|h0
 ·exact h0
 ·exact absurd (qlB h0) (h _ (qkM l))
theorem qtU (s:ByteArray) (w:World) (hT:Tab w) (hg:0<w.heap.size) :
  Calls Tryz.prog 233 #[.string s] w fun e w'=>e=.returned (.int .i64 (qcX s.data.toList:Nat))∧Below w.heap.size w w':=by
 have HT:=hid hT;clear hT;go_enter Tryz.func233,Tryz.ntmps233;go_wp2
 go_loopw [5] (fun i wr=>∃ k:Nat,i=.int .i64 k∧k≤27∧Hid (Below w.heap.size w wr)∧Hid (∀ j,j<k→¬ (qb3 j=7∧0<qeJ j∧qcF j=s.data.toList))) (fun i _=>27-(intOf i).toNat)
 case atStart=>exact⟨0,rfl,by omega,hid (Below.refl _ w),hid fun j hj=>absurd hj (by omega)⟩
 case round =>
  obtain⟨k,rfl,hk,HB,HN⟩:=hrel;rcases Nat.lt_or_ge k 27 with hlt|hge
  ·obtain⟨c0,c1,c2⟩:=(HT.out.of_block (HB.out.block _ hg)) k hlt;have hhit:=qyQ (k:=k) (l:=s.data.toList) hlt;obtain⟨tb,htb,htb2⟩:∃ tb:ByteArray,tb=⟨(qcF k).toArray⟩∧tb.data.toList=qcF k:=⟨_,rfl,by simp⟩
   rw[← htb] at c0;have HC:Hid (∀ lv ch:Nat,qb3 k=lv→qeJ k=ch→¬ (lv=7∧0<ch∧tb.data.toList=s.data.toList)→∀ j,j<k+1→¬ (qb3 j=7∧0<qeJ j∧qcF j=s.data.toList)):=hid (by
    intro lv ch h1 h2 h3 j hj;rcases Nat.lt_or_ge j k with h|h
    ·exact HN.out j h
    ·obtain rfl:j=k:=by omega
     rw[h1,h2,← htb2];exact h3)
   rw[← htb2] at hhit;generalize hlv:qb3 k=lv at c1 hhit;generalize hch:qeJ k=ch at c2 hhit;have HC2:=hid (HC.out lv ch hlv hch);have HH:=hid hhit;clear hhit HC htb htb2 hlv hch;by_cases h1:lv=7
   ·subst h1;by_cases h2:0<ch
    ·have d2:decide (0<ch)=true:=decide_eq_true h2;cases h3:(tb.toList==s.toList) with
     | true =>
      have HR:=hid (HH.out rfl h2 (by rw[← qbT,← qbT];exact eq_of_beq h3));clear h2;go_wp2;go_ret;exact⟨by rw[HR.out];rfl,by first|exact HB.out|exact HB.out.alloc HB.out.size _⟩
     | false =>
      have hno:=hid (HC2.out (fun x=>by have:=x.2.2;rw[← qbT,← qbT] at this;rw[this] at h3;simp at h3));clear h2;go_wp2;go_roundw
      case rel=>exact⟨k+1,by go_num,by omega,hid (HB.out.alloc HB.out.size _),hno⟩
      case measure=>simp[intOf];omega
    ·have d2:decide (0<ch)=false:=decide_eq_false h2;have hno:=hid (HC2.out (fun x=>h2 x.2.1));clear h2;go_wp2;go_roundw
     case rel=>exact⟨k+1,by go_num,by omega,hid (HB.out.alloc HB.out.size _),hno⟩
     case measure=>simp[intOf];omega
   ·have d1:((lv:Int)==7)=false:=beq_eq_false_iff_ne.2 (by omega);have hno:=hid (HC2.out (fun x=>h1 x.1));clear h1;go_wp2;go_roundw
    case rel=>exact⟨k+1,by go_num,by omega,hid (HB.out.alloc HB.out.size _),hno⟩
    case measure=>simp[intOf];omega
  ·obtain rfl:k=27:=by omega
   go_wp2;go_ret;exact⟨by rw[qwE HN.out];rfl,HB.out⟩
theorem qgC (k:Nat) (hk:k<27) (w:World) (hT:Tab w) (hg:0<w.heap.size) :
  Calls Tryz.prog 205 #[.int .i64 k] w fun e w'=>e=.returned (.agg #[.string ⟨(qcF k).toArray⟩,.int .i64 (qb3 k:Nat),.int .i64 (qeJ k:Nat)])∧Below w.heap.size w w':=by
 obtain⟨c0,c1,c2⟩:=hT k hk;obtain⟨W0,hW0⟩:∃ W0,W0=w.alloc (.cells #[.string ⟨#[]⟩,.int .i64 0,.int .i64 0] 218):=⟨_,rfl⟩
 have hB0:Below w.heap.size w W0:=by rw[hW0];exact(Below.refl w.heap.size w).alloc (Nat.le_refl _) _
 have hb0:W0.heap[w.heap.size]?=some (.cells #[.string ⟨#[]⟩,.int .i64 0,.int .i64 0] 218 (0,0)):=by rw[hW0];exact heap_alloc_new _ _
 replace c0:W0.cell? ⟨0,k * 3,none⟩=_:=(hB0.cell (p:=⟨0,k * 3,none⟩) hg).trans c0;replace c1:W0.cell? ⟨0,k * 3+1,none⟩=_:=(hB0.cell (p:=⟨0,k * 3+1,none⟩) hg).trans c1;replace c2:W0.cell? ⟨0,k * 3+2,none⟩=_:=(hB0.cell (p:=⟨0,k * 3+2,none⟩) hg).trans c2;have HX:=hid hb0;have HB:=hid hB0;have HW:=hid hW0;have hz:w.heap.size<W0.heap.size:=lt_of_block hb0;have n0:W0.cell? ⟨w.heap.size,0,none⟩=some (.string ⟨#[]⟩):=by rw[cell_of_row W0 _ 0 _ _ _ hb0];rfl
 have n1:W0.cell? ⟨w.heap.size,1,none⟩=some (.int .i64 0):=by rw[cell_of_row W0 _ 1 _ _ _ hb0];rfl
 have n2:W0.cell? ⟨w.heap.size,2,none⟩=some (.int .i64 0):=by rw[cell_of_row W0 _ 2 _ _ _ hb0];rfl
 have f0:W0.frozen? ⟨w.heap.size,0,none⟩=false:=frozen_of_row W0 _ 0 _ _ hb0;have f1:W0.frozen? ⟨w.heap.size,1,none⟩=false:=frozen_of_row W0 _ 1 _ _ hb0;have f2:W0.frozen? ⟨w.heap.size,2,none⟩=false:=frozen_of_row W0 _ 2 _ _ hb0;generalize qcF k=tx at c0 ⊢;generalize qb3 k=lv at c1 ⊢;generalize qeJ k=ch at c2 ⊢;have d1:decide ((k:Int)<0)=false:=decide_eq_false (by omega);have d2:decide ((27:Int)≤k)=false:=decide_eq_false (by omega);clear hT hB0 hb0 hW0;go_enter Tryz.func205,Tryz.ntmps205;go_upto_region 1 with (fail);rw[← HW.out];go_wp2;refine bodyPost_ret (v:=.agg #[.string ⟨tx.toArray⟩,.int .i64 lv,.int .i64 ch]) ?_ rfl ⟨rfl,?_⟩
 ·refine results_cell_row rfl _ _ w.heap.size 218 #[.string ⟨tx.toArray⟩,.int .i64 lv,.int .i64 ch] (0,0) _ rfl ?_ Tryz.underlying218 rfl (by kernel_rfl);exact heap_setCell_same _ _ 2 _ _ _ (heap_setCell_same _ _ 1 _ _ _ (heap_setCell_same _ _ 0 _ _ _ HX.out))
 ·exact((HB.out.setCell (Nat.le_refl _) _).setCell (Nat.le_refl _) _).setCell (Nat.le_refl _) _
def upd (F:Nat→Nat) (i v:Nat):Nat→Nat:=fun j=>if j=i then v else F j
theorem qcV (F:Nat→Nat) (i v:Nat):upd F i v i=v:=if_pos rfl
theorem qb1 (F:Nat→Nat) {i j:Nat} (v:Nat) (h:j≠i):upd F i v j=F j:=if_neg h
def qhC (F D:Nat→Nat):List Value:=(List.range 64).map (fun j=>.int .i64 (F j))++(List.range 64).map (fun j=>.int .i64 (D j))
def Otl (w:World) (b:Nat) (F D:Nat→Nat):Prop:=w.heap[b]?=some (.cells (qhC F D).toArray 225 (0,0))
theorem jaL (F D:Nat→Nat) {i:Nat} (h:i<64):(qhC F D)[i]?=some (.int .i64 (F i)):=by
 unfold qhC;rw[List.getElem?_append_left (by simpa using h)];simp[h]
theorem jaM (F D:Nat→Nat) {i:Nat} (h:i<64):(qhC F D)[64+i]?=some (.int .i64 (D i)):=by
 unfold qhC;rw[List.getElem?_append_right (by simp)];simp[h]
theorem qoT (F D:Nat→Nat):(qhC F D).length=128:=by simp[qhC]
theorem q0T (F D:Nat→Nat) {i v:Nat} (h:i<64):(qhC F D).set i (.int .i64 v)=qhC (upd F i v) D:=by
 unfold qhC;rw[List.set_append_left _ _ (by simpa using h)]
 congr 1
 apply List.ext_getElem?;intro j;rw[List.getElem?_set];by_cases hj:i=j
 ·subst hj;simp[h,qcV]
 ·rw[if_neg hj];by_cases h2:j<64
  ·simp[h2,qb1 F v (Ne.symm hj)]
  ·simp[h2]
theorem q0U (F D:Nat→Nat) {i v:Nat} (h:i<64):(qhC F D).set (64+i) (.int .i64 v)=qhC F (upd D i v):=by
 unfold qhC;rw[List.set_append_right _ _ (by simp)]
 congr 1
 apply List.ext_getElem?;intro j;rw[List.getElem?_set];simp only[List.length_map,List.length_range,Nat.add_sub_cancel_left];by_cases hj:i=j
 ·subst hj;simp[h,qcV]
 ·rw[if_neg hj];by_cases h2:j<64
  ·simp[h2,qb1 D v (Ne.symm hj)]
  ·simp[h2]
theorem Otl.cF {w:World} {b:Nat} {F D:Nat→Nat} (h:Otl w b F D) {i:Nat} (hi:i<64):w.cell? ⟨b,i,none⟩=some (.int .i64 (F i)):=by
 rw[cell_of_row w b i _ _ _ h]
 simpa using jaL F D hi
theorem Otl.cD {w:World} {b:Nat} {F D:Nat→Nat} (h:Otl w b F D) {i:Nat} (hi:i<64):w.cell? ⟨b,64+i,none⟩=some (.int .i64 (D i)):=by
 rw[cell_of_row w b (64+i) _ _ _ h]
 simpa using jaM F D hi
theorem Otl.fz {w:World} {b:Nat} {F D:Nat→Nat} (h:Otl w b F D) (j:Nat):w.frozen? ⟨b,j,none⟩=false:=frozen_of_row w b j _ _ h
theorem Otl.lt {w:World} {b:Nat} {F D:Nat→Nat} (h:Otl w b F D):b<w.heap.size:=lt_of_block h
theorem Otl.keep {w w':World} {B b:Nat} {F D:Nat→Nat} (h:Otl w b F D) (hb:Below B w w') (hg:b<B):Otl w' b F D:=(hb.block b hg).trans h
theorem Otl.setF {w:World} {b:Nat} {F D:Nat→Nat} (h:Otl w b F D) {i:Nat} (hi:i<64) (v:Nat):Otl (w.setCell ⟨b,i,none⟩ (.int .i64 v)) b (upd F i v) D:=by
 have:=heap_setCell_same w b i _ _ (.int .i64 v) h;unfold Otl;rw[this,← q0T F D hi];simp
theorem Otl.setD {w:World} {b:Nat} {F D:Nat→Nat} (h:Otl w b F D) {i:Nat} (hi:i<64) (v:Nat):Otl (w.setCell ⟨b,64+i,none⟩ (.int .i64 v)) b F (upd D i v):=by
 have:=heap_setCell_same w b (64+i) _ _ (.int .i64 v) h;unfold Otl;rw[this,← q0U F D hi];simp
theorem qpB (b i c:Nat) (F D:Nat→Nat) (w:World) (h:Otl w b F D) (hi:i<64) (hc:c<64) (hF:F i=c+1) (hD:D c≤1000) :
  Calls Tryz.prog 207 #[.pointer (some ⟨b,0,none⟩),.int .i64 i,.int .i64 c] w fun e w'=>e=.returned (.bool true)∧Otl w' b (upd F i (F c)) (upd D i (max (D i) (D c+1)))∧Below b w w'∧∀ k,k≠b→w'.heap[k]?=w.heap[k]?:=by
 have c1:=h.cF hi;have c2:=h.cF hc;have c3:=h.cD hi;have c4:=h.cD hc;have z1:=h.fz i;have z2:=h.fz (64+i);have C2:w.drew.cell? ⟨b,c,none⟩=_:=c2;have hne:∀ j:Nat,(⟨b,i,none⟩:Addr)=⟨b,64+j,none⟩→False:=fun j e=>by
  have:=congrArg Addr.off e;simp only at this;omega
 have HH:=hid h;have HF:=hid hF;rw[hF] at c1;have e1:((c+1:Nat):Int)=(c:Int)+1:=rfl;rw[e1] at c1;clear h hF e1;go_enter Tryz.func207,Tryz.ntmps207;go_upto_region 3 with (fail);go_region;go_upto_region 4 with (fail);have HO:Hid (Otl (w.setCell ⟨b,i,none⟩ (.int .i64 (F c))).drew b (upd F i (F c)) D):=hid (HH.out.setF hi (F c));have HB:Hid (Below b w (w.setCell ⟨b,i,none⟩ (.int .i64 (F c))).drew):=hid (((Below.refl b w).setCell (Nat.le_refl _) _).drew);have HX:Hid (∀ k,k≠b→(w.setCell ⟨b,i,none⟩ (.int .i64 (F c))).drew.heap[k]?=w.heap[k]?):=hid (fun k hk=>Below.heap_setCell _ _ _ _ hk);generalize (w.setCell ⟨b,i,none⟩ (.int .i64 (F c))).drew=W at HO HB HX ⊢;replace c3:=HO.out.cD hi;replace c4:=HO.out.cD hc;replace z2:=HO.out.fz (64+i);clear c1 c2 C2 hne z1 HF;have HR:Hid (Otl (W.setCell ⟨b,64+i,none⟩ (.int .i64 (max (D i) (D c+1):Nat))).drew b (upd F i (F c)) (upd D i (max (D i) (D c+1)))):=hid (HO.out.setD hi _);have HBR:Hid (Below b w (W.setCell ⟨b,64+i,none⟩ (.int .i64 (max (D i) (D c+1):Nat))).drew):=hid (((HB.out).setCell (Nat.le_refl _) _).drew);have hm:(if ((D i:Nat):Int)<(D c:Int)+1 then (D c:Int)+1 else (D i:Int))=((max (D i) (D c+1):Nat):Int):=by split <;> omega
 have HM:=hid hm;clear hm;go_region;rw[HM.out];have HX2:Hid (∀ k,k≠b→(W.setCell ⟨b,64+i,none⟩ (.int .i64 (max (D i) (D c+1):Nat))).drew.heap[k]?=w.heap[k]?):=hid (fun k hk=>(Below.heap_setCell _ _ _ _ hk).trans (HX.out k hk));generalize (W.setCell ⟨b,64+i,none⟩ (.int .i64 (max (D i) (D c+1):Nat))).drew=W2 at HR HBR HX2 ⊢;go_wp2;go_ret;exact⟨rfl,HR.out,HBR.out,HX2.out⟩
end Go.Proofs.YtenlhcgpajphhaaGreatDoor
