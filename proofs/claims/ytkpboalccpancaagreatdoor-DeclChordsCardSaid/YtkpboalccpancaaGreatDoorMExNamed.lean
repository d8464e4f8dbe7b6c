import Derived.Test.YtkpboalccpancaaGreatDoorMTokSame
import Derived.Test.YtkpboalccpancaaGreatDoorMExPlain
import Derived.Test.YtkpboalccpancaaGreatDoorScan
import Derived.Laws.IdiomStrings
namespace Go.Proofs.YtkpboalccpancaaGreatDoor
open Go.RowKit
set_option linter.all false
theorem tw_all {l:List UInt8}:∀ {j:Nat},tw wordB l j=(l.drop j).length ↔ (l.drop j).all wordB=true:=by
 intro j;unfold tw;generalize l.drop j=r
 induction r with
 | nil=>simp
 | cons c r ih =>
  rw[List.takeWhile_cons,List.all_cons];cases hc:wordB c with
  | true=>simp only[if_true,List.length_cons,Nat.add_right_cancel_iff,Bool.true_and];exact ih
  | false=>simp
theorem letter_blank {c:UInt8} (h:letterB c=true):blankB c=false∧c≠35:=by
 have:∀ c:UInt8,letterB c=true→blankB c=false∧c≠35:=fun c=>by
  have:=all_u8 (fun c=>(!letterB c || (!blankB c && !(c==35)))=true) (by decide +kernel) c;intro hl;rw[hl] at this;simp only[Bool.not_true,Bool.false_or,Bool.and_eq_true,Bool.not_eq_true',beq_eq_false_iff_ne] at this;exact this
 exact this c h
theorem named_iff (l:List UInt8):((allR l).2.2=0∧(allR l).1.length=1∧((allR l).1.getD 0 zeroTok).kind=1∧((allR l).1.getD 0 zeroTok).size=l.length) ↔ nameB l=true:=by
 constructor
 ·rintro ⟨h1,h2,h3,h4⟩;unfold allR at h1 h2 h3 h4;by_cases hb:32768<l.length
  ·rw[if_pos hb] at h1;cases h1
  rw[if_neg hb,seqR_S] at h1 h2 h3 h4;generalize hP:0+skipS false (l.drop 0)=P at h1 h2 h3 h4;unfold seqS at h1 h2 h3 h4;by_cases hle:l.length≤P
  ·rw[if_pos hle] at h2;cases h2
  rw[if_neg hle] at h1 h2 h3 h4;by_cases he:(refTok l P).2≠0
  ·rw[if_pos he] at h1;exact absurd h1 he
  rw[if_neg he] at h1 h2 h3 h4;have he0:=Classical.not_not.1 he;have h3':(refTok l P).1.kind=1:=h3;have h4':(refTok l P).1.size=l.length:=h4;obtain⟨z1,z2,_⟩:=refTok_size (l:=l) (i:=P) (by omega) he0;obtain rfl:P=0:=by omega
  obtain⟨s1,s2⟩:=same_tok (l:=l) (A:=0) (by omega);have he':(tokAt l 0).2=0:=by rw[s1,he0]
  obtain⟨k1,k2,k3,k4⟩:=tok_kind (l:=l) (A:=0) (by omega) he';have hk:(spanE l 0).1=1:=by rw[← k3,s2 he',h3']
  have hlet:letterB (bAt l 0)=true:=by
   cases hl:letterB (bAt l 0) with
   | true=>rfl
   | false =>
    exfalso;unfold spanE at hk;rw[hl,if_neg (by decide)] at hk;split at hk
    ·unfold numEnd at hk;split at hk
     ·cases hk
     ·split at hk <;> cases hk
    ·split at hk
     ·cases hk
     ·split at hk <;> cases hk
  have hrt:refTok l 0=refName l 0:=by unfold refTok;rw[if_pos hlet]
  rw[hrt] at he0 h4';unfold refName at he0 h4';by_cases h32:32<1+tw wordB l (0+1)
  ·rw[if_pos h32] at he0;cases he0
  have h32b:¬ 32<1+tw wordB l 1:=h32;rw[if_neg h32] at h4';have h5:1+tw wordB l 1=l.length:=h4';have hall:(l.drop 1).all wordB=true:=tw_all.1 (by rw[List.length_drop];omega);have h0:0<l.length:=by omega
  have hd:=drop_bAt h0;rw[List.drop_zero] at hd;unfold nameB;rw[decide_eq_true h0,decide_eq_true (show l.length≤32 by omega),hlet];simp only[Bool.true_and];rw[hd,List.all_cons,hall];unfold wordB;rw[hlet];rfl
 ·intro h;unfold nameB at h;simp only[Bool.and_eq_true,decide_eq_true_eq] at h;obtain⟨⟨⟨h0,h32⟩,hlet⟩,hall⟩:=h;have hd:=drop_bAt h0;rw[List.drop_zero] at hd;have hall1:(l.drop 1).all wordB=true:=by rw[hd,List.all_cons] at hall;exact(Bool.and_eq_true _ _ ▸ hall).2
  have htw:=tw_all.2 hall1;rw[List.length_drop] at htw;obtain⟨hbl,h35⟩:=letter_blank hlet;have hskip:skipS false (l.drop 0)=0:=RAt.here h0 hbl h35;have hrt:refTok l 0=(⟨1,(l.drop 0).take (1+tw wordB l (0+1)),0,0,0,1+tw wordB l (0+1)⟩,0):=by
   unfold refTok;rw[if_pos hlet];unfold refName;rw[if_neg (by rw[Nat.zero_add,htw];omega)]
  have hR:allR l=([(refTok l 0).1],0,0):=by
   unfold allR;rw[if_neg (by omega),seqR_S,hskip];unfold seqS;rw[if_neg (by omega),hrt,if_neg (fun x=>x rfl)];have e:(0:Nat)+0+(1+tw wordB l (0+1))=l.length:=by rw[Nat.zero_add 1,htw];omega
   show (_ :: (seqR l.length l (0+0+(1+tw wordB l (0+1)))).1,(seqR l.length l (0+0+(1+tw wordB l (0+1)))).2)=_;rw[e];obtain⟨m,hm⟩:∃ m,l.length=m+1:=⟨l.length-1,by omega⟩
   have hs:seqR l.length l l.length=([],0,0):=by
    generalize hL:l.length=N at *
    obtain rfl:N=m+1:=hm;rw[seqR_S];unfold seqS;rw[if_pos (by omega)]
   rw[hs]
  rw[hR,hrt];refine⟨rfl,rfl,rfl,?_⟩;show 1+tw wordB l (0+1)=l.length;rw[Nat.zero_add,htw];omega
open Lib(hid)
set_option maxRecDepth 100000
set_option maxHeartbeats 4000000
def flatR (xs:List Tok):List Value:=xs.flatMap tokCells
theorem flatR_snoc (xs:List Tok) (x:Tok):flatR (xs++[x])=flatR xs++tokCells x:=by simp[flatR]
theorem infoRTok:(Tryz.prog.info? 59).map (fun i=>(i.zero,i.size,i.bytes))=some (some (.agg #[.int .i64 0,.string ByteArray.empty,.int .i64 0,.float .f64 0,.int .i64 0,.int .i64 0]),6,56):=by kernel_rfl
theorem RAt.few {l:List UInt8} {done:List Tok} {i:Nat} {c:Bool} (h:RAt l done i c):done.length≤l.length:=by
 obtain⟨_,f,_,e⟩:=h;have:=seqR_few (l:=l) (l.length+1) 0 (Nat.zero_le _);rw[e] at this;simp at this;omega
theorem own_below {w w':World} {B base size n:Nat} {e:TypeId} {v:Value} {xs:List Value} (h:w.ownsRow base e size v n xs) (hb:Below B w w') (hB:w.heap.size≤B):w'.ownsRow base e size v n xs:=by
 refine⟨h.1,?_⟩;rcases h.2 with hn|⟨g,cap,cur,rfl,hbs,hgg,rest⟩
 ·exact .inl hn
 ·refine .inr ⟨g,cap,cur,rfl,hbs,?_,rest⟩;rw[hb.block g (by have:=(Array.getElem?_eq_some_iff.1 hgg).1;omega)];exact hgg
theorem tok_one (t:Tok):∀ u ∈ tokCells t,u.oneCell'=true:=by
 intro u hu;simp[tokCells] at hu;rcases hu with rfl|rfl|rfl|rfl|rfl|rfl <;> rfl
def RScan (l:List UInt8) (w:World) (e:Ending) (w':World):Prop :=
 Below w.heap.size w w'∧∃ v,e=.returned (.tuple #[v,.int .i64 (allR l).2.1,.int .i64 (allR l).2.2])∧w'.ownsRow w.heap.size 59 6 v (allR l).1.length (flatR (allR l).1)
theorem rscan_of {l:List UInt8} {w w':World} {e:Ending} {xs:List Tok} {P E:Nat} {v:Value} (h:allR l=(xs,P,E)) (hb:Below w.heap.size w w') (he:e=.returned (.tuple #[v,.int .i64 P,.int .i64 E]))
  (ho:w'.ownsRow w.heap.size 59 6 v xs.length (flatR xs)):RScan l w e w':=by
 unfold RScan;rw[h];exact⟨hb,v,he,ho⟩
theorem refScan_any (a:Option Addr) (n cap:Nat) (l:List UInt8) (w:World) (hT:Txt w a n cap l) (hr:n≤140737488351232) :
  Calls Tryz.prog 21 #[.slice a n cap] w (RScan l w):=by
 obtain⟨i0,hi,hz0,hz1,hz2⟩:=info_parts infoRTok;have hl:=hT.1;have HT:=hid hT;have HL:=hid hl;clear hT hl;rcases Nat.lt_or_ge 32768 n with hlong|hshort
 ·have hall:allR l=([],0,3):=by unfold allR;rw[if_pos (by rw[HL.out];exact hlong)]
  have HALL:=hid hall;have hd:decide ((32768:Int)<(n:Int))=true:=by simp;omega
  clear hall;go_enter Tryz.func21,Tryz.ntmps21;go_wp2
  go_ret3
  exact rscan_of HALL.out (Below.refl _ _) rfl (World.ownsRow_nil _ _ _ _)
 ·have hall:allR l=seqR (l.length+1) l 0:=by unfold allR;rw[if_neg (by rw[HL.out];omega)]
  have HALL:=hid hall;have hd:decide ((32768:Int)<(n:Int))=false:=by simp;omega
  clear hall;have sf:∀ (p:Addr) (b:Nat) (m:Mode) (w':World),(store p (.float .f64 b) m).run Tryz.prog w'=stored Tryz.prog w' p (.float .f64 b) m:=fun p b m w'=>run_store _ w' p _ m rfl;go_enter Tryz.func21,Tryz.ntmps21;go_wp2_with fail
  go_loopw [5,6] (fun b i wr=>∃ (k:Nat) (done:List Tok),i=.int .i64 k∧k≤n∧wr.ownsRow w.heap.size 59 6 b done.length (flatR done)∧Hid (RAt l done k false)∧Below w.heap.size w wr)
   (fun _ i _=>n-(intOf i).toNat)
  case atStart=>exact⟨0,[],rfl,Nat.zero_le _,World.ownsRow_nil _ _ _ _,RAt.init l,Below.refl _ _⟩
  case round =>
   obtain⟨k,done,rfl,hk,hown,HR,hbr⟩:=hrel;have HOWN:=hid hown;have HBR:=hid hbr;have hsz:=hbr.size;have hfew:done.length≤32768:=by have:=HR.out.few;have:=HL.out;omega
   clear hown hbr;rcases Nat.lt_or_ge k n with hlt|hge
   ·have hkl:k<l.length:=by rw[HL.out];exact hlt
    have hTr:=HT.out.below HBR.out (Nat.le_refl _);have HTR:=hid hTr;obtain⟨b,o,rfl,hc0⟩:=hTr.cellAt hlt;clear hTr;obtain⟨c,hc⟩:∃ c,c=bAt l k:=⟨_,rfl⟩
    rw[← hc] at hc0;have HC:=hid hc;have HKL:=hid hkl;clear hc hkl;by_cases hb:blankB c=true
    ·have HBL:Hid (Calls Tryz.prog 42 #[.int .u8 c.toNat] wr fun e w'=>e=.returned (.bool true)∧wr=w'):=by
      have:=refBlank_any c wr;rw[hb] at this;exact hid this
     have HR1:=hid (HR.out.blank HKL.out (by rw[← HC.out];exact hb));clear hb;go_wp2_with fail;refine HBL.out.mono ?_;rintro e w' ⟨rfl,rfl⟩;go_wp2_with fail;go_roundw
     case rel=>exact⟨k+1,done,by go_num,hlt,HOWN.out,HR1,HBR.out⟩
     case measure=>simp[intOf];omega
    ·have hb':blankB c=false:=by simpa using hb
     have HBL:Hid (Calls Tryz.prog 42 #[.int .u8 c.toNat] wr fun e w'=>e=.returned (.bool false)∧wr=w'):=by
      have:=refBlank_any c wr;rw[hb'] at this;exact hid this
     by_cases h35:c=35
     ·have HR1:=hid (HR.out.hash HKL.out (by rw[← HC.out];exact h35));have t35:((c.toNat:Int)==35)=true:=by rw[h35];rfl
      have H35:=hid h35;clear hb hb' h35;go_wp2_with fail;refine HBL.out.mono ?_;rintro e w' ⟨rfl,rfl⟩;go_wp2_with fail;clear hc0;go_loop [6] (fun i=>∃ k2:Nat,i=.int .i64 k2∧k≤k2∧k2≤n∧Hid (RAt l done k2 true)) (fun i=>n-(intOf i).toNat)
      case atStart=>exact⟨k,rfl,Nat.le_refl _,hk,HR1⟩
      case round =>
       obtain⟨k2,rfl,hk2,hk3,HR2⟩:=hrel;rcases Nat.lt_or_ge k2 n with hlt2|hge2
       ·obtain⟨b',o',e',hc2⟩:=HTR.out.cellAt hlt2;cases e';by_cases h10:bAt l k2=10
        ·have t10:(((bAt l k2).toNat:Int) != 10)=false:=by rw[h10];rfl
         have HR3:=hid (HR2.out.out fun _=>h10);have hne:k<k2:=by
          rcases Nat.lt_or_ge k k2 with h|h
          ·exact h
          ·have e:k2=k:=by omega
           rw[e,← HC.out,H35.out] at h10;cases h10
         obtain⟨d,hd⟩:∃ d,d=bAt l k2:=⟨_,rfl⟩
         rw[← hd] at hc2 t10;clear h10 hd;go_wp2_with fail;go_roundw
         case rel=>exact⟨k2,done,rfl,hk3,HOWN.out,HR3,HBR.out⟩
         case measure=>simp[intOf];omega
        ·have t10:(((bAt l k2).toNat:Int) != 10)=true:=u8_neqn (d:=10) h10;have HR3:=hid (HR2.out.inside (by rw[HL.out];exact hlt2) h10);obtain⟨d,hd⟩:∃ d,d=bAt l k2:=⟨_,rfl⟩
         rw[← hd] at hc2 t10;clear h10 hd;go_wp2_with fail
         go_round
         case rel=>exact⟨k2+1,by go_num,by omega,hlt2,HR3⟩
         case measure=>simp[intOf];omega
       ·have HR3:=hid (HR2.out.out fun h=>absurd h (by rw[HL.out];omega));have hne:k<k2:=by omega
        go_wp2_with fail;go_roundw
        case rel=>exact⟨k2,done,rfl,hk3,HOWN.out,HR3,HBR.out⟩
        case measure=>simp[intOf];omega
     ·have t35:((c.toNat:Int)==35)=false:=by
       have:=(u8_is (c:=c) (k:=35) (by decide)).2 h35;exact this.1
      have hbl:blankB (bAt l k)=false:=by rw[← HC.out];exact hb'
      have hnh:bAt l k≠35:=by rw[← HC.out];exact h35
      obtain⟨t,ht⟩:∃ t,t=refTok l k:=⟨_,rfl⟩
      have htk:=refTok_any (some ⟨b,o,none⟩) n cap k l wr HTR.out hr hlt;have hbad:=fun he=>HR.out.bad HKL.out hbl hnh he;have hgo:=fun he=>HR.out.token HKL.out hbl hnh he;have hsize:=fun he=>refTok_size HKL.out he;rw[← ht] at htk hbad hgo hsize;have HTK:=hid htk;have HBAD:=hid hbad;have HGO:=hid hgo;have HSIZE:=hid hsize;clear hb hb' h35 hbl hnh ht htk hbad hgo hsize;go_wp2_with fail;refine HBL.out.mono ?_;rintro e w' ⟨rfl,rfl⟩;go_wp2_with fail;refine HTK.out.mono ?_;rintro e w5 hrt;obtain⟨⟨k0,t0,i0',r0,a0,s0⟩,er⟩:=t;obtain⟨rfl,hb5⟩:=hrt;unfold tokVal;have hz5:=hb5.size;obtain⟨wx,hwx⟩:∃ wx,wx=w5.alloc (.cells #[.int .i64 k0,.string ⟨t0.toArray⟩,.int .i64 i0',.float .f64 r0,.int .i64 a0,.int .i64 s0] 59):=⟨_,rfl⟩
      have hbx5:Below wr.heap.size wr wx:=by rw[hwx];exact hb5.alloc hz5 _
      have hbx:Below w.heap.size w wx:=HBR.out.trans (hbx5.mono hsz);have hownx:wx.ownsRow w.heap.size 59 6 _ done.length (flatR done):=own_below HOWN.out hbx5 (Nat.le_refl _);have hblk:wx.heap[w5.heap.size]?=some (.cells #[.int .i64 k0,.string ⟨t0.toArray⟩,.int .i64 i0',.float .f64 r0,.int .i64 a0,.int .i64 s0] 59 (0,0)):=by rw[hwx];exact heap_alloc_new w5 _
      have hzx:wx.heap.size=w5.heap.size+1:=by rw[hwx];simp
      have HWX:=hid hwx;have HBX:=hid hbx;have HOX:=hid hownx;have HBLK:=hid hblk;have HZX:=hid hzx;clear hwx hbx hownx hblk hzx hbx5 hb5 hc0;by_cases her:er=0
      ·subst her;have hsz2:=HSIZE.out rfl;have HR2:=hid (HGO.out rfl);have z1:0<s0:=hsz2.1;have z2:k+s0≤n:=by rw[← HL.out];exact hsz2.2.1
       clear hsz2;have x0:wx.cell? ⟨w5.heap.size,0,none⟩=some (.int .i64 k0):=by simp[World.cell?,HBLK.out]
       have x1:wx.cell? ⟨w5.heap.size,1,none⟩=some (.string ⟨t0.toArray⟩):=by simp[World.cell?,HBLK.out]
       have x2:wx.cell? ⟨w5.heap.size,2,none⟩=some (.int .i64 i0'):=by simp[World.cell?,HBLK.out]
       have x3:wx.cell? ⟨w5.heap.size,3,none⟩=some (.float .f64 r0):=by simp[World.cell?,HBLK.out]
       have x4:wx.cell? ⟨w5.heap.size,4,none⟩=some (.int .i64 a0):=by simp[World.cell?,HBLK.out]
       have x5:wx.cell? ⟨w5.heap.size,5,none⟩=some (.int .i64 s0):=by simp[World.cell?,HBLK.out]
       have e0:((0:Nat):Int)=0:=rfl;go_upto_region 12 with (fail);rw[← HWX.out];go_wp2_with (at_builtin;refine wpList_append_own _ rfl (.tmp 52) (.tmp 54) 54 rfl w.heap.size 59 i0 (.agg #[.int .i64 0,.string ByteArray.empty,.int .i64 0,.float .f64 0,.int .i64 0,.int .i64 0]) 6 56 Tryz.underlying54 hi hz0 hz1 hz2 rfl (by decide) _ _ _ rfl (HOX.out.alloc _) ⟨wx.heap.size,0,none⟩ 1 1 (tokCells ⟨k0,t0,i0',r0,a0,s0⟩) rfl rfl (cells_new wx _ _) (tok_one _) (by unfold maxLen;omega) (by omega) (by have:=HBX.out.size;simp;omega) ?_);intro v2 w8 hown2 hgrow2 _;have hb8:Below w.heap.size w w8:=(HBX.out.alloc HBX.out.size _).grown hgrow2 (by have:=HBX.out.size;simp;omega) (fun b hb=>(HOWN.out.lt b hb).1);have hc5:w8.cell? ⟨w5.heap.size,5,none⟩=some (.int .i64 s0):=by
        have hlt5:w5.heap.size<wx.heap.size:=by rw[HZX.out];omega
        have h1:=hgrow2.block w5.heap.size (by simp;omega) (fun e=>by have:=(HOWN.out.lt _ e.symm).2;omega);rw[World.cell?_of_block (h1.trans (Below.heap_alloc _ _ _ hlt5))];exact x5
       have hown3:w8.ownsRow w.heap.size 59 6 v2 (done++[(⟨k0,t0,i0',r0,a0,s0⟩:Tok)]).length (flatR (done++[⟨k0,t0,i0',r0,a0,s0⟩])):=by
        rw[flatR_snoc,List.length_append];exact hown2
       have HB8:=hid hb8;have HO8:=hid hown3;clear x0 x1 x2 x3 x4 x5 hb8 hgrow2 hown2 hown3;go_wp2_with fail;go_roundw
       case rel=>exact⟨k+s0,done++[⟨k0,t0,i0',r0,a0,s0⟩],by go_num,z2,HO8.out,HR2,HB8.out⟩
       case measure=>simp[intOf];omega
      ·have z1:((er:Int)==0)=false:=by rw[beq_eq_false_iff_ne];omega
       have z2:((er:Int) != 0)=true:=by rw[bne_iff_ne];omega
       have z3:(er==0)=false:=by rw[beq_eq_false_iff_ne];exact her
       have z4:(er != 0)=true:=by rw[bne_iff_ne];exact her
       have HB:=hid (HBAD.out her);clear her;go_upto_region 12 with (fail);rw[← HWX.out];go_wp2_with fail
       go_ret3
       exact rscan_of (by rw[HALL.out];exact HB.out) HBX.out rfl HOX.out
   ·obtain rfl:k=n:=by omega
    have HS:=hid (HR.out.stop (by rw[HL.out];exact Nat.le_refl _));go_wp2_with fail
    go_ret3
    exact rscan_of (by rw[HALL.out];exact HS.out) HBR.out rfl HOWN.out
open Go.Shelf
theorem esize_list (s:ByteArray):s.data.toList.length=s.size:=Array.length_toList
theorem etext_bytes (s:ByteArray) (w:World) (h:s.size≤maxLen):∃ c w',(convert 9 22 (.string s)).run Tryz.prog w=.ok (.slice (some ⟨w.heap.size,0,none⟩) s.size c) w'∧Txt w' (some ⟨w.heap.size,0,none⟩) s.size c s.data.toList∧Below w.heap.size w w':=by
 refine⟨_,_,run_bytes_of_string w 9 22 5 s Tryz.underlying9 Tryz.underlying22 Tryz.underlying5,?_,((Below.refl _ w).drew).alloc (Nat.le_refl _) _⟩;refine⟨esize_list s,grownCap_ge _ _ _ _,grownCap_le_maxLen _ _ _ _ h,.inr ⟨_,rfl,fun i hi=>?_⟩⟩;have hi':i<s.data.size:=by simpa using hi
 have e1:(⟨w.heap.size,0,none⟩:Addr).add i=⟨w.heap.size,i,none⟩:=by unfold Addr.add;simp;intro h;exact h.symm
 have e2:=bytesRow_at s (grownCap w s.size 0 5) i hi';rw[e1];have e3:=heap_alloc_new w.drew (.cells (bytesRow s (grownCap w s.size 0 5)) 5 ((bytesRow s (grownCap w s.size 0 5)).size,(bytesRow s (grownCap w s.size 0 5)).size+1));unfold World.cell?;rw[show w.heap.size=w.drew.heap.size from rfl];simp only[e3];rw[e2];simp
theorem eflatR_at:∀ (xs:List Tok) (k j:Nat) (x:Tok),xs[k]?=some x→j<6→(flatR xs)[k * 6+j]?=(tokCells x)[j]?
 | [],k,j,x,h,_=>by simp at h
 | y :: ys,0,j,x,h,hj=>by
  simp at h;subst h;have:(tokCells y).length=6:=rfl;unfold flatR;rw[List.flatMap_cons,List.getElem?_append_left (by omega)];simp
 | y :: ys,k+1,j,x,h,hj=>by
  have hl:(tokCells y).length=6:=rfl;have:=eflatR_at ys k j x (by simpa using h) hj;unfold flatR at this ⊢;rw[List.flatMap_cons,List.getElem?_append_right (by omega),hl];rw[show (k+1) * 6+j-6=k * 6+j by omega];exact this
theorem eform6 {w:World} {base e N:Nat} {v:Value} {xs:List Value} (hown:w.ownsRow base e 6 v N xs):∃ ba bc,v=.slice ba N bc:=by
 rcases hown.2 with ⟨h,h0⟩|⟨g,cap,cur,h,_⟩
 ·exact⟨none,0,by rw[h,h0]⟩
 ·exact⟨_,_,h⟩
theorem etok_row {w:World} {base N:Nat} {e:TypeId} {v:Value} {xs:List Tok} (hN:xs.length=N) (h:w.ownsRow base e 6 v N (flatR xs)) (h0:0<N):∃ g c,v=.slice (some ⟨g,0,none⟩) N c∧base≤g∧g<w.heap.size∧∀ (k j:Nat) x u,xs[k]?=some x→(tokCells x)[j]?=some u→w.cell? ⟨g,k * 6+j,none⟩=some u:=by
 rcases h.2 with ⟨he,h0'⟩|⟨g,cap,cur,he,hb,hgg,_⟩
 ·omega
 ·subst he;refine⟨g,cap,rfl,hb,lt_of_block hgg,fun k j x u hx hu=>?_⟩;obtain⟨hk,_⟩:=List.getElem?_eq_some_iff.1 hx;have hj:j<6:=by obtain⟨hj,_⟩:=List.getElem?_eq_some_iff.1 hu;exact hj
  rw[h.cellAt (k * 6+j) (by omega),eflatR_at xs k j x hx hj];exact hu
theorem named_false {l:List UInt8} (h:¬ ((allR l).2.2=0∧(allR l).1.length=1∧((allR l).1.getD 0 zeroTok).kind=1∧((allR l).1.getD 0 zeroTok).size=l.length)):nameB l=false:=by
 cases hn:nameB l with
 | false=>rfl
 | true=>exact absurd ((named_iff l).2 hn) h
theorem named_any (s:ByteArray) (hs:s.size≤140737488351232) (w:World):Calls Tryz.prog 161 #[.string s] w fun e w'=>e=.returned (.bool (nameB s.data.toList))∧Below w.heap.size w w':=by
 obtain⟨c,w1,hcv,hT,hb1⟩:=etext_bytes s w (Nat.le_trans hs (by decide));have HS:=hid (refScan_any _ _ _ _ w1 hT hs);have HB1:=hid hb1;have hn1:=named_iff s.data.toList;have hn0:=@named_false s.data.toList;have hsz:=esize_list s;have hle:=hb1.size;unfold RScan at HS;generalize hR:allR s.data.toList=R at HS hn1 hn0;obtain⟨xs,P,E⟩:=R;simp only at HS hn1 hn0;rw[hsz] at hn1 hn0;generalize nameB s.data.toList=nb at hn1 hn0 ⊢;obtain⟨n,hn⟩:∃ n,n=s.size:=⟨_,rfl⟩
 rw[← hn] at hn1 hn0 hcv HS;have HN:=hid hn;clear hT hb1 hR hsz hs;by_cases hE:E=0
 ·subst hE;by_cases hL:xs.length=1
  ·obtain⟨x,rfl⟩:=List.length_eq_one_iff.1 hL;have hgd:([x]:List Tok).getD 0 zeroTok=x:=rfl;rw[hgd] at hn1 hn0;by_cases hK:x.kind=1
   ·have dk:((x.kind:Int)==1)=true:=beq_iff_eq.2 (by omega);by_cases hZ:x.size=n
    ·have hnb:=hn1.1 ⟨rfl,rfl,hK,hZ⟩;have dz:((x.size:Int)==(s.size:Int))=true:=beq_iff_eq.2 (by omega);have HNB:=hid hnb;clear hn1 hn0 hnb hL hK hZ hn;go_enter Tryz.func161,Tryz.ntmps161;go_wp2_with (go_at_call 21;refine HS.out.mono ?_;rintro e w2 ⟨hb2,v,rfl,ho⟩;obtain⟨g,cc,hv,hg1,hg2,hcl⟩:=etok_row (xs:=[x]) rfl ho (Nat.zero_lt_one);have hv':v=.slice (some ⟨g,0,none⟩) 1 cc:=hv;clear hv;subst hv';have k0:w2.cell? ⟨g,0,none⟩=some (.int .i64 x.kind):=hcl 0 0 x _ rfl rfl;have k5:w2.cell? ⟨g,5,none⟩=some (.int .i64 x.size):=hcl 0 5 x _ rfl rfl;have HB2:=hid (HB1.out.trans (hb2.mono hle));clear hcl hb2 ho);go_ret;exact⟨by rw[HNB.out];rfl,HB2.out⟩
    ·have hnb:=hn0 (fun h=>hZ h.2.2.2);have dz:((x.size:Int)==(s.size:Int))=false:=beq_eq_false_iff_ne.2 (by omega);have HNB:=hid hnb;clear hn1 hn0 hnb hL hK hZ hn;go_enter Tryz.func161,Tryz.ntmps161;go_wp2_with (go_at_call 21;refine HS.out.mono ?_;rintro e w2 ⟨hb2,v,rfl,ho⟩;obtain⟨g,cc,hv,hg1,hg2,hcl⟩:=etok_row (xs:=[x]) rfl ho (Nat.zero_lt_one);have hv':v=.slice (some ⟨g,0,none⟩) 1 cc:=hv;clear hv;subst hv';have k0:w2.cell? ⟨g,0,none⟩=some (.int .i64 x.kind):=hcl 0 0 x _ rfl rfl;have k5:w2.cell? ⟨g,5,none⟩=some (.int .i64 x.size):=hcl 0 5 x _ rfl rfl;have HB2:=hid (HB1.out.trans (hb2.mono hle));clear hcl hb2 ho);go_ret;exact⟨by rw[HNB.out];rfl,HB2.out⟩
   ·have hnb:=hn0 (fun h=>hK h.2.2.1);have dk:((x.kind:Int)==1)=false:=beq_eq_false_iff_ne.2 (by omega);have HNB:=hid hnb;clear hn1 hn0 hnb hL hK hn;go_enter Tryz.func161,Tryz.ntmps161;go_wp2_with (go_at_call 21;refine HS.out.mono ?_;rintro e w2 ⟨hb2,v,rfl,ho⟩;obtain⟨g,cc,hv,hg1,hg2,hcl⟩:=etok_row (xs:=[x]) rfl ho (Nat.zero_lt_one);have hv':v=.slice (some ⟨g,0,none⟩) 1 cc:=hv;clear hv;subst hv';have k0:w2.cell? ⟨g,0,none⟩=some (.int .i64 x.kind):=hcl 0 0 x _ rfl rfl;have k5:w2.cell? ⟨g,5,none⟩=some (.int .i64 x.size):=hcl 0 5 x _ rfl rfl;have HB2:=hid (HB1.out.trans (hb2.mono hle));clear hcl hb2 ho);go_ret;exact⟨by rw[HNB.out];rfl,HB2.out⟩
  ·have hnb:=hn0 (fun h=>hL h.2.1);obtain⟨N,hN⟩:∃ N,N=xs.length:=⟨_,rfl⟩
   have dl:((N:Int)==1)=false:=beq_eq_false_iff_ne.2 (by omega);have HNB:=hid hnb;have HNN:=hid hN;rw[← hN] at HS;clear hn1 hn0 hnb hL hn hN;go_enter Tryz.func161,Tryz.ntmps161;go_wp2_with (go_at_call 21;refine HS.out.mono ?_;rintro e w2 ⟨hb2,v,rfl,ho⟩;obtain⟨ba,bc,hv⟩:=eform6 ho;subst hv;have HB2:=hid (HB1.out.trans (hb2.mono hle));clear hb2 ho);go_ret;exact⟨by rw[HNB.out];rfl,HB2.out⟩
 ·have hnb:=hn0 (fun h=>hE h.1);have de:((E:Int)==0)=false:=beq_eq_false_iff_ne.2 (by omega);have HNB:=hid hnb;clear hn1 hn0 hnb hE hn;go_enter Tryz.func161,Tryz.ntmps161;go_wp2_with (go_at_call 21;refine HS.out.mono ?_;rintro e w2 ⟨hb2,v,rfl,ho⟩;have HB2:=hid (HB1.out.trans (hb2.mono hle));clear hb2 ho);go_ret;exact⟨by rw[HNB.out];rfl,HB2.out⟩
end Go.Proofs.YtkpboalccpancaaGreatDoor
