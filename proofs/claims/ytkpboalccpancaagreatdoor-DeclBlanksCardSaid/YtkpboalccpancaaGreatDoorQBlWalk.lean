/- DeclBlanks. -/
import Derived.Test.YtkpboalccpancaaGreatDoorQMBlAwk0
import Derived.Test.YtkpboalccpancaaGreatDoorQMEpShut
import Derived.Test.YtkpboalccpancaaGreatDoorQMRefScan
import Derived.StillTailTactics
namespace Go.Proofs.YtkpboalccpancaaGreatDoor
open Go.RowKit Go.Shelf
set_option maxRecDepth 100000
open Lib(hid)
set_option linter.all false
set_option maxHeartbeats 8000000
def IntsB (w:World) (a:Option Addr) (n cap:Nat) (l:List Int):Prop :=
 l.length=n∧n≤cap∧cap≤maxLen∧((a=none∧n=0∧cap=0)∨∃ x,a=some x∧∀ i (h:i<l.length),w.cell? (x.add i)=some (.int .i64 l[i]))
def ckB (l:List Int) (i:Nat):Nat:=if i<l.length then (if Int.tmod (l.getD i 0) 4=1 then 1 else if Int.tmod (l.getD i 0) 4=2 then 2 else 0) else 0
theorem own_form8 {w:World} {base e s N:Nat} {v:Value} {xs:List Value} (hown:w.ownsRow base e s v N xs):∃ ba bc,v=.slice ba N bc:=by
 rcases hown.2 with ⟨h,h0⟩|⟨g,cap,cur,h,_⟩
 ·exact⟨none,0,by rw[h,h0]⟩
 ·exact⟨_,_,h⟩
theorem sepP_len (l:List UInt8) (ck:Nat→Nat) (xs:List Tok) (i:Nat):(sepP l ck xs i).length≤l.length+12:=by
 have:=(sp8_pos (ck i)).2;unfold sepP pieceOf;simp only[List.length_append,List.length_take,List.length_drop];omega
theorem sepR_len (l:List UInt8) (ck:Nat→Nat) (xs:List Tok):∀ m i,(sepR l ck xs i m).length≤m * (l.length+12)
 | 0,_=>Nat.zero_le _
 | m+1,i=>by
  rw[sepR_cons,List.length_append,Nat.add_mul];have:=sepR_len l ck xs m (i+1);have:=sepP_len l ck xs i;omega
theorem flatR_at:∀ (xs:List Tok) (k j:Nat) (x:Tok),xs[k]?=some x→j<6→(flatR xs)[k * 6+j]?=(tokCells x)[j]?
 | [],k,j,x,h,_=>by simp at h
 | y :: ys,0,j,x,h,hj=>by
  simp at h;subst h;have:(tokCells y).length=6:=rfl;unfold flatR;rw[List.flatMap_cons,List.getElem?_append_left (by omega)];simp
 | y :: ys,k+1,j,x,h,hj=>by
  have hl:(tokCells y).length=6:=rfl;have:=flatR_at ys k j x (by simpa using h) hj;unfold flatR at this ⊢;rw[List.flatMap_cons,List.getElem?_append_right (by omega),hl];rw[show (k+1) * 6+j-6=k * 6+j by omega];exact this
theorem txt_own {w:World} {base n c:Nat} {a:Option Addr} {l:List UInt8} (h:w.ownsRow base 5 1 (.slice a (0+n) c) (0+n) (u8s ([]++l))):Txt w a n c l:=by
 rw[Nat.zero_add] at h;exact txt_of_owned h
theorem declblanks_walk (a1:Option Addr) (n1 c1:Nat) (l:List UInt8) (a2:Option Addr) (n2 c2:Nat) (z:List Int) (w:World) (hG:Glob w) (hTab:Tab w) (hgs:0<w.heap.size) (ht:Txt w a1 n1 c1 l) (hr:n1≤140737488351232) (hz:IntsB w a2 n2 c2 z) :
  Calls Tryz.prog 6 #[.slice a1 n1 c1,.slice a2 n2 c2] w (WTrue w):=by
 have HA:=hid (awake8_any w hG hTab hgs);have HT:=hid ht;have HG:=hid hG;have HTab:=hid hTab;have HI:=hid hz;have hok:=progT_ok l n1;obtain⟨R,hR⟩:∃ R,R=progT l n1:=⟨_,rfl⟩
 rw[← hR] at hok;have HR:=hid hR;have HOK:=hid hok;clear ht hG hTab hz hok hR;unfold WTrue at HA ⊢;go_enter Tryz.func6,Tryz.ntmps6;go_upto_region 3 with (go_at_call 20;(with_reducible refine HA.out.mono ?_);rintro e w1 ⟨rfl,hb⟩;have HB1:=hid hb;clear hb);have HS:=hid (refScan_any a1 n1 c1 l w1 (HT.out.below HB1.out (Nat.le_refl _)) hr);unfold RScan at HS;go_upto_region 4 with (go_at_call 21;(with_reducible refine HS.out.mono ?_);rintro e w2 ⟨hb,v,rfl,hown⟩;obtain⟨va,vc,rfl⟩:=own_form8 hown;have HO:=hid hown;have HB2:=hid (HB1.out.trans (hb.mono HB1.out.size));have HS2:=hid hb.size;clear hb hown);obtain⟨xs,hxs⟩:∃ xs,xs=(allR l).1:=⟨_,rfl⟩
 obtain⟨P,hP⟩:∃ P,P=(allR l).2.1:=⟨_,rfl⟩
 obtain⟨E,hE⟩:∃ E,E=(allR l).2.2:=⟨_,rfl⟩
 rw[← hxs] at HO;rw[← hxs,← hP,← hE];have HXS:=hid hxs;have HE:=hid hE;clear hxs hP hE HA HS;by_cases he:E=0
 ·subst he;rw[show ((0:Nat):Int)=0 from rfl];have hfew:xs.length≤32768:=by rw[HXS.out];exact allR_few l
  have HALL:Hid (allF l=xs.map (fun t=>(t,0))):=hid (by rw[HXS.out];exact all_zero HE.out.symm);have hll:l.length≤32768:=by
   have h:=HE.out;unfold allR at h;split at h
   ·cases h
   ·omega
  have HLL:=hid hll;have HLN:=hid HT.out.1;have hn1:n1≤32768:=by rw[← HT.out.1];exact hll
  have hpc:=sepR_len l (ckB z) xs;have HPC:Hid (∀ k,k≤xs.length→(sepR l (ckB z) xs 0 k).length≤1100000000):=hid (fun k hk=>by
   have h1:=hpc k 0;have h2:k * (l.length+12)≤32768 * 32780:=Nat.mul_le_mul (by omega) (by omega);omega)
  have hs2:w2.heap.size≤w2.heap.size:=Nat.le_refl _;clear hpc;obtain⟨i0,hi,hz0,hz1,hz2⟩:=info_parts info5';go_wp2
  go_loopw [11,12] (fun b i wr=>∃ k N:Nat,i=.int .i64 k∧k≤xs.length∧Hid ((sepR l (ckB z) xs 0 k).length=N)∧(∃ ba bc,b=.slice ba N bc)∧Hid (wr.ownsRow w2.heap.size 5 1 b N (u8s (sepR l (ckB z) xs 0 k)))∧Hid (Below w2.heap.size w2 wr))
   (fun _ i _=>xs.length-(intOf i).toNat)
  case atStart=>exact⟨0,0,rfl,Nat.zero_le _,hid rfl,⟨_,_,rfl⟩,hid (World.ownsRow_nil _ _ _ _),hid (Below.refl _ _)⟩
  case round =>
  obtain⟨k,N,rfl,hk,hN,⟨ba,bc,rfl⟩,HOW,HBR⟩:=hrel;have hs2:=HBR.out.size;have hN2:N≤1100000000:=by rw[← hN.out];exact HPC.out k hk
  rcases Nat.lt_or_ge k xs.length with hlt|hge
  ·obtain⟨x,hx⟩:∃ x,xs[k]?=some x:=⟨_,List.getElem?_eq_getElem hlt⟩
   have hmem:(x,0) ∈ allF l:=by rw[HALL.out];exact List.mem_map.2 ⟨x,List.mem_of_getElem? hx,rfl⟩
   obtain⟨A,hA,hxt,hat,hkd,hpos,hE2,hk'⟩:=mem_place l (x,0) hmem rfl;obtain⟨gv,rfl⟩:∃ gv,va=some ⟨gv,0,none⟩:=by
    rcases HO.out.2 with ⟨h,h0⟩|⟨g,cap,cur,h,_⟩
    ·omega
    ·cases h;exact⟨_,rfl⟩
   have hgv:=(HO.out.lt gv rfl).2;have HCC:Hid (∀ W,Below w2.heap.size w2 W→∀ j u,j<6→(tokCells x)[j]?=some u→W.cell? ⟨gv,k * 6+j,none⟩=some u):=hid (fun W hW j u hj hu=>by
    rw[hW.cell (p:=⟨gv,k * 6+j,none⟩) hgv,HO.out.cellAt _ (by omega),flatR_at _ k j x hx hj];exact hu)
   have hxd:xs.getD k zeroTok=x:=by rw[List.getD_eq_getElem?_getD,hx];rfl
   have HSN:Hid (sepR l (ckB z) xs 0 (k+1)=(sepR l (ckB z) xs 0 k++sp8 (ckB z k))++pieceOf l x.at_ (x.at_+x.size)):=hid (by
    rw[sepR_snoc,List.append_assoc];unfold sepP;rw[hxd])
   have hpl:=piece_len l (Nat.le_add_right A x.size) hE2;rw[Nat.add_sub_cancel_left] at hpl;obtain⟨kd,tx,iv,rl,at_,sz⟩:=x;simp only at hat hpos hE2 hpl hkd HSN;subst hat;have HSL:Hid (∀ W,Txt W a1 n1 c1 l→∃ y,(∀ w',(Instr.slice 22 (.slice a1 n1 c1) (some (.int .i64 (at_:Int))) (some (.int .i64 ((at_:Int)+(sz:Int)))) none).run Tryz.prog w'=.ok (.slice (some y) sz (c1-at_)) w')∧At W y (pieceOf l at_ (at_+sz))):=hid (fun W hW=>by
    obtain⟨a3,h1,h2⟩:=slice_mid at_ (at_+sz) hW (Nat.le_add_right _ _) (by rw[← HLN.out];exact hE2);rw[Nat.add_sub_cancel_left] at h1 h2;obtain⟨_,_,_,⟨_,h0,_⟩|⟨y,rfl,hy⟩⟩:=h2
    ·omega
    ·exact⟨y,h1,by unfold pieceOf;rw[Nat.add_sub_cancel_left];exact hy⟩)
   have hwp:IntKind.i64.wrap ((at_:Int)+(sz:Int))=(at_:Int)+(sz:Int):=by rw[IntKind.wrap_i64];omega
   obtain⟨pc,hpcq⟩:∃ pc,pc=pieceOf l at_ (at_+sz):=⟨_,rfl⟩
   rw[← hpcq] at hpl HSL HSN;have HPL:=hid hpl;have hEn:at_+sz≤n1:=by rw[← HLN.out];exact hE2
   have hs3:sz≤32768:=by omega
   clear hx hxt hk' hmem hE2 hpcq hpl hxd hA hll;by_cases hp:k<z.length
   ·obtain⟨y2,rfl,hy2⟩:∃ y2,a2=some y2∧∀ i (h:i<z.length),w.cell? (y2.add i)=some (.int .i64 z[i]):=by
     rcases HI.out.2.2.2 with ⟨_,h0,_⟩|h
     ·have:=HI.out.1;omega
     ·exact h
    have hz4:wr.cell? (y2.add k)=some (.int .i64 z[k]):=by
     rw[(HB2.out.trans (HBR.out.mono HB2.out.size)).cell (World.block_lt_of_cell? _ _ (hy2 k hp))];exact hy2 k hp
    have hgz:z.getD k 0=z[k]:=by simp[hp]
    have hck:ckB z k=if Int.tmod z[k] 4=1 then 1 else if Int.tmod z[k] 4=2 then 2 else 0:=by unfold ckB;rw[if_pos hp,hgz]
    have hn2:k<n2:=by rw[← HI.out.1];exact hp
    clear hgz hy2;generalize z[k]=zk at *
    have hwm:IntKind.i64.wrap (zk.tmod 4)=zk.tmod 4:=by
     have h1:=Int.tmod_lt_of_pos zk (show (0:Int)<4 by decide);have h2:=Int.lt_tmod_of_pos zk (show (0:Int)<4 by decide);rw[IntKind.wrap_i64];omega
    have hdp:decide ((k:Int)<(n2:Int))=true:=decide_eq_true (by omega);have hip:(k:Int)<(n2:Int):=by omega
    by_cases h1:zk.tmod 4=1
    ·have HCK:Hid (ckB z k=1):=hid (by rw[hck,if_pos h1]);clear hck hwm;go_wp2_with (at_builtin;refine wpList_append_txt rfl (.tmp 57) (.tmp 58) rfl w2.heap.size _ N (sepR l (ckB z) xs 0 k) rfl (HOW.out.alloc _) (some ⟨wr.heap.size,0,none⟩) 2 2 [9,10] rfl (txt_marked8 wr [9,10] 5 (0,0) (by decide)) (by omega) (by simp;omega) ?_;intro g8 c8 w8 hown8 hb8);have HO8:Hid (w8.ownsRow w2.heap.size 5 1 (.slice g8 (N+2) c8) (N+2) (u8s (sepR l (ckB z) xs 0 k++sp8 (ckB z k)))):=hid (by rw[HCK.out];exact hown8);have HB8:Hid (Below w2.heap.size w2 w8):=hid ((HBR.out.alloc hs2 _).trans (hb8.mono (Nat.le_refl _)));have hs8:=HB8.out.size;have HRW:Hid (∀ (V:Value) (W:World),W.ownsRow w2.heap.size 5 1 V (N+2+sz) (u8s ((sepR l (ckB z) xs 0 k++sp8 (ckB z k))++pc))→W.ownsRow w2.heap.size 5 1 V (N+2+sz) (u8s (sepR l (ckB z) xs 0 (k+1)))):=hid (fun V W h=>by rw[HSN.out];exact h);have HJN:Hid ((sepR l (ckB z) xs 0 (k+1)).length=N+2+sz):=hid (by rw[HSN.out,List.length_append,List.length_append,HCK.out,hN.out,HPL.out];rfl);obtain⟨wd,hwd⟩:∃ wd,wd=w8.drew:=⟨_,rfl⟩
     obtain⟨y,hsl,hy⟩:=HSL.out wd (by rw[hwd];exact HT.out.below (HB2.out.trans (HB8.out.drew.mono HB2.out.size)) (Nat.le_refl _));have c4:=HCC.out w8 HB8.out 4 _ (by decide) rfl;have c5:=HCC.out w8 HB8.out 5 _ (by decide) rfl;obtain⟨M,hM⟩:∃ M,M=N+2:=⟨_,rfl⟩
     have hM2:M≤2000000000:=by omega
     rw[← hM] at HO8 HRW HJN ⊢;clear hM;have hzd:wd.heap.size=w8.heap.size:=by rw[hwd];rfl
     have HBD:Hid (Below w2.heap.size w2 wd):=hid (by rw[hwd];exact HB8.out.drew);have HOD:Hid (wd.ownsRow w2.heap.size 5 1 (.slice g8 M c8) M (u8s (sepR l (ckB z) xs 0 k++sp8 (ckB z k)))):=hid (by rw[hwd];exact HO8.out.drew);have HTY:Hid (Txt wd (some y) sz (c1-at_) pc):=hid ⟨HPL.out,by have:=HT.out.2.1;omega,by have:=HT.out.2.2.1;omega,.inr ⟨y,rfl,hy⟩⟩;have hsd:w2.heap.size≤wd.heap.size:=HBD.out.size;clear hown8 hb8 hzd hy;go_wp2_with fail
     go_still_tail 19,(by kernel_rfl)
     change wpList _ _ _ _ _ w8.drew;rw[← hwd];clear hwd c4 c5;go_wp2_with (at_builtin;refine wpList_append_txt rfl (.tmp 67) (.tmp 85) rfl w2.heap.size _ M (sepR l (ckB z) xs 0 k++sp8 (ckB z k)) rfl HOD.out (some y) sz (c1-at_) pc rfl HTY.out (by omega) hsd ?_;intro g9 c9 w9 hown9 hb9);have HO9:Hid (w9.ownsRow w2.heap.size 5 1 (.slice g9 (M+sz) c9) (M+sz) (u8s (sepR l (ckB z) xs 0 (k+1)))):=hid (HRW.out _ _ hown9);have HB9:Hid (Below w2.heap.size w2 w9):=hid (HBD.out.trans hb9);clear hown9 hb9;go_wp2;go_roundw
     case rel=>exact⟨k+1,M+sz,by go_num,hlt,HJN,⟨_,_,rfl⟩,HO9,HB9⟩
     case measure=>simp[intOf];omega
    ·by_cases h2:zk.tmod 4=2
     ·have HCK:Hid (ckB z k=2):=hid (by rw[hck,if_neg h1,if_pos h2]);clear hck h1 hwm;go_wp2_with (at_builtin;refine wpList_append_str rfl (.tmp 62) (.const _) rfl w2.heap.size _ N (sepR l (ckB z) xs 0 k) rfl HOW.out ⟨#[32,35,32,115,111,32,105,116,32,105,115,10]⟩ 12 [32,35,32,115,111,32,105,116,32,105,115,10] rfl rfl rfl (by omega) (by omega) ?_;intro g8 c8 w8 hown8 hb8);have HO8:Hid (w8.ownsRow w2.heap.size 5 1 (.slice g8 (N+12) c8) (N+12) (u8s (sepR l (ckB z) xs 0 k++sp8 (ckB z k)))):=hid (by rw[HCK.out];exact hown8);have HB8:Hid (Below w2.heap.size w2 w8):=hid (HBR.out.trans hb8);have hs8:=HB8.out.size;have HRW:Hid (∀ (V:Value) (W:World),W.ownsRow w2.heap.size 5 1 V (N+12+sz) (u8s ((sepR l (ckB z) xs 0 k++sp8 (ckB z k))++pc))→W.ownsRow w2.heap.size 5 1 V (N+12+sz) (u8s (sepR l (ckB z) xs 0 (k+1)))):=hid (fun V W h=>by rw[HSN.out];exact h);have HJN:Hid ((sepR l (ckB z) xs 0 (k+1)).length=N+12+sz):=hid (by rw[HSN.out,List.length_append,List.length_append,HCK.out,hN.out,HPL.out];rfl);obtain⟨wd,hwd⟩:∃ wd,wd=w8.drew:=⟨_,rfl⟩
      obtain⟨y,hsl,hy⟩:=HSL.out wd (by rw[hwd];exact HT.out.below (HB2.out.trans (HB8.out.drew.mono HB2.out.size)) (Nat.le_refl _));have c4:=HCC.out w8 HB8.out 4 _ (by decide) rfl;have c5:=HCC.out w8 HB8.out 5 _ (by decide) rfl;obtain⟨M,hM⟩:∃ M,M=N+12:=⟨_,rfl⟩
      have hM2:M≤2000000000:=by omega
      rw[← hM] at HO8 HRW HJN ⊢;clear hM;have hzd:wd.heap.size=w8.heap.size:=by rw[hwd];rfl
      have HBD:Hid (Below w2.heap.size w2 wd):=hid (by rw[hwd];exact HB8.out.drew);have HOD:Hid (wd.ownsRow w2.heap.size 5 1 (.slice g8 M c8) M (u8s (sepR l (ckB z) xs 0 k++sp8 (ckB z k)))):=hid (by rw[hwd];exact HO8.out.drew);have HTY:Hid (Txt wd (some y) sz (c1-at_) pc):=hid ⟨HPL.out,by have:=HT.out.2.1;omega,by have:=HT.out.2.2.1;omega,.inr ⟨y,rfl,hy⟩⟩;have hsd:w2.heap.size≤wd.heap.size:=HBD.out.size;clear hown8 hb8 hzd hy;go_wp2_with fail
      go_still_tail 19,(by kernel_rfl)
      change wpList _ _ _ _ _ w8.drew;rw[← hwd];clear hwd c4 c5;go_wp2_with (at_builtin;refine wpList_append_txt rfl (.tmp 67) (.tmp 85) rfl w2.heap.size _ M (sepR l (ckB z) xs 0 k++sp8 (ckB z k)) rfl HOD.out (some y) sz (c1-at_) pc rfl HTY.out (by omega) hsd ?_;intro g9 c9 w9 hown9 hb9);have HO9:Hid (w9.ownsRow w2.heap.size 5 1 (.slice g9 (M+sz) c9) (M+sz) (u8s (sepR l (ckB z) xs 0 (k+1)))):=hid (HRW.out _ _ hown9);have HB9:Hid (Below w2.heap.size w2 w9):=hid (HBD.out.trans hb9);clear hown9 hb9;go_wp2;go_roundw
      case rel=>exact⟨k+1,M+sz,by go_num,hlt,HJN,⟨_,_,rfl⟩,HO9,HB9⟩
      case measure=>simp[intOf];omega
     ·have HCK:Hid (ckB z k=0):=hid (by rw[hck,if_neg h1,if_neg h2]);obtain⟨c0,hc0⟩:∃ c0,zk.tmod 4=c0:=⟨_,rfl⟩
      rw[hc0] at h1 h2;have e1:(c0==1)=false:=beq_eq_false_iff_ne.2 h1;have e2:(c0==2)=false:=beq_eq_false_iff_ne.2 h2;clear hck h1 h2 hwm;go_wp2_with (at_builtin;refine wpList_append_txt rfl (.tmp 64) (.tmp 65) rfl w2.heap.size _ N (sepR l (ckB z) xs 0 k) rfl (HOW.out.alloc _) (some ⟨wr.heap.size,0,none⟩) 1 1 [32] rfl (txt_marked8 wr [32] 5 (0,0) (by decide)) (by omega) (by simp;omega) ?_;intro g8 c8 w8 hown8 hb8);have HO8:Hid (w8.ownsRow w2.heap.size 5 1 (.slice g8 (N+1) c8) (N+1) (u8s (sepR l (ckB z) xs 0 k++sp8 (ckB z k)))):=hid (by rw[HCK.out];exact hown8);have HB8:Hid (Below w2.heap.size w2 w8):=hid ((HBR.out.alloc hs2 _).trans (hb8.mono (Nat.le_refl _)));have hs8:=HB8.out.size;have HRW:Hid (∀ (V:Value) (W:World),W.ownsRow w2.heap.size 5 1 V (N+1+sz) (u8s ((sepR l (ckB z) xs 0 k++sp8 (ckB z k))++pc))→W.ownsRow w2.heap.size 5 1 V (N+1+sz) (u8s (sepR l (ckB z) xs 0 (k+1)))):=hid (fun V W h=>by rw[HSN.out];exact h);have HJN:Hid ((sepR l (ckB z) xs 0 (k+1)).length=N+1+sz):=hid (by rw[HSN.out,List.length_append,List.length_append,HCK.out,hN.out,HPL.out];rfl);obtain⟨wd,hwd⟩:∃ wd,wd=w8.drew:=⟨_,rfl⟩
      obtain⟨y,hsl,hy⟩:=HSL.out wd (by rw[hwd];exact HT.out.below (HB2.out.trans (HB8.out.drew.mono HB2.out.size)) (Nat.le_refl _));have c4:=HCC.out w8 HB8.out 4 _ (by decide) rfl;have c5:=HCC.out w8 HB8.out 5 _ (by decide) rfl;obtain⟨M,hM⟩:∃ M,M=N+1:=⟨_,rfl⟩
      have hM2:M≤2000000000:=by omega
      rw[← hM] at HO8 HRW HJN ⊢;clear hM;have hzd:wd.heap.size=w8.heap.size:=by rw[hwd];rfl
      have HBD:Hid (Below w2.heap.size w2 wd):=hid (by rw[hwd];exact HB8.out.drew);have HOD:Hid (wd.ownsRow w2.heap.size 5 1 (.slice g8 M c8) M (u8s (sepR l (ckB z) xs 0 k++sp8 (ckB z k)))):=hid (by rw[hwd];exact HO8.out.drew);have HTY:Hid (Txt wd (some y) sz (c1-at_) pc):=hid ⟨HPL.out,by have:=HT.out.2.1;omega,by have:=HT.out.2.2.1;omega,.inr ⟨y,rfl,hy⟩⟩;have hsd:w2.heap.size≤wd.heap.size:=HBD.out.size;clear hown8 hb8 hzd hy;go_wp2_with fail
      go_still_tail 19,(by kernel_rfl)
      change wpList _ _ _ _ _ w8.drew;rw[← hwd];clear hwd c4 c5;go_wp2_with (at_builtin;refine wpList_append_txt rfl (.tmp 67) (.tmp 85) rfl w2.heap.size _ M (sepR l (ckB z) xs 0 k++sp8 (ckB z k)) rfl HOD.out (some y) sz (c1-at_) pc rfl HTY.out (by omega) hsd ?_;intro g9 c9 w9 hown9 hb9);have HO9:Hid (w9.ownsRow w2.heap.size 5 1 (.slice g9 (M+sz) c9) (M+sz) (u8s (sepR l (ckB z) xs 0 (k+1)))):=hid (HRW.out _ _ hown9);have HB9:Hid (Below w2.heap.size w2 w9):=hid (HBD.out.trans hb9);clear hown9 hb9;go_wp2;go_roundw
      case rel=>exact⟨k+1,M+sz,by go_num,hlt,HJN,⟨_,_,rfl⟩,HO9,HB9⟩
      case measure=>simp[intOf];omega
   ·have HCK:Hid (ckB z k=0):=hid (by unfold ckB;rw[if_neg hp]);have hdp:decide ((k:Int)<(n2:Int))=false:=decide_eq_false (by have:=HI.out.1;omega);have hdn:decide (k<n2)=false:=decide_eq_false (by have:=HI.out.1;omega);clear hp;go_wp2_with (at_builtin;refine wpList_append_txt rfl (.tmp 64) (.tmp 65) rfl w2.heap.size _ N (sepR l (ckB z) xs 0 k) rfl (HOW.out.alloc _) (some ⟨wr.heap.size,0,none⟩) 1 1 [32] rfl (txt_marked8 wr [32] 5 (0,0) (by decide)) (by omega) (by simp;omega) ?_;intro g8 c8 w8 hown8 hb8);have HO8:Hid (w8.ownsRow w2.heap.size 5 1 (.slice g8 (N+1) c8) (N+1) (u8s (sepR l (ckB z) xs 0 k++sp8 (ckB z k)))):=hid (by rw[HCK.out];exact hown8);have HB8:Hid (Below w2.heap.size w2 w8):=hid ((HBR.out.alloc hs2 _).trans (hb8.mono (Nat.le_refl _)));have hs8:=HB8.out.size;have HRW:Hid (∀ (V:Value) (W:World),W.ownsRow w2.heap.size 5 1 V (N+1+sz) (u8s ((sepR l (ckB z) xs 0 k++sp8 (ckB z k))++pc))→W.ownsRow w2.heap.size 5 1 V (N+1+sz) (u8s (sepR l (ckB z) xs 0 (k+1)))):=hid (fun V W h=>by rw[HSN.out];exact h);have HJN:Hid ((sepR l (ckB z) xs 0 (k+1)).length=N+1+sz):=hid (by rw[HSN.out,List.length_append,List.length_append,HCK.out,hN.out,HPL.out];rfl);obtain⟨wd,hwd⟩:∃ wd,wd=w8.drew:=⟨_,rfl⟩
    obtain⟨y,hsl,hy⟩:=HSL.out wd (by rw[hwd];exact HT.out.below (HB2.out.trans (HB8.out.drew.mono HB2.out.size)) (Nat.le_refl _));have c4:=HCC.out w8 HB8.out 4 _ (by decide) rfl;have c5:=HCC.out w8 HB8.out 5 _ (by decide) rfl;obtain⟨M,hM⟩:∃ M,M=N+1:=⟨_,rfl⟩
    have hM2:M≤2000000000:=by omega
    rw[← hM] at HO8 HRW HJN ⊢;clear hM;have hzd:wd.heap.size=w8.heap.size:=by rw[hwd];rfl
    have HBD:Hid (Below w2.heap.size w2 wd):=hid (by rw[hwd];exact HB8.out.drew);have HOD:Hid (wd.ownsRow w2.heap.size 5 1 (.slice g8 M c8) M (u8s (sepR l (ckB z) xs 0 k++sp8 (ckB z k)))):=hid (by rw[hwd];exact HO8.out.drew);have HTY:Hid (Txt wd (some y) sz (c1-at_) pc):=hid ⟨HPL.out,by have:=HT.out.2.1;omega,by have:=HT.out.2.2.1;omega,.inr ⟨y,rfl,hy⟩⟩;have hsd:w2.heap.size≤wd.heap.size:=HBD.out.size;clear hown8 hb8 hzd hy;go_wp2_with fail
    go_still_tail 19,(by kernel_rfl)
    change wpList _ _ _ _ _ w8.drew;rw[← hwd];clear hwd c4 c5;go_wp2_with (at_builtin;refine wpList_append_txt rfl (.tmp 67) (.tmp 85) rfl w2.heap.size _ M (sepR l (ckB z) xs 0 k++sp8 (ckB z k)) rfl HOD.out (some y) sz (c1-at_) pc rfl HTY.out (by omega) hsd ?_;intro g9 c9 w9 hown9 hb9);have HO9:Hid (w9.ownsRow w2.heap.size 5 1 (.slice g9 (M+sz) c9) (M+sz) (u8s (sepR l (ckB z) xs 0 (k+1)))):=hid (HRW.out _ _ hown9);have HB9:Hid (Below w2.heap.size w2 w9):=hid (HBD.out.trans hb9);clear hown9 hb9;go_wp2;go_roundw
    case rel=>exact⟨k+1,M+sz,by go_num,hlt,HJN,⟨_,_,rfl⟩,HO9,HB9⟩
    case measure=>simp[intOf];omega
  ·obtain rfl:k=xs.length:=by omega
   have dd:decide ((xs.length:Int)<(xs.length:Int))=false:=decide_eq_false (by omega);have HTJ:=hid (txt_of_owned HOW.out);have HJN:=hN;have HBW:=hid (HB2.out.trans (HBR.out.mono HB2.out.size));by_cases hbig:32768<N
   ·have db:decide ((32768:Int)<(N:Int))=true:=decide_eq_true (by omega);clear hk hge hN HOW HTJ;go_wp2_with fail;go_ret;exact⟨rfl,HBW.out⟩
   ·have db:decide ((32768:Int)<(N:Int))=false:=decide_eq_false (by omega);have hsc:=scan_sep l (ckB z) HE.out.symm (by rw[← HXS.out,HJN.out];omega);rw[← HXS.out] at hsc;have HSAME:=hid (progT_same HE.out.symm hsc.1 (by rw[hsc.2,HXS.out]) n1 N);generalize sepR l (ckB z) xs 0 xs.length=r at *
    clear hk hge hN HOW hsc hbig;rw[← HR.out] at HSAME;obtain⟨X,pl,fl⟩:=R;simp only at HSAME HOK;have HPX:Hid (∀ (g2:Option Addr) (c:Nat) (W:World),Txt W g2 n1 c l→Below w.heap.size w W→Calls Tryz.prog 10 #[.slice g2 n1 c] W fun e w'=>∃ tv kv,e=.returned (.tuple #[.agg #[tv,kv],.int .i64 pl,.int .i64 fl])∧Itm progE W.heap.size w' [tv,kv] X∧Below W.heap.size W w'):=hid (fun g2 c W h hb=>by
     have k:=parseP_any g2 n1 c l W h (HG.out.below hb (Nat.le_refl _)) (HTab.out.of_block (hb.block _ hgs)) (Nat.lt_of_lt_of_le hgs hb.size);have e:progT l n1=(X,pl,fl):=HR.out.symm;unfold ParsePP at k;rw[e] at k;exact k)
    obtain⟨⟨X2,pl2,fl2⟩,hq⟩:∃ q,q=progT r N:=⟨_,rfl⟩
    have hs1:=HSAME.out.1;have hs2':=HSAME.out.2;rw[← hq] at hs1 hs2';simp only at hs1 hs2';subst hs1 hs2';have HPY:Hid (∀ (W:World),Txt W ba N bc r→Below w.heap.size w W→Calls Tryz.prog 10 #[.slice ba N bc] W fun e w'=>∃ tv kv,e=.returned (.tuple #[.agg #[tv,kv],.int .i64 pl2,.int .i64 fl2])∧Itm progE W.heap.size w' [tv,kv] X2∧Below W.heap.size W w'):=hid (fun W h hb=>by
     have k:=parseP_any ba N bc r W h (HG.out.below hb (Nat.le_refl _)) (HTab.out.of_block (hb.block _ hgs)) (Nat.lt_of_lt_of_le hgs hb.size);unfold ParsePP at k;rw[← hq] at k;exact k)
    clear HSAME hq;go_upto_region 23 with (first
     | (at_builtin;refine wpList_append_txt rfl (.tmp 91) (.tmp 92) rfl wr.heap.size _ 0 [] rfl (own_empty wr) a1 n1 c1 l rfl ((HT.out.below HBW.out (Nat.le_refl _)).below ((Below.refl _ wr).alloc (Nat.le_refl _) _) (Nat.le_refl _)) (by omega) (by simp) ?_;intro g2 c2' w3 hown hb;have HT3:=hid (txt_own hown);have HBA:=hid (((Below.refl _ wr).alloc (Nat.le_refl _) _).trans hb);clear hown hb;have HB3:=hid (HBW.out.trans (HBA.out.mono HBW.out.size)))
     | (go_at_call 10;(with_reducible refine(HPX.out g2 c2' w3 HT3.out HB3.out).mono ?_);rintro e w4 ⟨tv,kv,rfl,hit,hb⟩;obtain⟨⟨u1a,m1a,k1a,rfl⟩,⟨u1b,m1b,k1b,rfl⟩⟩:=prog_form hit;have HI4:=hid hit;have HB4:=hid hb;clear hb hit))
    obtain⟨W4,hW4⟩:∃ W4,W4=w4.alloc (.cells #[.slice u1a m1a k1a,.slice u1b m1b k1b] 26):=⟨_,rfl⟩
    have hb4:Below w4.heap.size w4 W4:=by rw[hW4];exact(Below.refl _ w4).alloc (Nat.le_refl _) _
    have HX4:=hid (show Bx W4 w4.heap.size 26 [.slice u1a m1a k1a,.slice u1b m1b k1b] by rw[hW4];exact Bx.new w4 _ _);have HH4:=hid (Held.keep progK (held_of HI4.out) hb4 (Nat.le_refl _));have HBC:=hid (HBA.out.trans ((HB4.out.trans (hb4.mono HB4.out.size)).mono HBA.out.size));have HB5:=hid (HBW.out.trans (HBC.out.mono HBW.out.size));have HPZ:=hid (HPY.out W4 (HTJ.out.below HBC.out (Nat.le_refl _)) HB5.out);rw[← hW4];generalize w4.heap.size=E1 at HX4 ⊢;clear hW4 hb4 HI4 HB4 HPX HPY HBA HB3 HT3 HTJ;go_upto_region 24 with (go_at_call 10;(with_reducible refine HPZ.out.mono ?_);rintro e w5 ⟨tv,kv,rfl,hit,hb⟩;obtain⟨⟨u2a,m2a,k2a,rfl⟩,⟨u2b,m2b,k2b,rfl⟩⟩:=prog_form hit;have HI5:=hid hit;have HB6:=hid hb;clear hb hit);obtain⟨W5,hW5⟩:∃ W5,W5=w5.alloc (.cells #[.slice u2a m2a k2a,.slice u2b m2b k2b] 26):=⟨_,rfl⟩
    have hb5:Below w5.heap.size w5 W5:=by rw[hW5];exact(Below.refl _ w5).alloc (Nat.le_refl _) _
    have HY5:=hid (show Bx W5 w5.heap.size 26 [.slice u2a m2a k2a,.slice u2b m2b k2b] by rw[hW5];exact Bx.new w5 _ _);have HK5:=hid (Held.keep progK (held_of HI5.out) hb5 (Nat.le_refl _));have HB7:=hid (HB6.out.trans (hb5.mono HB6.out.size));have HX5:=hid (HX4.out.keep HB7.out HX4.out.lt);have HH5:=hid (Held.keep progK HH4.out HB7.out (Nat.le_refl _));have HBB:=hid (HB5.out.trans (HB7.out.mono HB5.out.size));have HPG:=hid (wprograms_of (x:=X2) HOK.out HH5.out HK5.out);unfold WTrue at HPG;rw[← hW5];generalize w5.heap.size=E2 at HY5 ⊢;have x0:=HX5.out.c 0 rfl;have y0:=HY5.out.c 0 rfl;have x1:=HX5.out.c 1 rfl;have y1:=HY5.out.c 1 rfl;have tf:(fl2==fl2)=true:=beq_self_eq_true _;clear hW5 hb5 HI5 HB6 HPZ HX4 HH4;go_wp2_with (go_at_call 14;(with_reducible refine HPG.out.mono ?_);rintro e w6 ⟨rfl,hb⟩;have HF:=hid (HBB.out.trans (hb.mono HBB.out.size));clear hb);go_ret;exact⟨rfl,HF.out⟩
 ·have d1:((E:Int)==0)=false:=beq_eq_false_iff_ne.2 (by omega);have d2:((E:Int) != 0)=true:=bne_iff_ne.2 (by omega);have hRR:R=(zProg,(((allR l).2.1:Nat):Int),(((allR l).2.2:Nat):Int)):=by rw[HR.out];unfold progT;rw[if_pos (by rw[← HE.out];exact he)]
  have hpq:progT l n1=(zProg,(((allR l).2.1:Nat):Int),(E:Int)):=by rw[← HR.out,hRR,HE.out]
  have HQ:=hid hpq;clear hRR hpq;go_upto_region 6 with (first
   | (at_builtin;refine wpList_append_txt rfl (.tmp 31) (.tmp 32) rfl w2.heap.size _ 0 [] rfl (own_empty w2) a1 n1 c1 l rfl ((HT.out.below HB2.out (Nat.le_refl _)).below ((Below.refl _ w2).alloc (Nat.le_refl _) _) (Nat.le_refl _)) (by omega) (by simp) ?_;intro g2 c2' w3 hown hb;have HT3:=hid (txt_own hown);have HB3:=hid (HB2.out.trans ((((Below.refl _ w2).alloc (Nat.le_refl _) _).trans hb).mono HB2.out.size));clear hown hb)
   | (go_at_call 10;(with_reducible refine(parseP_any g2 n1 c2' l w3 HT3.out (HG.out.below HB3.out (Nat.le_refl _)) (HTab.out.of_block (HB3.out.block _ hgs)) (Nat.lt_of_lt_of_le hgs HB3.out.size)).mono ?_);rintro e w4 ⟨tv,kv,rfl,hit,hb⟩;have HB4:=hid (HB3.out.trans (hb.mono HB3.out.size));obtain⟨⟨u1a,m1a,k1a,rfl⟩,⟨u1b,m1b,k1b,rfl⟩⟩:=prog_form hit;clear hb hit;rw[HQ.out]))
  go_wp2_with fail;go_ret;exact⟨rfl,HB4.out.alloc HB4.out.size _⟩
end Go.Proofs.YtkpboalccpancaaGreatDoor
