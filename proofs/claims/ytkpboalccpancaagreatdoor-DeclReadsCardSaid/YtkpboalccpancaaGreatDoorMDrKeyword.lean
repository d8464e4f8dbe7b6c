import Derived.Test.YtkpboalccpancaaGreatDoorMDcPlain
import Derived.Test.YtkpboalccpancaaGreatDoorMDrIs
import Derived.Deep.RegionHeld3
import Derived.IntWalk
import Derived.Deep.QuietTactic
import Derived.BigQuiet
namespace Go.Proofs.YtkpboalccpancaaGreatDoor
open Go.RowKit Go.Shelf
open Lib(hid)
set_option maxRecDepth 100000
set_option linter.all false
set_option maxHeartbeats 2000000
theorem kwB_yes {b:ByteArray} {k:Nat} (hk:k<9) (h:decide (kwL.getD k eB=b)=true):kwB b=true:=by
 unfold kwB;refine List.any_eq_true.2 ⟨kwL.getD k eB,?_,h⟩;have hl:kwL.length=9:=rfl;rw[List.getD_eq_getElem?_getD,List.getElem?_eq_getElem (by omega)];exact List.getElem_mem _
theorem kwB_no {b:ByteArray} (h:∀ j,j<9→decide (kwL.getD j eB=b)=false):kwB b=false:=by
 unfold kwB;refine List.any_eq_false.2 (fun x hx=>?_);obtain⟨j,hj,rfl⟩:=List.getElem_of_mem hx;have hl:kwL.length=9:=rfl;have:=h j (by omega);rw[List.getD_eq_getElem?_getD,List.getElem?_eq_getElem hj] at this;simp at this
 simpa using this
theorem keyword8_any (b:ByteArray) (w:World):Calls Tryz.prog 19 #[.string b] w fun e w'=>e=.returned (.bool (kwB b))∧Below w.heap.size w w':=by
 obtain⟨W1,hW1⟩:∃ W1,W1=w.alloc (.cells #[.string ⟨#[116,97,103]⟩,.string ⟨#[107,105,110,100]⟩,.string ⟨#[99,104,111,114,100]⟩,.string ⟨#[119,104,101,110]⟩,.string ⟨#[115,101,110,100]⟩,.string ⟨#[115,112,97,119,110]⟩,.string ⟨#[97,115]⟩,.string ⟨#[114,101,112,108,121]⟩,.string ⟨#[98,101,99,111,109,101]⟩] 9):=⟨_,rfl⟩
 have hb:Below w.heap.size w W1:=by rw[hW1];exact(Below.refl _ w).alloc (Nat.le_refl _) _
 have hx:Bx W1 w.heap.size 9 (kwL.map .string):=by rw[hW1];exact Bx.new w 9 (kwL.map .string)
 have HB:=hid hb;have HX:=hid hx;have HW:=hid hW1;clear hb hx hW1;go_enter Tryz.func19,Tryz.ntmps19;go_upto_region 2 with (fail);rw[← HW.out];go_wp2
 go_loopw [4] (fun i wr=>∃ k:Nat,i=.int .i64 k∧k≤9∧wr=W1∧Hid (∀ j,j<k→decide (kwL.getD j eB=b)=false)) (fun i _=>9-(intOf i).toNat)
 case atStart=>exact⟨0,rfl,by omega,rfl,hid (fun j hj=>absurd hj (Nat.not_lt_zero _))⟩
 case round =>
  obtain⟨k,rfl,hk,rfl,HK⟩:=hrel;rcases Nat.lt_or_ge k 9 with hlt|hge
  ·have d1:decide ((k:Int)<9)=true:=decide_eq_true (by omega);have hc:wr.cell? ⟨w.heap.size,k,none⟩=some (.string (kwL.getD k eB)):=HX.out.c k (by
    have hl:kwL.length=9:=rfl;rw[List.getElem?_map,List.getD_eq_getElem?_getD,List.getElem?_eq_getElem (by omega)];rfl)
   have e1:=bEq8 (kwL.getD k eB) b;have HY:=hid (fun h=>kwB_yes (b:=b) hlt h);cases hq:decide (kwL.getD k eB=b) with
   | true =>
    have HQ:=hid (HY.out hq);rw[hq] at e1;generalize kwL.getD k eB=kw at hc e1;clear hq HY;go_wp2;go_ret;exact⟨by rw[HQ.out];rfl,HB.out⟩
   | false =>
    have HN:Hid (∀ j,j<k+1→decide (kwL.getD j eB=b)=false):=hid (fun j hj=>by
     rcases Nat.lt_or_ge j k with h|h
     ·exact HK.out j h
     ·obtain rfl:j=k:=by omega
      exact hq)
    rw[hq] at e1;generalize kwL.getD k eB=kw at hc e1;clear hq HY HK;go_wp2;go_roundw
    case rel=>exact⟨k+1,by go_num,by omega,by first|rfl|trivial,HN⟩
    case measure=>simp[intOf];omega
  ·obtain rfl:k=9:=by omega
   have HN:=hid (kwB_no HK.out);clear HK hk hge;go_wp2;go_ret;exact⟨by rw[HN.out];rfl,HB.out⟩
def nameG (k:Int):ByteArray:=if k=1 then ⟨#[105,110,116]⟩ else if k=2 then ⟨#[114,101,97,108]⟩ else if k=3 then ⟨#[99,111,109,112]⟩ else if k=4 then ⟨#[116,101,120,116]⟩ else if k=5 then ⟨#[98,111,111,108]⟩ else ⟨#[]⟩
def tyG (l:List UInt8):Nat→Nat→Nat × Bool
 | 0,_=>(0,false)
 | f+1,k=>if (nameG k).toList==l then (k,true) else tyG l f (k+1)
theorem tyG8 (l:List UInt8):tyG l 5 1=tyF8 l:=by
 have e1:(nameG ((1:Nat):Int)).toList=[105,110,116]:=by rw[tl_dat];rfl
 have e2:(nameG ((1+1:Nat):Int)).toList=[114,101,97,108]:=by rw[tl_dat];rfl
 have e3:(nameG ((1+1+1:Nat):Int)).toList=[99,111,109,112]:=by rw[tl_dat];rfl
 have e4:(nameG ((1+1+1+1:Nat):Int)).toList=[116,101,120,116]:=by rw[tl_dat];rfl
 have e5:(nameG ((1+1+1+1+1:Nat):Int)).toList=[98,111,111,108]:=by rw[tl_dat];rfl
 unfold tyF8 tyG;rw[e1];by_cases h1:l=[105,110,116]
 ·subst h1;rfl
 rw[if_neg h1,if_neg (by simpa using fun h=>h1 h.symm)];unfold tyG;rw[e2];by_cases h2:l=[114,101,97,108]
 ·subst h2;rfl
 rw[if_neg h2,if_neg (by simpa using fun h=>h2 h.symm)];unfold tyG;rw[e3];by_cases h3:l=[99,111,109,112]
 ·subst h3;rfl
 rw[if_neg h3,if_neg (by simpa using fun h=>h3 h.symm)];unfold tyG;rw[e4];by_cases h4:l=[116,101,120,116]
 ·subst h4;rfl
 rw[if_neg h4,if_neg (by simpa using fun h=>h4 h.symm)];unfold tyG;rw[e5];by_cases h5:l=[98,111,111,108]
 ·subst h5;rfl
 rw[if_neg h5,if_neg (by simpa using fun h=>h5 h.symm)];rfl
theorem rname8_any (k:Int) (w:World):Calls Tryz.prog 89 #[.int .i64 k] w fun e w'=>e=.returned (.string (nameG k))∧w=w':=by
 by_cases h1:k=1
 ·subst h1;go_enter Tryz.func89,Tryz.ntmps89;go_wp2;go_ret;exact⟨rfl,rfl⟩
 by_cases h2:k=2
 ·subst h2;go_enter Tryz.func89,Tryz.ntmps89;go_wp2;go_ret;exact⟨rfl,rfl⟩
 by_cases h3:k=3
 ·subst h3;go_enter Tryz.func89,Tryz.ntmps89;go_wp2;go_ret;exact⟨rfl,rfl⟩
 by_cases h4:k=4
 ·subst h4;go_enter Tryz.func89,Tryz.ntmps89;go_wp2;go_ret;exact⟨rfl,rfl⟩
 by_cases h5:k=5
 ·subst h5;go_enter Tryz.func89,Tryz.ntmps89;go_wp2;go_ret;exact⟨rfl,rfl⟩
 have e:nameG k=⟨#[]⟩:=by unfold nameG;rw[if_neg h1,if_neg h2,if_neg h3,if_neg h4,if_neg h5]
 rw[e];have t1:(k==1)=false:=beq_eq_false_iff_ne.2 h1;have t2:(k==2)=false:=beq_eq_false_iff_ne.2 h2;have t3:(k==3)=false:=beq_eq_false_iff_ne.2 h3;have t4:(k==4)=false:=beq_eq_false_iff_ne.2 h4;have t5:(k==5)=false:=beq_eq_false_iff_ne.2 h5;clear h1 h2 h3 h4 h5 e;go_enter Tryz.func89,Tryz.ntmps89;go_wp2;go_ret;exact⟨rfl,rfl⟩
theorem rtype8_any (s:ByteArray) (w:World):Calls Tryz.prog 69 #[.string s] w fun e w'=>e=.returned (.tuple #[.int .i64 ((tyG s.toList 5 1).1:Nat),.bool (tyG s.toList 5 1).2])∧w=w':=by
 obtain⟨T,hT⟩:∃ T,T=tyG s.toList 5 1:=⟨_,rfl⟩
 rw[← hT];have HT:=hid hT;clear hT;go_enter Tryz.func69,Tryz.ntmps69;go_wp2;go_loop [4] (fun i=>∃ k f:Nat,k+f=6∧1≤k∧i=.int .i64 k∧Hid (tyG s.toList f k=T)) (fun i=>6-(intOf i).toNat)
 case atStart=>exact⟨1,5,rfl,Nat.le_refl _,rfl,hid HT.out.symm⟩
 case round =>
  obtain⟨k,f,hkf,hk1,rfl,hx⟩:=hrel;cases f with
  | zero =>
   have d1:decide ((k:Int)≤5)=false:=decide_eq_false (by omega);have HX:Hid (T=(0,false)):=hid (by rw[← hx.out];rfl);clear hx;go_wp2
   go_ret2
   exact⟨by rw[HX.out];rfl,rfl⟩
  | succ f =>
   have d1:decide ((k:Int)≤5)=true:=decide_eq_true (by omega);have HN:=hid (fun W=>rname8_any (k:Int) W);obtain⟨nm,hnm⟩:∃ nm,nm=nameG (k:Int):=⟨_,rfl⟩
   have hy:=hx.out;unfold tyG at hy;rw[← hnm] at HN hy;cases hb:(nm.toList==s.toList) with
   | true =>
    rw[hb] at hy;have HX:Hid (T=(k,true)):=hid (by rw[← hy];rfl);clear hx hy hnm;go_wp2_with (go_at_call 89;refine(HN.out _).mono ?_;rintro e w' ⟨rfl,rfl⟩)
    go_ret2
    exact⟨by rw[HX.out];rfl,rfl⟩
   | false =>
    rw[hb] at hy;have HX:Hid (tyG s.toList f (k+1)=T):=hid (by rw[← hy];rfl);clear hx hy hnm;go_wp2_with (go_at_call 89;refine(HN.out _).mono ?_;rintro e w' ⟨rfl,rfl⟩)
    go_round
    case rel=>exact⟨k+1,f,by omega,by omega,by go_num,HX⟩
    case measure=>simp[intOf];omega
set_option maxHeartbeats 4000000
theorem word8_any (p cap n:Nat) (a:Option Addr) (L:List TokE) (s:S8) (w:World) (h:DSt w p cap n a L s) :
  Calls Tryz.prog 29 #[.pointer (some ⟨p,0,none⟩)] w fun e w'=>e=.returned (.string (wordS L n s).2)∧St8 p cap n a L (wordS L n s).1 w w':=by
 obtain⟨c0,c1,c2,c3,c4⟩:=h.cells;have hlen:=h.len;have HH:=hid h;have HF:=hid (fun W (hW:DSt W p cap n a L s)=>fail8_any p cap n a L s s.k 80 (by omega) W hW);unfold wordS wordB8;by_cases hb:s.bad=0
 ·rw[decide_eq_true hb,Bool.true_and];have HB:=hid hb;rw[hb] at c3;by_cases hk:s.k<L.length
  ·rw[decide_eq_true hk,Bool.true_and];obtain⟨x,rfl,t0,t1,t2,t3,t4,t5⟩:=h.toks s.k hk;have hlow:(x.add (s.k * 6)).block<w.heap.size:=Nat.lt_trans (h.low x rfl _) h.lt;have d1:decide ((L.length:Int)≤(s.k:Int))=false:=decide_eq_false (by omega);have d1n:decide (L.length≤s.k)=false:=decide_eq_false (by omega);unfold tkE;by_cases h1:(L.getD s.k default).kd=1
   ·rw[decide_eq_true h1,Bool.true_and];have HKN:=hid hk;generalize ht:L.getD s.k default=t at *
    have HTE:=hid ht;rw[h1] at t0;have HK:=fun W=>hid (keyword8_any t.tx W);generalize hN:L.length=N at c0 d1 d1n hk hlen;have HNN:=hid hN;clear h c2 c4 t2 t3 t4 t5 hb hN ht h1;cases hq:kwB t.tx with
    | true =>
     rw[hq] at HK;clear hq;rw[if_neg (by decide)];go_enter Tryz.func29,Tryz.ntmps29;go_upto_region 1 with (fail)
     go_region_held3 (fun W'=>W'.cell? ⟨p,0,none⟩=some (.slice (some x) N cap)∧W'.cell? ⟨p,1,none⟩=some (.int .i64 (s.k:Nat))∧W'.cell? ⟨p,3,none⟩=some (.int .i64 0)∧W'.cell? (x.add (s.k * 6))=some (.int .i64 1)∧W'.cell? ⟨(x.add (s.k * 6)).block,(x.add (s.k * 6)).off+1,none⟩=some (.string t.tx))
      (first|(refine⟨?_,?_,?_,?_,?_⟩ <;> assumption)|go_keep)
      (first|(go_at_call 19;refine(HK _).out.mono ?_;rintro e w1 ⟨rfl,hb1⟩;have hb1:Below w.heap.size w w1:=(drew_below w).trans hb1;have HS1:=hid (HH.out.below hb1);have HE1:=hid (Eff.of_below hb1 HH.out.lt);have u0:=(hb1.cell hlow).trans t0;have u1:=(hb1.cell (p:=⟨(x.add (s.k * 6)).block,_,none⟩) hlow).trans t1;clear hb1;have q0:w1.cell? ⟨p,0,none⟩=some (.slice (some x) N cap):=(by rw[← HNN.out];exact HS1.out.cells.1);have q1:=HS1.out.cells.2.1;have q3:w1.cell? ⟨p,3,none⟩=some (.int .i64 0):=(by rw[← HB.out];exact HS1.out.cells.2.2.2.1)))
     rename_i hHeld;clear hHeld;go_wp2_with (go_at_call 36;with_reducible refine(HF.out w1 HS1.out).mono ?_;rintro e w2 ⟨rfl,h1,h2⟩;have HS2:=hid h1;have HE2:=hid (HE1.out.trans h2);clear h1 h2);go_ret;exact⟨rfl,HS2.out,HE2.out⟩
    | false =>
     rw[hq] at HK;clear hq;rw[if_pos (by decide)];go_enter Tryz.func29,Tryz.ntmps29;go_upto_region 1 with (fail)
     go_region_held3 (fun W'=>W'.cell? ⟨p,0,none⟩=some (.slice (some x) N cap)∧W'.cell? ⟨p,1,none⟩=some (.int .i64 (s.k:Nat))∧W'.cell? ⟨p,3,none⟩=some (.int .i64 0)∧W'.cell? (x.add (s.k * 6))=some (.int .i64 1)∧W'.cell? ⟨(x.add (s.k * 6)).block,(x.add (s.k * 6)).off+1,none⟩=some (.string t.tx))
      (first|(refine⟨?_,?_,?_,?_,?_⟩ <;> assumption)|go_keep)
      (first|(go_at_call 19;refine(HK _).out.mono ?_;rintro e w1 ⟨rfl,hb1⟩;have hb1:Below w.heap.size w w1:=(drew_below w).trans hb1;have HS1:=hid (HH.out.below hb1);have HE1:=hid (Eff.of_below hb1 HH.out.lt);have u0:=(hb1.cell hlow).trans t0;have u1:=(hb1.cell (p:=⟨(x.add (s.k * 6)).block,_,none⟩) hlow).trans t1;clear hb1;have q0:w1.cell? ⟨p,0,none⟩=some (.slice (some x) N cap):=(by rw[← HNN.out];exact HS1.out.cells.1);have q1:=HS1.out.cells.2.1;have q3:w1.cell? ⟨p,3,none⟩=some (.int .i64 0):=(by rw[← HB.out];exact HS1.out.cells.2.2.2.1)))
     rename_i hHeld;clear hHeld;have HN2:=hid (HS1.out.next HKN.out);have HE2:=hid (HE1.out.set 1 (.int .i64 ((s.k+1:Nat):Int)));have f1:=HS1.out.box.fz 1;clear u0 u1 q0 q3;go_upto_region 5 with (fail);rw[show (s.k:Int)+1=((s.k+1:Nat):Int) from rfl];generalize w1.setCell ⟨p,1,none⟩ (.int .i64 ((s.k+1:Nat):Int))=w2 at HN2 HE2 ⊢;have v0:w2.cell? ⟨p,0,none⟩=some (.slice (some x) N cap):=by rw[← HNN.out];exact HN2.out.cells.1
     have v1:w2.cell? ⟨p,1,none⟩=some (.int .i64 ((s.k+1:Nat):Int)):=HN2.out.cells.2.1;obtain⟨y,hy,y0,y1,_⟩:=HN2.out.toks s.k HKN.out;obtain rfl:x=y:=Option.some.inj hy;rw[HTE.out] at y1;clear y0 hy;have e1:IntKind.i64.wrap (((s.k+1:Nat):Int)-1)=(s.k:Int):=by rw[show ((s.k+1:Nat):Int)-1=(s.k:Int) by omega];exact IntWalk.i64_in _ (by omega)
     have e2:(0:Int)≤(s.k:Int):=by omega
     have e3:(s.k:Int)<(N:Int):=by omega
     have e4:((s.k:Int)).toNat=s.k:=rfl;clear q1 f1 d1 d1n hk hlen;generalize ((s.k+1:Nat):Int)=K1 at v1 e1;go_quiet (fail);go_wp2;go_ret;exact⟨rfl,HN2.out.below (drewN_below8 _ _),HE2.out.trans (Eff.of_below (drewN_below8 _ _) HN2.out.lt)⟩
   ·rw[decide_eq_false h1,Bool.false_and,if_neg (by decide)];have d2:((L.getD s.k default).kd==1)=false:=beq_eq_false_iff_ne.2 h1;have d3:((L.getD s.k default).kd != 1)=true:=by rw[bne,d2];rfl
    generalize (L.getD s.k default).kd=kd at t0 d2 d3;generalize hN:L.length=N at c0 d1 d1n hk hlen;clear h c2 c4 hb hN h1 t1 t2 t3 t4 t5;go_enter Tryz.func29,Tryz.ntmps29;go_upto_region 1 with (fail);go_quiet (fail);have hb1:=drewN_below8 w nq;have HS1:=hid (HH.out.below hb1);have HE1:=hid (Eff.of_below hb1 HH.out.lt);generalize w.drewN nq=w1 at HS1 HE1 ⊢;have q1:=HS1.out.cells.2.1;clear hb1;go_wp2_with (go_at_call 36;with_reducible refine(HF.out w1 HS1.out).mono ?_;rintro e w2 ⟨rfl,h1,h2⟩;have HS2:=hid h1;have HE2:=hid (HE1.out.trans h2);clear h1 h2);go_ret;exact⟨rfl,HS2.out,HE2.out⟩
  ·rw[decide_eq_false hk,Bool.false_and,if_neg (by decide)];have d1:decide ((L.length:Int)≤(s.k:Int))=true:=decide_eq_true (by omega);have d1n:decide (L.length≤s.k)=true:=decide_eq_true (by omega);generalize hN:L.length=N at c0 d1 d1n hk hlen;clear h c2 c4 hb hk hN;go_enter Tryz.func29,Tryz.ntmps29;go_upto_region 1 with (fail);go_quiet (fail);have hb1:=drewN_below8 w nq;have HS1:=hid (HH.out.below hb1);have HE1:=hid (Eff.of_below hb1 HH.out.lt);generalize w.drewN nq=w1 at HS1 HE1 ⊢;have q1:=HS1.out.cells.2.1;clear hb1;go_wp2_with (go_at_call 36;with_reducible refine(HF.out w1 HS1.out).mono ?_;rintro e w2 ⟨rfl,h1,h2⟩;have HS2:=hid h1;have HE2:=hid (HE1.out.trans h2);clear h1 h2);go_ret;exact⟨rfl,HS2.out,HE2.out⟩
 ·rw[decide_eq_false hb,Bool.false_and,if_neg (by decide)];have d:(s.bad==0)=false:=beq_eq_false_iff_ne.2 hb;have d':(s.bad != 0)=true:=by simp[hb]
  generalize hbd:s.bad=bd at c3 d d';generalize hN:L.length=N at c0 hlen;clear h hb c2 c4 hN hbd;go_enter Tryz.func29,Tryz.ntmps29;go_upto_region 1 with (fail);go_quiet (fail);have hb1:=drewN_below8 w nq;have HS1:=hid (HH.out.below hb1);have HE1:=hid (Eff.of_below hb1 HH.out.lt);generalize w.drewN nq=w1 at HS1 HE1 ⊢;have q1:=HS1.out.cells.2.1;clear hb1;go_wp2_with (go_at_call 36;with_reducible refine(HF.out w1 HS1.out).mono ?_;rintro e w2 ⟨rfl,h1,h2⟩;have HS2:=hid h1;have HE2:=hid (HE1.out.trans h2);clear h1 h2);go_ret;exact⟨rfl,HS2.out,HE2.out⟩
theorem kind8_any (p cap n:Nat) (a:Option Addr) (L:List TokE) (s:S8) (w:World) (h:DSt w p cap n a L s) :
  Calls Tryz.prog 46 #[.pointer (some ⟨p,0,none⟩)] w fun e w'=>e=.returned (.int .i64 (kindS L n s).2)∧St8 p cap n a L (kindS L n s).1 w w':=by
 obtain⟨c0,c1,c2,c3,c4⟩:=h.cells;have hlen:=h.len;have HH:=hid h;have HF:=hid (fun W (hW:DSt W p cap n a L s)=>fail8_any p cap n a L s s.k 80 (by omega) W hW);unfold kindS kindB8;by_cases hb:s.bad=0
 ·rw[decide_eq_true hb,Bool.true_and];have HB:=hid hb;rw[hb] at c3;by_cases hk:s.k<L.length
  ·rw[decide_eq_true hk,Bool.true_and];obtain⟨x,rfl,t0,t1,t2,t3,t4,t5⟩:=h.toks s.k hk;have d1:decide ((s.k:Int)<(L.length:Int))=true:=decide_eq_true (by omega);have d1n:decide (s.k<L.length)=true:=decide_eq_true hk;unfold tkE;by_cases h1:(L.getD s.k default).kd=1
   ·rw[decide_eq_true h1,Bool.true_and];have HKN:=hid hk;generalize ht:L.getD s.k default=t at *
    have HTE:=hid ht;rw[h1] at t0;have hty:=fun W=>rtype8_any t.tx W;rw[tyG8] at hty;generalize tyF8 t.tx.toList=ty at hty ⊢;have HTY:=hid hty;generalize hN:L.length=N at c0 d1 d1n hk hlen;have HNN:=hid hN;clear h c2 c4 t1 t2 t3 t4 t5 hb hN ht h1 hty;obtain⟨tk,tb⟩:=ty;cases tb with
    | false =>
     rw[Bool.false_and,if_neg (by decide)];go_enter Tryz.func46,Tryz.ntmps46;go_upto_region 1 with (fail);go_quiet (fail);have hb1:=drewN_below8 w nq;have HS1:=hid (HH.out.below hb1);have HE1:=hid (Eff.of_below hb1 HH.out.lt);generalize w.drewN nq=w0 at HS1 HE1 ⊢;have v0:w0.cell? ⟨p,0,none⟩=some (.slice (some x) N cap):=by rw[← HNN.out];exact HS1.out.cells.1
     have v1:=HS1.out.cells.2.1;obtain⟨y,hy,y0,y1,_⟩:=HS1.out.toks s.k HKN.out;obtain rfl:x=y:=Option.some.inj hy;rw[HTE.out] at y1;clear y0 hy hb1 t0 c0 c1 c3;have e2:(0:Int)≤(s.k:Int):=by omega
     have e3:(s.k:Int)<(N:Int):=by omega
     clear d1 d1n hk hlen;go_upto_region 2 with (fail);go_quiet ((go_at_call 69;exact Calls.quiet_of_same ((HTY.out _).mono (fun _ _ h=>⟨h.1,h.2.symm⟩))));clear v0 v1 y1 e2 e3;have hb2:=drewN_below8 w0 nq;have HS2:=hid (HS1.out.below hb2);have HE2:=hid (HE1.out.trans (Eff.of_below hb2 HS1.out.lt));generalize w0.drewN nq=w1 at HS2 HE2 ⊢;clear hb2 HS1 HE1;have HS1:=HS2;have HE1:=HE2;have q1:=HS1.out.cells.2.1;clear HS2 HE2;go_wp2_with (go_at_call 36;(with_reducible refine(HF.out w1 HS1.out).mono ?_);rintro e w2 ⟨rfl,h1,h2⟩;have HS2:=hid h1;have HE2:=hid (HE1.out.trans h2);clear h1 h2);go_ret;exact⟨rfl,HS2.out,HE2.out⟩
    | true =>
     rw[Bool.true_and];by_cases h5:tk=5
     ·subst h5;rw[if_neg (by decide)];go_enter Tryz.func46,Tryz.ntmps46;go_upto_region 1 with (fail);go_quiet (fail);have hb1:=drewN_below8 w nq;have HS1:=hid (HH.out.below hb1);have HE1:=hid (Eff.of_below hb1 HH.out.lt);generalize w.drewN nq=w0 at HS1 HE1 ⊢;have v0:w0.cell? ⟨p,0,none⟩=some (.slice (some x) N cap):=by rw[← HNN.out];exact HS1.out.cells.1
      have v1:=HS1.out.cells.2.1;obtain⟨y,hy,y0,y1,_⟩:=HS1.out.toks s.k HKN.out;obtain rfl:x=y:=Option.some.inj hy;rw[HTE.out] at y1;clear y0 hy hb1 t0 c0 c1 c3;have e2:(0:Int)≤(s.k:Int):=by omega
      have e3:(s.k:Int)<(N:Int):=by omega
      clear d1 d1n hk hlen;go_upto_region 2 with (fail);go_quiet ((go_at_call 69;exact Calls.quiet_of_same ((HTY.out _).mono (fun _ _ h=>⟨h.1,h.2.symm⟩))));clear v0 v1 y1 e2 e3;have hb2:=drewN_below8 w0 nq;have HS2:=hid (HS1.out.below hb2);have HE2:=hid (HE1.out.trans (Eff.of_below hb2 HS1.out.lt));generalize w0.drewN nq=w1 at HS2 HE2 ⊢;clear hb2 HS1 HE1;have HS1:=HS2;have HE1:=HE2;have q1:=HS1.out.cells.2.1;clear HS2 HE2;go_wp2_with (go_at_call 36;(with_reducible refine(HF.out w1 HS1.out).mono ?_);rintro e w2 ⟨rfl,h1,h2⟩;have HS2:=hid h1;have HE2:=hid (HE1.out.trans h2);clear h1 h2);go_ret;exact⟨rfl,HS2.out,HE2.out⟩
     ·rw[if_pos (decide_eq_true h5)];have d5:(((tk:Nat):Int)==5)=false:=beq_eq_false_iff_ne.2 (by omega);have d5':(((tk:Nat):Int) != 5)=true:=by rw[bne,d5];rfl
      have HTV:Hid (∃ z:Int,z=(tk:Nat)):=hid ⟨_,rfl⟩;clear h5;go_enter Tryz.func46,Tryz.ntmps46;go_upto_region 1 with (fail);go_quiet (fail);have hb1:=drewN_below8 w nq;have HS1:=hid (HH.out.below hb1);have HE1:=hid (Eff.of_below hb1 HH.out.lt);generalize w.drewN nq=w0 at HS1 HE1 ⊢;have v0:w0.cell? ⟨p,0,none⟩=some (.slice (some x) N cap):=by rw[← HNN.out];exact HS1.out.cells.1
      have v1:=HS1.out.cells.2.1;obtain⟨y,hy,y0,y1,_⟩:=HS1.out.toks s.k HKN.out;obtain rfl:x=y:=Option.some.inj hy;rw[HTE.out] at y1;clear y0 hy hb1 t0 c0 c1 c3;have e2:(0:Int)≤(s.k:Int):=by omega
      have e3:(s.k:Int)<(N:Int):=by omega
      clear d1 d1n hk hlen;go_upto_region 2 with (fail);go_quiet ((go_at_call 69;exact Calls.quiet_of_same ((HTY.out _).mono (fun _ _ h=>⟨h.1,h.2.symm⟩))));clear v0 v1 y1 e2 e3;have hb2:=drewN_below8 w0 nq;have HS2:=hid (HS1.out.below hb2);have HE2:=hid (HE1.out.trans (Eff.of_below hb2 HS1.out.lt));generalize w0.drewN nq=w1 at HS2 HE2 ⊢;clear hb2 HS1 HE1;have HS1:=HS2;have HE1:=HE2;have q1:=HS1.out.cells.2.1;clear HS2 HE2;have HN2:=hid (HS1.out.next HKN.out);have HE2:=hid (HE1.out.set 1 (.int .i64 ((s.k+1:Nat):Int)));have f1:=HS1.out.box.fz 1;have hkb:=HKN.out;have hlb:=HH.out.len;go_upto_region 5 with (fail);rw[show (s.k:Int)+1=((s.k+1:Nat):Int) from rfl];generalize w1.setCell ⟨p,1,none⟩ (.int .i64 ((s.k+1:Nat):Int))=w2 at HN2 HE2 ⊢;go_wp2;go_ret;exact⟨rfl,HN2.out,HE2.out⟩
   ·rw[decide_eq_false h1,Bool.false_and,if_neg (by decide)];have d2:((L.getD s.k default).kd==1)=false:=beq_eq_false_iff_ne.2 h1;generalize (L.getD s.k default).kd=kd at t0 d2;generalize hN:L.length=N at c0 d1 d1n hk hlen;clear h c2 c4 hb hN h1 t1 t2 t3 t4 t5;go_enter Tryz.func46,Tryz.ntmps46;go_upto_region 1 with (fail);go_quiet (fail);have hb1:=drewN_below8 w nq;have HS1:=hid (HH.out.below hb1);have HE1:=hid (Eff.of_below hb1 HH.out.lt);generalize w.drewN nq=w1 at HS1 HE1 ⊢;have q1:=HS1.out.cells.2.1;clear hb1;go_wp2_with (go_at_call 36;(with_reducible refine(HF.out w1 HS1.out).mono ?_);rintro e w2 ⟨rfl,h1,h2⟩;have HS2:=hid h1;have HE2:=hid (HE1.out.trans h2);clear h1 h2);go_ret;exact⟨rfl,HS2.out,HE2.out⟩
  ·rw[decide_eq_false hk,Bool.false_and,Bool.false_and,if_neg (by decide)];have d1:decide ((s.k:Int)<(L.length:Int))=false:=decide_eq_false (by omega);have d1n:decide (s.k<L.length)=false:=decide_eq_false hk;generalize hN:L.length=N at c0 d1 d1n hk hlen;clear h c2 c4 hb hk hN;go_enter Tryz.func46,Tryz.ntmps46;go_upto_region 1 with (fail);go_quiet (fail);have hb1:=drewN_below8 w nq;have HS1:=hid (HH.out.below hb1);have HE1:=hid (Eff.of_below hb1 HH.out.lt);generalize w.drewN nq=w1 at HS1 HE1 ⊢;have q1:=HS1.out.cells.2.1;clear hb1;go_wp2_with (go_at_call 36;(with_reducible refine(HF.out w1 HS1.out).mono ?_);rintro e w2 ⟨rfl,h1,h2⟩;have HS2:=hid h1;have HE2:=hid (HE1.out.trans h2);clear h1 h2);go_ret;exact⟨rfl,HS2.out,HE2.out⟩
 ·rw[decide_eq_false hb,Bool.false_and,Bool.false_and,if_neg (by decide)];have d:(s.bad==0)=false:=beq_eq_false_iff_ne.2 hb;generalize hbd:s.bad=bd at c3 d;generalize hN:L.length=N at c0 hlen;clear h hb c2 c4 hN hbd;go_enter Tryz.func46,Tryz.ntmps46;go_upto_region 1 with (fail);go_quiet (fail);have hb1:=drewN_below8 w nq;have HS1:=hid (HH.out.below hb1);have HE1:=hid (Eff.of_below hb1 HH.out.lt);generalize w.drewN nq=w1 at HS1 HE1 ⊢;have q1:=HS1.out.cells.2.1;clear hb1;go_wp2_with (go_at_call 36;(with_reducible refine(HF.out w1 HS1.out).mono ?_);rintro e w2 ⟨rfl,h1,h2⟩;have HS2:=hid h1;have HE2:=hid (HE1.out.trans h2);clear h1 h2);go_ret;exact⟨rfl,HS2.out,HE2.out⟩
theorem var8_any (p cap n:Nat) (a:Option Addr) (L:List TokE) (s:S8) (w:World) (h:DSt w p cap n a L s) :
  Calls Tryz.prog 70 #[.pointer (some ⟨p,0,none⟩)] w fun e w'=>e=.returned (.string (varS L n s).2)∧St8 p cap n a L (varS L n s).1 w w':=by
 have HWD:=hid (fun W (hW:DSt W p cap n a L s)=>word8_any p cap n a L s W hW);have HH:=hid h;unfold varS;clear h;cases hi:isB L s ⟨#[95]⟩ with
 | true =>
  rw[if_pos rfl];have HI:=hid hi;clear hi;go_enter Tryz.func70,Tryz.ntmps70;go_wp2_with (go_at_call 26;(with_reducible refine(take8_yes HH.out HI.out).mono ?_);rintro e w1 ⟨rfl,hs⟩;have HS1:=hid hs;clear hs);go_ret;exact⟨rfl,HS1.out⟩
 | false =>
  rw[if_neg (by decide)];have HI:=hid hi;clear hi;generalize wordS L n s=W at HWD ⊢;go_enter Tryz.func70,Tryz.ntmps70;go_wp2_with (first
   | (go_at_call 26;(with_reducible refine(take8_no HH.out HI.out).mono ?_);rintro e w1 ⟨rfl,hs⟩;have HS1:=hid hs;clear hs)
   | (go_at_call 29;(with_reducible refine(HWD.out w1 HS1.out.1).mono ?_);rintro e w2 ⟨rfl,hs⟩;have HS2:=hid (show St8 p cap n a L W.1 w w2 from ⟨hs.1,HS1.out.2.trans hs.2⟩);clear hs))
  go_ret;exact⟨rfl,HS2.out⟩
end Go.Proofs.YtkpboalccpancaaGreatDoor
