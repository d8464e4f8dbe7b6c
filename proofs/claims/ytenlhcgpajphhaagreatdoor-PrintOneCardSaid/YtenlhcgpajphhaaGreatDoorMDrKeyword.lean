import Derived.Test.YtenlhcgpajphhaaGreatDoorMDcPlain
import Derived.Test.YtenlhcgpajphhaaGreatDoorMDrIs
import Derived.Deep.RegionHeld3
import Derived.IntWalk
import Derived.Deep.QuietTactic
import Derived.BigQuiet
namespace Go.Proofs.YtenlhcgpajphhaaGreatDoor
open Go.RowKit Go.Shelf
set_option maxRecDepth 100000
set_option linter.all false
def qjP (k:Int):ByteArray:=if k=1 then ⟨#[105,110,116]⟩ else if k=2 then ⟨#[114,101,97,108]⟩ else if k=3 then ⟨#[99,111,109,112]⟩ else if k=4 then ⟨#[116,101,120,116]⟩ else if k=5 then ⟨#[98,111,111,108]⟩ else ⟨#[]⟩
def tyG (l:List UInt8):Nat→Nat→Nat × Bool
 | 0,_=>(0,false)
 | f+1,k=>if (qjP k).toList==l then (k,true) else tyG l f (k+1)
theorem tyG8 (l:List UInt8):tyG l 5 1=qs6 l:=by
 have e1:(qjP ((1:Nat):Int)).toList=[105,110,116]:=by rw[qbT];rfl
 have e2:(qjP ((1+1:Nat):Int)).toList=[114,101,97,108]:=by rw[qbT];rfl
 have e3:(qjP ((1+1+1:Nat):Int)).toList=[99,111,109,112]:=by rw[qbT];rfl
 have e4:(qjP ((1+1+1+1:Nat):Int)).toList=[116,101,120,116]:=by rw[qbT];rfl
 have e5:(qjP ((1+1+1+1+1:Nat):Int)).toList=[98,111,111,108]:=by rw[qbT];rfl
 unfold qs6 tyG;rw[e1];by_cases h1:l=[105,110,116]
 ·subst h1;rfl
 rw[if_neg h1,if_neg (by simpa using fun h=>h1 h.symm)];unfold tyG;rw[e2];by_cases h2:l=[114,101,97,108]
 ·subst h2;rfl
 rw[if_neg h2,if_neg (by simpa using fun h=>h2 h.symm)];unfold tyG;rw[e3];by_cases h3:l=[99,111,109,112]
 ·subst h3;rfl
 rw[if_neg h3,if_neg (by simpa using fun h=>h3 h.symm)];unfold tyG;rw[e4];by_cases h4:l=[116,101,120,116]
 ·subst h4;rfl
 rw[if_neg h4,if_neg (by simpa using fun h=>h4 h.symm)];unfold tyG;rw[e5];by_cases h5:l=[98,111,111,108]
 ·subst h5;rfl
 rw[if_neg h5,if_neg (by simpa using fun h=>h5 h.symm)];rfl
open Lib(hid)
set_option maxHeartbeats 4000000
theorem kwq (b c:ByteArray) {l:List UInt8} (hl:c.toList=l):(b.toList==l)=decide (c=b):=by
 subst hl;rw[bEq8];exact decide_eq_decide.2 ⟨Eq.symm,Eq.symm⟩
theorem qoS (b:ByteArray) (w:World):Calls Tryz.prog 19 #[.string b] w fun e w'=>e=.returned (.bool (kwB b))∧w=w':=by
 have e0:=kwq b ⟨#[116,97,103]⟩ (l:=[116,97,103]) (by rw[qbT]);have e1:=kwq b ⟨#[107,105,110,100]⟩ (l:=[107,105,110,100]) (by rw[qbT]);have e2:=kwq b ⟨#[99,104,111,114,100]⟩ (l:=[99,104,111,114,100]) (by rw[qbT]);have e3:=kwq b ⟨#[119,104,101,110]⟩ (l:=[119,104,101,110]) (by rw[qbT]);have e4:=kwq b ⟨#[115,101,110,100]⟩ (l:=[115,101,110,100]) (by rw[qbT]);have e5:=kwq b ⟨#[115,112,97,119,110]⟩ (l:=[115,112,97,119,110]) (by rw[qbT]);have e6:=kwq b ⟨#[97,115]⟩ (l:=[97,115]) (by rw[qbT]);have e7:=kwq b ⟨#[114,101,112,108,121]⟩ (l:=[114,101,112,108,121]) (by rw[qbT]);have e8:=kwq b ⟨#[98,101,99,111,109,101]⟩ (l:=[98,101,99,111,109,101]) (by rw[qbT]);unfold kwB kwL;simp only[List.any_cons,List.any_nil];generalize decide ((⟨#[116,97,103]⟩:ByteArray)=b)=q0 at e0 ⊢;generalize decide ((⟨#[107,105,110,100]⟩:ByteArray)=b)=q1 at e1 ⊢;generalize decide ((⟨#[99,104,111,114,100]⟩:ByteArray)=b)=q2 at e2 ⊢;generalize decide ((⟨#[119,104,101,110]⟩:ByteArray)=b)=q3 at e3 ⊢;generalize decide ((⟨#[115,101,110,100]⟩:ByteArray)=b)=q4 at e4 ⊢;generalize decide ((⟨#[115,112,97,119,110]⟩:ByteArray)=b)=q5 at e5 ⊢;generalize decide ((⟨#[97,115]⟩:ByteArray)=b)=q6 at e6 ⊢;generalize decide ((⟨#[114,101,112,108,121]⟩:ByteArray)=b)=q7 at e7 ⊢;generalize decide ((⟨#[98,101,99,111,109,101]⟩:ByteArray)=b)=q8 at e8 ⊢;cases q0 with
 | true =>
  clear e1 e2 e3 e4 e5 e6 e7 e8;rw[Bool.true_or];go_enter Tryz.func19,Tryz.ntmps19;go_wp2;go_ret;exact⟨rfl,rfl⟩
 | false =>
  rw[Bool.false_or];cases q1 with
  | true =>
   clear e2 e3 e4 e5 e6 e7 e8;rw[Bool.true_or];go_enter Tryz.func19,Tryz.ntmps19;go_wp2;go_ret;exact⟨rfl,rfl⟩
  | false =>
   rw[Bool.false_or];cases q2 with
   | true =>
    clear e3 e4 e5 e6 e7 e8;rw[Bool.true_or];go_enter Tryz.func19,Tryz.ntmps19;go_wp2;go_ret;exact⟨rfl,rfl⟩
   | false =>
    rw[Bool.false_or];cases q3 with
    | true =>
     clear e4 e5 e6 e7 e8;rw[Bool.true_or];go_enter Tryz.func19,Tryz.ntmps19;go_wp2;go_ret;exact⟨rfl,rfl⟩
    | false =>
     rw[Bool.false_or];cases q4 with
     | true =>
      clear e5 e6 e7 e8;rw[Bool.true_or];go_enter Tryz.func19,Tryz.ntmps19;go_wp2;go_ret;exact⟨rfl,rfl⟩
     | false =>
      rw[Bool.false_or];cases q5 with
      | true =>
       clear e6 e7 e8;rw[Bool.true_or];go_enter Tryz.func19,Tryz.ntmps19;go_wp2;go_ret;exact⟨rfl,rfl⟩
      | false =>
       rw[Bool.false_or];cases q6 with
       | true =>
        clear e7 e8;rw[Bool.true_or];go_enter Tryz.func19,Tryz.ntmps19;go_wp2;go_ret;exact⟨rfl,rfl⟩
       | false =>
        rw[Bool.false_or];cases q7 with
        | true =>
         clear e8;rw[Bool.true_or];go_enter Tryz.func19,Tryz.ntmps19;go_wp2;go_ret;exact⟨rfl,rfl⟩
        | false =>
         rw[Bool.false_or];cases q8 with
         | true =>
          rw[Bool.true_or];go_enter Tryz.func19,Tryz.ntmps19;go_wp2;go_ret;exact⟨rfl,rfl⟩
         | false =>
          rw[Bool.false_or];go_enter Tryz.func19,Tryz.ntmps19;go_wp2;go_ret;exact⟨rfl,rfl⟩
section
variable {L:List TokE} {n:Nat} {s:S8}
theorem q7J (hb:s.bad=0):qaV L n s=if (decide ((nxT L n s.k).kd=1) && !kwB (nxT L n s.k).tx)=true then (qa6 s,(nxT L n s.k).tx) else (qcB L n s s.k 80,eB):=by
 unfold qaV qhP nxT;rw[decide_eq_true hb,Bool.true_and];by_cases h:s.k<L.length
 ·rw[decide_eq_true h,if_pos h,Bool.true_and]
 ·rw[decide_eq_false h,if_neg h,Bool.false_and];rfl
theorem jaY {k:Nat} (h:(nxT L n k).kd=1):k<L.length:=by
 unfold nxT at h;by_cases hk:k<L.length
 ·exact hk
 ·rw[if_neg hk] at h;cases h
theorem q8J (hb:s.bad=0):qdK L n s=if (decide ((nxT L n s.k).kd=1) && ((qs6 (nxT L n s.k).tx.toList).2 && decide ((qs6 (nxT L n s.k).tx.toList).1≠5)))=true then (qa6 s,(((qs6 (nxT L n s.k).tx.toList).1:Nat):Int)) else (qcB L n s s.k 80,0):=by
 unfold qdK qiU nxT;rw[decide_eq_true hb,Bool.true_and];by_cases h:s.k<L.length
 ·rw[decide_eq_true h,if_pos h,Bool.true_and]
 ·rw[decide_eq_false h,if_neg h,Bool.false_and];rfl
end
theorem qd9 (p cap n:Nat) (a:Option Addr) (L:List TokE) (s:S8) (w:World) (h:PSt w p cap n a L s) :
  Calls Tryz.prog 73 #[.pointer (some ⟨p,0,none⟩)] w (Go8 p cap n a L (qaV L n s).1 (fun e _=>e=.returned (.string (qaV L n s).2)) w):=by
 have HN:=hid (qiP p cap n a L s w h);have HH:=hid h;have hud:undef=.tuple #[]:=rfl;have sf:=qbQ;unfold Go8;rw[q7J h.ok];have HT:=hid (fun (hk:(nxT L n s.k).kd=1)=>jaY hk);obtain⟨T,hT⟩:∃ T,T=nxT L n s.k:=⟨_,rfl⟩
 rw[← hT] at HN HT ⊢;obtain⟨tk,ttx,tiv,trl,tpl,tsz⟩:=T;unfold tkA at HN;simp only at HN HT ⊢;have HKW:=hid (fun W=>qoS ttx W);have HPZ:=hid h.lt;clear h hT;by_cases h1:tk=1
 ·subst h1;rw[decide_eq_true (rfl:(1:Int)=1),Bool.true_and];have HT':=hid (HT.out (by first|exact rfl|exact trivial));clear HT;have HT:=HT';cases hq:kwB ttx with
  | false =>
   rw[hq] at HKW;rw[if_pos (by rfl)];clear hq;go_enter Tryz.func73,Tryz.ntmps73;go_upto_region 2 with (go_at_call 104;(with_reducible refine HN.out.mono ?_);rintro e w1 ⟨rfl,hb⟩;have HPW:=Nat.lt_of_lt_of_le HH.out.lt hb.size;have HS:=hid (HH.out.below hb);have HE:=hid (Eff.of_below hb HH.out.lt);clear hb);have hb2:Below w1.heap.size w1 (w1.alloc (.cells #[.int .i64 1,.string ttx,.int .i64 tiv,.float .f64 trl,.int .i64 tpl,.int .i64 tsz] 158)):=(Below.refl _ _).alloc (Nat.le_refl _) _;have HX:Hid (Bx (w1.alloc (.cells #[.int .i64 1,.string ttx,.int .i64 tiv,.float .f64 trl,.int .i64 tpl,.int .i64 tsz] 158)) w1.heap.size 158 [.int .i64 1,.string ttx,.int .i64 tiv,.float .f64 trl,.int .i64 tpl,.int .i64 tsz]):=hid (Bx.new w1 _ _);have HS2:=hid (HS.out.below hb2);have HE2:=hid (HE.out.trans (Eff.of_below hb2 HS.out.lt));generalize w1.alloc (.cells #[.int .i64 1,.string ttx,.int .i64 tiv,.float .f64 trl,.int .i64 tpl,.int .i64 tsz] 158)=W1 at HX HS2 HE2 ⊢;have x0:=HX.out.c 0 rfl;have x1:=HX.out.c 1 rfl;clear hb2 HS HE;have HP:=hid HPW;have c2:=HS2.out.cells.2.2;have f2:=HS2.out.box.fz 2;have HK:=hid (HS2.out.next HT.out);have HE3:=hid (HE2.out.set 2 (.int .i64 ((s.k+1:Nat):Int)));have HX3:=hid (HX.out.other (show w1.heap.size≠p by have:=HP.out;omega) 2 (.int .i64 ((s.k+1:Nat):Int)));have hkb:=HT.out;have hlen:=HH.out.len;generalize s.k=k at c2 hkb HK HE3 HX3;go_upto_region 5 with (go_at_call 19;(with_reducible refine(HKW.out _).mono ?_);rintro e w3 ⟨rfl,rfl⟩);rw[show (k:Int)+1=((k+1:Nat):Int) from rfl];generalize W1.setCell ⟨p,2,none⟩ (.int .i64 ((k+1:Nat):Int))=WM at HK HE3 HX3 ⊢;have y1:=HX3.out.c 1 rfl;go_wp2;go_ret;exact⟨.inl ⟨rfl,HK.out⟩,HE3.out⟩
  | true =>
   rw[hq] at HKW;rw[if_neg (by decide)];clear hq;have HB:Hid ((qcB L n s s.k 80).bad≠0):=hid (by rw[qe2 HH.out.ok];decide);have HG:=hid (fun W (hW:PSt W p cap n a L s)=>qe1 p cap n a L s 80 W hW);generalize qcB L n s s.k 80=R at HB HG ⊢;go_enter Tryz.func73,Tryz.ntmps73;go_upto_region 2 with (go_at_call 104;(with_reducible refine HN.out.mono ?_);rintro e w1 ⟨rfl,hb⟩;have HPW:=Nat.lt_of_lt_of_le HH.out.lt hb.size;have HS:=hid (HH.out.below hb);have HE:=hid (Eff.of_below hb HH.out.lt);clear hb);have hb2:Below w1.heap.size w1 (w1.alloc (.cells #[.int .i64 1,.string ttx,.int .i64 tiv,.float .f64 trl,.int .i64 tpl,.int .i64 tsz] 158)):=(Below.refl _ _).alloc (Nat.le_refl _) _;have HX:Hid (Bx (w1.alloc (.cells #[.int .i64 1,.string ttx,.int .i64 tiv,.float .f64 trl,.int .i64 tpl,.int .i64 tsz] 158)) w1.heap.size 158 [.int .i64 1,.string ttx,.int .i64 tiv,.float .f64 trl,.int .i64 tpl,.int .i64 tsz]):=hid (Bx.new w1 _ _);have HS2:=hid (HS.out.below hb2);have HE2:=hid (HE.out.trans (Eff.of_below hb2 HS.out.lt));generalize w1.alloc (.cells #[.int .i64 1,.string ttx,.int .i64 tiv,.float .f64 trl,.int .i64 tpl,.int .i64 tsz] 158)=W1 at HX HS2 HE2 ⊢;have x0:=HX.out.c 0 rfl;have x1:=HX.out.c 1 rfl;clear hb2 HS HE;go_wp2_with (first
    | (go_at_call 19;(with_reducible refine(HKW.out _).mono ?_);rintro e w3 ⟨rfl,rfl⟩)
    | (go_at_call 66;(with_reducible refine(HG.out _ HS2.out).mono ?_);rintro e w2 ⟨rfl,hb⟩;have HE3:=hid (HE2.out.trans (Eff.of_below hb HS2.out.lt));clear hb;unfold qb0))
   exact⟨rfl,.inr ⟨HB.out,rfl⟩,HE3.out⟩
 ·rw[decide_eq_false h1,Bool.false_and,if_neg (by decide)];have d1:(tk==1)=false:=beq_eq_false_iff_ne.2 h1;have d1':(tk != 1)=true:=by rw[bne,d1];rfl
  clear h1 HT;have HB:Hid ((qcB L n s s.k 80).bad≠0):=hid (by rw[qe2 HH.out.ok];decide);have HG:=hid (fun W (hW:PSt W p cap n a L s)=>qe1 p cap n a L s 80 W hW);generalize qcB L n s s.k 80=R at HB HG ⊢;go_enter Tryz.func73,Tryz.ntmps73;go_upto_region 2 with (go_at_call 104;(with_reducible refine HN.out.mono ?_);rintro e w1 ⟨rfl,hb⟩;have HPW:=Nat.lt_of_lt_of_le HH.out.lt hb.size;have HS:=hid (HH.out.below hb);have HE:=hid (Eff.of_below hb HH.out.lt);clear hb);have hb2:Below w1.heap.size w1 (w1.alloc (.cells #[.int .i64 tk,.string ttx,.int .i64 tiv,.float .f64 trl,.int .i64 tpl,.int .i64 tsz] 158)):=(Below.refl _ _).alloc (Nat.le_refl _) _;have HX:Hid (Bx (w1.alloc (.cells #[.int .i64 tk,.string ttx,.int .i64 tiv,.float .f64 trl,.int .i64 tpl,.int .i64 tsz] 158)) w1.heap.size 158 [.int .i64 tk,.string ttx,.int .i64 tiv,.float .f64 trl,.int .i64 tpl,.int .i64 tsz]):=hid (Bx.new w1 _ _);have HS2:=hid (HS.out.below hb2);have HE2:=hid (HE.out.trans (Eff.of_below hb2 HS.out.lt));generalize w1.alloc (.cells #[.int .i64 tk,.string ttx,.int .i64 tiv,.float .f64 trl,.int .i64 tpl,.int .i64 tsz] 158)=W1 at HX HS2 HE2 ⊢;have x0:=HX.out.c 0 rfl;have x1:=HX.out.c 1 rfl;clear hb2 HS HE;go_wp2_with (first
   | (go_at_call 66;(with_reducible refine(HG.out _ HS2.out).mono ?_);rintro e w2 ⟨rfl,hb⟩;have HE3:=hid (HE2.out.trans (Eff.of_below hb HS2.out.lt));clear hb;unfold qb0))
  exact⟨rfl,.inr ⟨HB.out,rfl⟩,HE3.out⟩
theorem qmX (k:Int) (w:World):Calls Tryz.prog 85 #[.int .i64 k] w fun e w'=>e=.returned (.string (qjP k))∧w=w':=by
 by_cases h1:k=1
 ·subst h1;go_enter Tryz.func85,Tryz.ntmps85;go_wp2;go_ret;exact⟨rfl,rfl⟩
 by_cases h2:k=2
 ·subst h2;go_enter Tryz.func85,Tryz.ntmps85;go_wp2;go_ret;exact⟨rfl,rfl⟩
 by_cases h3:k=3
 ·subst h3;go_enter Tryz.func85,Tryz.ntmps85;go_wp2;go_ret;exact⟨rfl,rfl⟩
 by_cases h4:k=4
 ·subst h4;go_enter Tryz.func85,Tryz.ntmps85;go_wp2;go_ret;exact⟨rfl,rfl⟩
 by_cases h5:k=5
 ·subst h5;go_enter Tryz.func85,Tryz.ntmps85;go_wp2;go_ret;exact⟨rfl,rfl⟩
 have e:qjP k=⟨#[]⟩:=by unfold qjP;rw[if_neg h1,if_neg h2,if_neg h3,if_neg h4,if_neg h5]
 rw[e];have t1:(k==1)=false:=beq_eq_false_iff_ne.2 h1;have t2:(k==2)=false:=beq_eq_false_iff_ne.2 h2;have t3:(k==3)=false:=beq_eq_false_iff_ne.2 h3;have t4:(k==4)=false:=beq_eq_false_iff_ne.2 h4;have t5:(k==5)=false:=beq_eq_false_iff_ne.2 h5;clear h1 h2 h3 h4 h5 e;go_enter Tryz.func85,Tryz.ntmps85;go_wp2;go_ret;exact⟨rfl,rfl⟩
theorem qwK (s:ByteArray) (w:World):Calls Tryz.prog 132 #[.string s] w fun e w'=>e=.returned (.tuple #[.int .i64 ((tyG s.toList 5 1).1:Nat),.bool (tyG s.toList 5 1).2])∧w=w':=by
 obtain⟨T,hT⟩:∃ T,T=tyG s.toList 5 1:=⟨_,rfl⟩
 rw[← hT];have HT:=hid hT;clear hT;go_enter Tryz.func132,Tryz.ntmps132;go_wp2;go_loop [4] (fun i=>∃ k f:Nat,k+f=6∧1≤k∧i=.int .i64 k∧Hid (tyG s.toList f k=T)) (fun i=>6-(intOf i).toNat)
 case atStart=>exact⟨1,5,rfl,Nat.le_refl _,rfl,hid HT.out.symm⟩
 case round =>
  obtain⟨k,f,hkf,hk1,rfl,hx⟩:=hrel;cases f with
  | zero =>
   have d1:decide ((k:Int)≤5)=false:=decide_eq_false (by omega);have HX:Hid (T=(0,false)):=hid (by rw[← hx.out];rfl);clear hx;go_wp2
   go_ret2
   exact⟨by rw[HX.out];rfl,rfl⟩
  | succ f =>
   have d1:decide ((k:Int)≤5)=true:=decide_eq_true (by omega);have HN:=hid (fun W=>qmX (k:Int) W);obtain⟨nm,hnm⟩:∃ nm,nm=qjP (k:Int):=⟨_,rfl⟩
   have hy:=hx.out;unfold tyG at hy;rw[← hnm] at HN hy;cases hb:(nm.toList==s.toList) with
   | true =>
    rw[hb] at hy;have HX:Hid (T=(k,true)):=hid (by rw[← hy];rfl);clear hx hy hnm;go_wp2_with (go_at_call 85;refine(HN.out _).mono ?_;rintro e w' ⟨rfl,rfl⟩)
    go_ret2
    exact⟨by rw[HX.out];rfl,rfl⟩
   | false =>
    rw[hb] at hy;have HX:Hid (tyG s.toList f (k+1)=T):=hid (by rw[← hy];rfl);clear hx hy hnm;go_wp2_with (go_at_call 85;refine(HN.out _).mono ?_;rintro e w' ⟨rfl,rfl⟩)
    go_round
    case rel=>exact⟨k+1,f,by omega,by omega,by go_num,HX⟩
    case measure=>simp[intOf];omega
theorem qsU (p cap n:Nat) (a:Option Addr) (L:List TokE) (s:S8) (w:World) (h:PSt w p cap n a L s) :
  Calls Tryz.prog 106 #[.pointer (some ⟨p,0,none⟩)] w (Go8 p cap n a L (qdK L n s).1 (fun e _=>e=.returned (.int .i64 (qdK L n s).2)) w):=by
 have HN:=hid (qiP p cap n a L s w h);have HH:=hid h;have hud:undef=.tuple #[]:=rfl;have sf:=qbQ;unfold Go8;rw[q8J h.ok];have HT:=hid (fun (hk:(nxT L n s.k).kd=1)=>jaY hk);obtain⟨T,hT⟩:∃ T,T=nxT L n s.k:=⟨_,rfl⟩
 rw[← hT] at HN HT ⊢;obtain⟨tk,ttx,tiv,trl,tpl,tsz⟩:=T;unfold tkA at HN;simp only at HN HT ⊢;have HTY:=hid (fun W=>qwK ttx W);have HPZ:=hid h.lt;rw[tyG8] at HTY;generalize qs6 ttx.toList=T at HTY ⊢;obtain⟨ty,kn⟩:=T;simp only at HTY ⊢;clear h hT;by_cases h1:tk=1
 ·subst h1;rw[decide_eq_true (rfl:(1:Int)=1),Bool.true_and];have HT':=hid (HT.out (by first|exact rfl|exact trivial));clear HT;have HT:=HT';cases kn with
  | true =>
   rw[Bool.true_and];by_cases h5:ty=5
   ·subst h5;rw[if_neg (by decide)];have HB:Hid ((qcB L n s s.k 80).bad≠0):=hid (by rw[qe2 HH.out.ok];decide);have HG:=hid (fun W (hW:PSt W p cap n a L s)=>qe1 p cap n a L s 80 W hW);generalize qcB L n s s.k 80=R at HB HG ⊢;go_enter Tryz.func106,Tryz.ntmps106;go_upto_region 2 with (go_at_call 104;(with_reducible refine HN.out.mono ?_);rintro e w1 ⟨rfl,hb⟩;have HPW:=Nat.lt_of_lt_of_le HH.out.lt hb.size;have HS:=hid (HH.out.below hb);have HE:=hid (Eff.of_below hb HH.out.lt);clear hb);have hb2:Below w1.heap.size w1 (w1.alloc (.cells #[.int .i64 1,.string ttx,.int .i64 tiv,.float .f64 trl,.int .i64 tpl,.int .i64 tsz] 158)):=(Below.refl _ _).alloc (Nat.le_refl _) _;have HX:Hid (Bx (w1.alloc (.cells #[.int .i64 1,.string ttx,.int .i64 tiv,.float .f64 trl,.int .i64 tpl,.int .i64 tsz] 158)) w1.heap.size 158 [.int .i64 1,.string ttx,.int .i64 tiv,.float .f64 trl,.int .i64 tpl,.int .i64 tsz]):=hid (Bx.new w1 _ _);have HS2:=hid (HS.out.below hb2);have HE2:=hid (HE.out.trans (Eff.of_below hb2 HS.out.lt));generalize w1.alloc (.cells #[.int .i64 1,.string ttx,.int .i64 tiv,.float .f64 trl,.int .i64 tpl,.int .i64 tsz] 158)=W1 at HX HS2 HE2 ⊢;have x0:=HX.out.c 0 rfl;have x1:=HX.out.c 1 rfl;clear hb2 HS HE;go_wp2_with (first
     | (go_at_call 132;(with_reducible refine(HTY.out _).mono ?_);rintro e w3 ⟨rfl,rfl⟩)
     | (go_at_call 66;(with_reducible refine(HG.out _ HS2.out).mono ?_);rintro e w2 ⟨rfl,hb⟩;have HE3:=hid (HE2.out.trans (Eff.of_below hb HS2.out.lt));clear hb;unfold qb0))
    exact⟨rfl,.inr ⟨HB.out,rfl⟩,HE3.out⟩
   ·rw[decide_eq_true h5,if_pos rfl];have d5:((ty:Int)==5)=false:=beq_eq_false_iff_ne.2 (by omega);clear h5;go_enter Tryz.func106,Tryz.ntmps106;go_upto_region 2 with (go_at_call 104;(with_reducible refine HN.out.mono ?_);rintro e w1 ⟨rfl,hb⟩;have HPW:=Nat.lt_of_lt_of_le HH.out.lt hb.size;have HS:=hid (HH.out.below hb);have HE:=hid (Eff.of_below hb HH.out.lt);clear hb);have hb2:Below w1.heap.size w1 (w1.alloc (.cells #[.int .i64 1,.string ttx,.int .i64 tiv,.float .f64 trl,.int .i64 tpl,.int .i64 tsz] 158)):=(Below.refl _ _).alloc (Nat.le_refl _) _;have HX:Hid (Bx (w1.alloc (.cells #[.int .i64 1,.string ttx,.int .i64 tiv,.float .f64 trl,.int .i64 tpl,.int .i64 tsz] 158)) w1.heap.size 158 [.int .i64 1,.string ttx,.int .i64 tiv,.float .f64 trl,.int .i64 tpl,.int .i64 tsz]):=hid (Bx.new w1 _ _);have HS2:=hid (HS.out.below hb2);have HE2:=hid (HE.out.trans (Eff.of_below hb2 HS.out.lt));generalize w1.alloc (.cells #[.int .i64 1,.string ttx,.int .i64 tiv,.float .f64 trl,.int .i64 tpl,.int .i64 tsz] 158)=W1 at HX HS2 HE2 ⊢;have x0:=HX.out.c 0 rfl;have x1:=HX.out.c 1 rfl;clear hb2 HS HE;have HP:=hid HPW;have c2:=HS2.out.cells.2.2;have f2:=HS2.out.box.fz 2;have HK:=hid (HS2.out.next HT.out);have HE3:=hid (HE2.out.set 2 (.int .i64 ((s.k+1:Nat):Int)));have HX3:=hid (HX.out.other (show w1.heap.size≠p by have:=HP.out;omega) 2 (.int .i64 ((s.k+1:Nat):Int)));have hkb:=HT.out;have hlen:=HH.out.len;generalize s.k=k at c2 hkb HK HE3 HX3;go_upto_region 6 with ((go_at_call 132;(with_reducible refine(HTY.out _).mono ?_);rintro e w3 ⟨rfl,rfl⟩));rw[show (k:Int)+1=((k+1:Nat):Int) from rfl];generalize W1.setCell ⟨p,2,none⟩ (.int .i64 ((k+1:Nat):Int))=WM at HK HE3 HX3 ⊢;have y1:=HX3.out.c 1 rfl;go_wp2;go_ret;exact⟨.inl ⟨rfl,HK.out⟩,HE3.out⟩
  | false =>
   rw[Bool.false_and,if_neg (by decide)];have HB:Hid ((qcB L n s s.k 80).bad≠0):=hid (by rw[qe2 HH.out.ok];decide);have HG:=hid (fun W (hW:PSt W p cap n a L s)=>qe1 p cap n a L s 80 W hW);generalize qcB L n s s.k 80=R at HB HG ⊢;go_enter Tryz.func106,Tryz.ntmps106;go_upto_region 2 with (go_at_call 104;(with_reducible refine HN.out.mono ?_);rintro e w1 ⟨rfl,hb⟩;have HPW:=Nat.lt_of_lt_of_le HH.out.lt hb.size;have HS:=hid (HH.out.below hb);have HE:=hid (Eff.of_below hb HH.out.lt);clear hb);have hb2:Below w1.heap.size w1 (w1.alloc (.cells #[.int .i64 1,.string ttx,.int .i64 tiv,.float .f64 trl,.int .i64 tpl,.int .i64 tsz] 158)):=(Below.refl _ _).alloc (Nat.le_refl _) _;have HX:Hid (Bx (w1.alloc (.cells #[.int .i64 1,.string ttx,.int .i64 tiv,.float .f64 trl,.int .i64 tpl,.int .i64 tsz] 158)) w1.heap.size 158 [.int .i64 1,.string ttx,.int .i64 tiv,.float .f64 trl,.int .i64 tpl,.int .i64 tsz]):=hid (Bx.new w1 _ _);have HS2:=hid (HS.out.below hb2);have HE2:=hid (HE.out.trans (Eff.of_below hb2 HS.out.lt));generalize w1.alloc (.cells #[.int .i64 1,.string ttx,.int .i64 tiv,.float .f64 trl,.int .i64 tpl,.int .i64 tsz] 158)=W1 at HX HS2 HE2 ⊢;have x0:=HX.out.c 0 rfl;have x1:=HX.out.c 1 rfl;clear hb2 HS HE;go_wp2_with (first
    | (go_at_call 132;(with_reducible refine(HTY.out _).mono ?_);rintro e w3 ⟨rfl,rfl⟩)
    | (go_at_call 66;(with_reducible refine(HG.out _ HS2.out).mono ?_);rintro e w2 ⟨rfl,hb⟩;have HE3:=hid (HE2.out.trans (Eff.of_below hb HS2.out.lt));clear hb;unfold qb0))
   exact⟨rfl,.inr ⟨HB.out,rfl⟩,HE3.out⟩
 ·rw[decide_eq_false h1,Bool.false_and,if_neg (by decide)];have d1:(tk==1)=false:=beq_eq_false_iff_ne.2 h1;have d1':(tk != 1)=true:=by rw[bne,d1];rfl
  clear h1 HT;have HB:Hid ((qcB L n s s.k 80).bad≠0):=hid (by rw[qe2 HH.out.ok];decide);have HG:=hid (fun W (hW:PSt W p cap n a L s)=>qe1 p cap n a L s 80 W hW);generalize qcB L n s s.k 80=R at HB HG ⊢;go_enter Tryz.func106,Tryz.ntmps106;go_upto_region 2 with (go_at_call 104;(with_reducible refine HN.out.mono ?_);rintro e w1 ⟨rfl,hb⟩;have HPW:=Nat.lt_of_lt_of_le HH.out.lt hb.size;have HS:=hid (HH.out.below hb);have HE:=hid (Eff.of_below hb HH.out.lt);clear hb);have hb2:Below w1.heap.size w1 (w1.alloc (.cells #[.int .i64 tk,.string ttx,.int .i64 tiv,.float .f64 trl,.int .i64 tpl,.int .i64 tsz] 158)):=(Below.refl _ _).alloc (Nat.le_refl _) _;have HX:Hid (Bx (w1.alloc (.cells #[.int .i64 tk,.string ttx,.int .i64 tiv,.float .f64 trl,.int .i64 tpl,.int .i64 tsz] 158)) w1.heap.size 158 [.int .i64 tk,.string ttx,.int .i64 tiv,.float .f64 trl,.int .i64 tpl,.int .i64 tsz]):=hid (Bx.new w1 _ _);have HS2:=hid (HS.out.below hb2);have HE2:=hid (HE.out.trans (Eff.of_below hb2 HS.out.lt));generalize w1.alloc (.cells #[.int .i64 tk,.string ttx,.int .i64 tiv,.float .f64 trl,.int .i64 tpl,.int .i64 tsz] 158)=W1 at HX HS2 HE2 ⊢;have x0:=HX.out.c 0 rfl;have x1:=HX.out.c 1 rfl;clear hb2 HS HE;go_wp2_with (first
   | (go_at_call 132;(with_reducible refine(HTY.out _).mono ?_);rintro e w3 ⟨rfl,rfl⟩)
   | (go_at_call 66;(with_reducible refine(HG.out _ HS2.out).mono ?_);rintro e w2 ⟨rfl,hb⟩;have HE3:=hid (HE2.out.trans (Eff.of_below hb HS2.out.lt));clear hb;unfold qb0))
  exact⟨rfl,.inr ⟨HB.out,rfl⟩,HE3.out⟩
theorem q0F (p cap n:Nat) (a:Option Addr) (L:List TokE) (s:S8) (w:World) (h:PSt w p cap n a L s) :
  Calls Tryz.prog 108 #[.pointer (some ⟨p,0,none⟩)] w (Go8 p cap n a L (qhQ L n s).1 (fun e _=>e=.returned (.string (qhQ L n s).2)) w):=by
 have HH:=hid h;unfold Go8 qhQ;cases hi:isB L s ⟨#[95]⟩ with
 | true =>
  rw[if_pos rfl];have HI:=hid hi;clear h hi;go_enter Tryz.func108,Tryz.ntmps108;go_wp2_with (go_at_call 67;(with_reducible refine(qbS HH.out HI.out).mono ?_);rintro e w1 ⟨rfl,hs⟩;have HS:=hid hs;clear hs);go_ret;exact⟨.inl ⟨rfl,HS.out.1⟩,HS.out.2⟩
 | false =>
  rw[if_neg (by decide)];have HI:=hid hi;have HWD:=hid (fun W hW=>qd9 p cap n a L s W hW);generalize qaV L n s=R at HWD ⊢;clear h hi;go_enter Tryz.func108,Tryz.ntmps108;go_wp2_with (first
   | (go_at_call 67;(with_reducible refine(qbD HH.out HI.out).mono ?_);rintro e w1 ⟨rfl,hs⟩;have HS:=hid hs;clear hs)
   | (go_at_call 73;(with_reducible refine(HWD.out w1 HS.out.1).mono ?_);rintro e w2 ⟨hg,he⟩;have HE:=hid (HS.out.2.trans he);clear he;rcases hg with ⟨rfl,hg⟩|⟨hg,rfl⟩ <;> (have HG:=hid hg;clear hg;try unfold qb0)))
  ·go_ret;exact⟨.inl ⟨rfl,HG.out⟩,HE.out⟩
  ·exact⟨rfl,.inr ⟨HG.out,rfl⟩,HE.out⟩
end Go.Proofs.YtenlhcgpajphhaaGreatDoor
