import Derived.Test.YtkpboalccpancaaGreatDoorDrChord
import Derived.Test.YtkpboalccpancaaGreatDoorMExNamed
import Derived.Test.YtkpboalccpancaaGreatDoorMErRead
import Derived.Deep.QuietTactic
import Derived.BigQuiet
namespace Go.Proofs.YtkpboalccpancaaGreatDoor
open Go.RowKit Go.Shelf
open Lib(hid)
set_option maxRecDepth 100000
set_option linter.all false
set_option maxHeartbeats 2000000
def BegunD (l:List UInt8) (n:Nat) (w:World) (e:Ending) (w':World):Prop :=
 Below w.heap.size w w' ∧
 (((allR l).2.2≠0∧e=.returned (.tuple #[.pointer none,.int .i64 (allR l).2.1,.int .i64 (allR l).2.2])) ∨
  ((allR l).2.2=0∧∃ p cap a,e=.returned (.tuple #[.pointer (some ⟨p,0,none⟩),.int .i64 0,.int .i64 0])∧w.heap.size≤p∧DSt w' p cap n a (toksL l) ⟨0,0,0⟩))
theorem begun8_any (a:Option Addr) (n cap:Nat) (l:List UInt8) (w:World) (hT:Txt w a n cap l) (hn:n≤140737488351232) :
  Calls Tryz.prog 25 #[.slice a n cap] w (BegunD l n w):=by
 have HS:=hid (refScan_any a n cap l w hT hn);clear hT;unfold RScan at HS;unfold BegunD;by_cases hE:(allR l).2.2=0
 ·have HE:=hid hE;have HLN:=hid (toksL_few l);have HRL:=hid (toksL_real l);have HSL:=hid (toksL_size l);rw[hE] at HS;clear hE;go_enter Tryz.func25,Tryz.ntmps25;go_upto_region 4 with (go_at_call 21;(with_reducible refine HS.out.mono ?_);rintro e w1 ⟨hb1,v,rfl,ho⟩;obtain⟨av,vc,rfl,htoks,hblk⟩:=toks_own rfl ho;have HB1:=hid hb1;have HTK:=hid htoks;have HBK:=hid hblk;clear hb1 ho htoks hblk);generalize hL:toksL l=L at *
  go_wp2;obtain⟨W3,hW3⟩:∃ W3,W3=w1.alloc (.cells #[.slice av L.length vc,.int .i64 0,.int .i64 n,.int .i64 0,.int .i64 0] 68):=⟨_,rfl⟩
  rw[← hW3];have hb3:Below w1.heap.size w1 W3:=by rw[hW3];exact(Below.refl _ w1).alloc (Nat.le_refl _) _
  have hst:DSt W3 w1.heap.size vc n av L ⟨0,0,0⟩:=⟨by rw[hW3];exact heap_alloc_new _ _,rtoks_blk HTK.out (fun x hx k=>hb3.block _ (HBK.out x hx k).2),fun x hx k=>(HBK.out x hx k).2,by have:=HLN.out;omega,Nat.zero_le _,HSL.out,HRL.out⟩
  go_ret3
  exact⟨HB1.out.trans (hb3.mono HB1.out.size),.inr ⟨HE.out,_,_,_,rfl,HB1.out.size,by rw[hL];exact hst⟩⟩
 ·have HE:=hid hE;have df:(((allR l).2.2:Int)==0)=false:=beq_eq_false_iff_ne.2 (by omega);have df':(((allR l).2.2:Int) != 0)=true:=by rw[bne,df];rfl
  generalize (allR l).2.1=P at HS ⊢;generalize (allR l).2.2=E at HS HE df df' ⊢;clear hE;go_enter Tryz.func25,Tryz.ntmps25;go_wp2_with (go_at_call 21;(with_reducible refine HS.out.mono ?_);rintro e w1 ⟨hb1,v,rfl,ho⟩;have HB1:=hid hb1;clear hb1 ho)
  go_ret3
  exact⟨HB1.out,.inl ⟨HE.out,rfl⟩⟩
set_option maxHeartbeats 16000000
def zChord:ChordE:=⟨eB,[],none,[]⟩
def endS (L:List TokE) (n:Nat) (s:S8):S8:=if s.bad=0∧s.k<L.length then failS L n s s.k 80 else s
noncomputable def chordT (l:List UInt8) (n:Nat):ChordE × Int × Int :=
 if (allR l).2.2≠0 then (zChord,(((allR l).2.1:Nat):Int),(((allR l).2.2:Nat):Int))
 else if (endS (toksL l) n (chordS (toksL l) n ⟨0,0,0⟩).1).bad=0 then ((chordS (toksL l) n ⟨0,0,0⟩).2,0,0)
 else (zChord,(endS (toksL l) n (chordS (toksL l) n ⟨0,0,0⟩).1).pl,(endS (toksL l) n (chordS (toksL l) n ⟨0,0,0⟩).1).bad)
theorem zch_it (lo:Nat) (w:World):Itm chordE lo w [.string ⟨#[]⟩,.slice none 0 0,.slice none 0 0,.slice none 0 0] zChord :=
 ⟨[],⟨_,_,_,[],[],[],[],[],rfl,rfl,ListV.nil _ _ _ _,⟨_,rfl,rfl,World.ownsRow_nil _ _ _ _⟩,ListV.nil _ _ _ _⟩,Good.nil _ _⟩
theorem chord_form {lo:Nat} {w:World} {t:ByteArray} {pv gv bv:Value} {x:ChordE} (h:Itm chordE lo w [.string t,pv,gv,bv] x):(∃ ad m c,pv=.slice ad m c)∧(∃ ad m c,gv=.slice ad m c)∧∃ ad m c,bv=.slice ad m c:=by
 obtain⟨F,⟨pv',gv',bv',dp,db,F1,F2,F3,hc,_,h1,⟨v,hv,_,hr⟩,h3⟩,_⟩:=h;cases hc;cases hv;refine⟨?_,?_,?_⟩
 ·rcases h1.row.2 with ⟨rfl,_⟩|⟨g,cap,cur,rfl,_⟩
  ·exact⟨_,_,_,rfl⟩
  ·exact⟨_,_,_,rfl⟩
 ·rcases hr.2 with ⟨rfl,_⟩|⟨g,cap,cur,rfl,_⟩
  ·exact⟨_,_,_,rfl⟩
  ·exact⟨_,_,_,rfl⟩
 ·rcases h3.row.2 with ⟨rfl,_⟩|⟨g,cap,cur,rfl,_⟩
  ·exact⟨_,_,_,rfl⟩
  ·exact⟨_,_,_,rfl⟩
def ParseCP (R:ChordE × Int × Int) (w:World) (e:Ending) (w':World):Prop :=
 ∃ pv gv bv,e=.returned (.tuple #[.agg #[.string R.1.nm,pv,gv,bv],.int .i64 R.2.1,.int .i64 R.2.2])∧Itm chordE w.heap.size w' [.string R.1.nm,pv,gv,bv] R.1∧Below w.heap.size w w'
theorem parseCRes {fn:Func} {p q r:Tmp} {tmps:Array Value} {W:World} {g:Nat} {c0 c1 c2 c3:Value} {x y:Int} (hf:fn.results=#[.cell p 44,.tmp q,.tmp r]) (hp:tmps.getD p undef=.pointer (some ⟨g,0,none⟩))
  (h2:tmps.getD q undef=.int .i64 x) (h3:tmps.getD r undef=.int .i64 y) (h:Bx W g 44 [c0,c1,c2,c3]) :
  (results fn tmps).run Tryz.prog W=.ok (.tuple #[.agg #[c0,c1,c2,c3],.int .i64 x,.int .i64 y]) W:=by
 have hl:=run_loadVar_row (P:=Tryz.prog) W g 44 44 [c0,c1,c2,c3].toArray (0,0) _ h Tryz.underlying44 rfl (by kernel_rfl);have hp':tmps[p]?.getD undef=.pointer (some ⟨g,0,none⟩):=by simpa using hp
 have h2':tmps[q]?.getD undef=.int .i64 x:=by simpa using h2
 have h3':tmps[r]?.getD undef=.int .i64 y:=by simpa using h3
 simp only[results,hf];simp[hp',h2',h3',asAddr,hl,Sem.run_bind,Result.andThen]
theorem parseC8_any (a:Option Addr) (n cap:Nat) (l:List UInt8) (w:World) (hT:Txt w a n cap l) (hn:n≤140737488351232) :
  Calls Tryz.prog 15 #[.slice a n cap] w (ParseCP (chordT l n) w):=by
 obtain⟨W0,hW0,hx0,hb0⟩:∃ W0,W0=w.alloc (.cells #[.string ⟨#[]⟩,.slice none 0 0,.slice none 0 0,.slice none 0 0] 44)∧Bx W0 w.heap.size 44 zCh∧Below w.heap.size w W0:=⟨_,rfl,Bx.new w 44 zCh,(Below.refl _ w).alloc (Nat.le_refl _) _⟩
 have hz:W0.heap.size=w.heap.size+1:=by rw[hW0];simp
 have HBG:=hid (begun8_any a n cap l W0 (hT.below hb0 (Nat.le_refl _)) hn);have HW0:=hid hW0;have HX0:=hid hx0;have HB0:=hid hb0;unfold ParseCP;obtain⟨R,hR⟩:∃ R,R=chordT l n:=⟨_,rfl⟩
 rw[← hR];unfold BegunD at HBG;clear hT hW0 hx0 hb0;by_cases hE:(allR l).2.2=0
 ·have hq:R=(if (endS (toksL l) n (chordS (toksL l) n ⟨0,0,0⟩).1).bad=0 then ((chordS (toksL l) n ⟨0,0,0⟩).2,0,0) else (zChord,(endS (toksL l) n (chordS (toksL l) n ⟨0,0,0⟩).1).pl,(endS (toksL l) n (chordS (toksL l) n ⟨0,0,0⟩).1).bad)):=by
   rw[hR];unfold chordT;rw[if_neg (by omega)]
  have HE:=hid hE;generalize toksL l=L at HBG hq;have HQ:=hid hq;clear hR hq hE;go_enter Tryz.func15,Tryz.ntmps15;go_upto_region 1 with (fail);rw[← HW0.out];go_upto_region 4 with (go_at_call 25;(with_reducible refine HBG.out.mono ?_);rintro e w1 ⟨hb1,hc⟩;rcases hc with ⟨h0,_⟩|⟨_,p,cap2,av,rfl,hp,hst⟩;(exact absurd HE.out h0);have HX1:=hid (HX0.out.keep hb1 (by omega));have HB1:=hid (HB0.out.trans (hb1.mono (by omega)));have HST:=hid hst;have HPW:=hid hp;clear hb1 hst hp);have HCH:=hid (chord8_any p cap2 n av L ⟨0,0,0⟩ w1 HST.out);unfold ChordP at HCH;generalize chordS L n ⟨0,0,0⟩=ch at HCH HQ;obtain⟨s2,x⟩:=ch;have hpw:w.heap.size<p:=by have:=HPW.out;omega
  have hXp:w.heap.size≠p:=by omega
  clear HBG HPW;go_upto_region 5 with (go_at_call 30;(with_reducible refine HCH.out.mono ?_);rintro e w2 ⟨pv,gv,bv,rfl,hit,hs⟩;obtain⟨⟨a1,m1,c1,rfl⟩,⟨a2,m2,c2,rfl⟩,⟨a3,m3,c5,rfl⟩⟩:=chord_form hit;have HIT:=hid hit;have HS2:=hid hs.1;have HX2:=hid (HX1.out.oth hs.2.2 hXp);have HB2:=hid (HB1.out.trans (hs.2.1.mono (by omega)));have HSZ:=hid hs.2.size;clear hit hs);obtain⟨W3,hW3⟩:∃ W3,W3=w2.alloc (.cells #[.string x.nm,.slice a1 m1 c1,.slice a2 m2 c2,.slice a3 m3 c5] 44):=⟨_,rfl⟩
  have hb3:Below w2.heap.size w2 W3:=by rw[hW3];exact(Below.refl _ w2).alloc (Nat.le_refl _) _
  have HC3:=hid (show Bx W3 w2.heap.size 44 [.string x.nm,.slice a1 m1 c1,.slice a2 m2 c2,.slice a3 m3 c5] by rw[hW3];exact Bx.new w2 _ _);have HS3:=hid (HS2.out.below hb3);have HX3:=hid (HX2.out.keep hb3 HX2.out.lt);have hw12:w.heap.size<w1.heap.size:=HX1.out.lt;have HI3:=hid ((HIT.out.wide (Nat.le_of_lt (show w.heap.size<w1.heap.size from hw12))).same chordK (fun b _ hb2=>hb3.block b hb2) hb3.size);have HI4:=hid (HIT.out.same chordK (fun b _ hb2=>hb3.block b hb2) hb3.size);have HB3:=hid (HB2.out.trans (hb3.mono (by have:=HSZ.out;omega)));rw[← hW3];have hXw:w.heap.size<w2.heap.size:=HX2.out.lt;generalize w2.heap.size=X at HC3 hXw ⊢;clear hW3 hb3 HS2 HX2 HB2 HIT HSZ HX1 HB1 HST HCH HI3;have c0:=HS3.out.cells.1;have c1':=HS3.out.cells.2.1;have c3':=HS3.out.cells.2.2.2.1;have hlen:=HS3.out.len;by_cases hb:s2.bad=0
  ·rw[hb] at c3';by_cases hk:s2.k<L.length
   ·have hes:endS L n s2=failS L n s2 s2.k 80:=by unfold endS;rw[if_pos ⟨hb,hk⟩]
    rw[hes] at HQ;have hfb:(failS L n s2 s2.k 80).bad=80:=by unfold failS;rw[if_pos hb]
    have HF:=hid (fun W (hW:DSt W p cap2 n av L s2)=>fail8_any p cap2 n av L s2 s2.k 80 (by omega) W hW);generalize failS L n s2 s2.k 80=s3 at HQ hfb HF;have HQ3:Hid (R=(zChord,s3.pl,s3.bad)):=hid (by rw[HQ.out,if_neg (by rw[hfb];decide)]);have dB:(s3.bad==0)=false:=by rw[hfb];rfl
    have dB':(s3.bad != 0)=true:=by rw[hfb];rfl
    have d1:decide ((s2.k:Int)<(L.length:Int))=true:=decide_eq_true (by omega);have d1n:decide (s2.k<L.length)=true:=decide_eq_true hk;generalize hN:L.length=N at c0 d1 d1n hk hlen;clear hes hfb HQ hb hN;go_quiet (fail);have HS4:=hid (HS3.out.below (drewN_below8 W3 nq));have HX4:=hid (HX3.out.keep (drewN_below8 W3 nq) HX3.out.lt);have HB4:=hid (HB3.out.trans ((drewN_below8 W3 nq).mono (Nat.le_of_lt HX3.out.lt)));generalize W3.drewN nq=w4 at HS4 HX4 HB4 ⊢;have q1:=HS4.out.cells.2.1;clear c0 c1' c3' d1 d1n hk hlen;go_upto_region 7 with (go_at_call 36;(with_reducible refine(HF.out _ HS4.out).mono ?_);rintro e wq ⟨rfl,h1,h2⟩;have HSQ:=hid h1;have HXQ:=hid (HX4.out.oth h2.2 hXp);have HBQ:=hid (HB4.out.trans (h2.1.mono (by omega)));clear h1 h2);have c3:=HSQ.out.cells.2.2.2.1;have c4:=HSQ.out.cells.2.2.2.2;have r0:=HXQ.out.c 0 rfl;have r1:=HXQ.out.c 1 rfl;have r2:=HXQ.out.c 2 rfl;have r3:=HXQ.out.c 3 rfl;have z0:=HXQ.out.fz 0;have z1:=HXQ.out.fz 1;have z2:=HXQ.out.fz 2;have z3:=HXQ.out.fz 3;generalize s3.bad=bd at c3 dB dB' HQ3;generalize s3.pl=pl at c4 HQ3;go_upto_region 8 with (fail)
    go_region_held3 (fun W'=>W'.cell? ⟨p,4,none⟩=some (.int .i64 pl)∧W'.cell? ⟨p,3,none⟩=some (.int .i64 bd))
     (first|(refine⟨?_,?_⟩ <;> assumption)|(refine⟨?_,?_⟩ <;> (repeat (refine cell_set_far hXp ?_)) <;> assumption)|go_keep)
     (first|(fail))
    all_goals go_wp2
    all_goals refine bodyPost_ret (parseCRes rfl rfl rfl rfl (bx_set4 (show Bx wq.drew w.heap.size 44 zCh from HXQ.out))) rfl ?_
    all_goals rw[HQ3.out]
    all_goals exact⟨_,_,_,rfl,zch_it _ _,((((HBQ.out.drew).setCell (Nat.le_refl _) _).setCell (Nat.le_refl _) _).setCell (Nat.le_refl _) _).setCell (Nat.le_refl _) _⟩
   ·have hes:endS L n s2=s2:=by unfold endS;rw[if_neg (fun h=>hk h.2)]
    rw[hes] at HQ;have HQ3:Hid (R=(x,0,0)):=hid (by rw[HQ.out,if_pos hb]);have HBD:=hid hb;have d1:decide ((s2.k:Int)<(L.length:Int))=false:=decide_eq_false (by omega);have d1n:decide (s2.k<L.length)=false:=decide_eq_false hk;generalize hN:L.length=N at c0 d1 d1n hk hlen;clear hes HQ hb hN;go_quiet (fail);have HS4:=hid (HS3.out.below (drewN_below8 W3 nq));have HX4:=hid (HX3.out.keep (drewN_below8 W3 nq) HX3.out.lt);have HC4:=hid (HC3.out.keep (drewN_below8 W3 nq) HC3.out.lt);have HI5:=hid (HI4.out.same (w':=W3.drewN nq) chordK (fun b _ hb2=>(drewN_below8 W3 nq).block b hb2) (drewN_below8 W3 nq).size);have HB4:=hid (HB3.out.trans ((drewN_below8 W3 nq).mono (Nat.le_of_lt HX3.out.lt)));generalize W3.drewN nq=wq at HS4 HX4 HB4 HC4 HI5 ⊢;have c3:=HS4.out.cells.2.2.2.1;rw[HBD.out] at c3;have x0:=HC4.out.c 0 rfl;have x1:=HC4.out.c 1 rfl;have x2:=HC4.out.c 2 rfl;have x3:=HC4.out.c 3 rfl;have r0:=HX4.out.c 0 rfl;have r1:=HX4.out.c 1 rfl;have r2:=HX4.out.c 2 rfl;have r3:=HX4.out.c 3 rfl;have z0:=HX4.out.fz 0;have z1:=HX4.out.fz 1;have z2:=HX4.out.fz 2;have z3:=HX4.out.fz 3;clear c0 c1' c3' d1 d1n hk hlen HS3 HX3 HC3 HI4 HB3;go_wp2;refine bodyPost_ret (parseCRes rfl rfl rfl rfl (bx_set4 HX4.out)) rfl ?_;rw[HQ3.out];refine⟨_,_,_,rfl,?_,(((HB4.out.setCell (Nat.le_refl _) _).setCell (Nat.le_refl _) _).setCell (Nat.le_refl _) _).setCell (Nat.le_refl _) _⟩;have hq:∀ b,b≠w.heap.size→((((wq.setCell ⟨w.heap.size,0,none⟩ (.string x.nm)).setCell ⟨w.heap.size,1,none⟩ (.slice a1 m1 c1)).setCell ⟨w.heap.size,2,none⟩ (.slice a2 m2 c2)).setCell ⟨w.heap.size,3,none⟩ (.slice a3 m3 c5)).heap[b]?=wq.heap[b]?:=fun b hne =>
     (Below.heap_setCell _ _ _ _ hne).trans ((Below.heap_setCell _ _ _ _ hne).trans ((Below.heap_setCell _ _ _ _ hne).trans (Below.heap_setCell _ _ _ _ hne)))
    exact(HI5.out.same chordK (fun b hb1 _=>hq b (by omega)) (by simp)).wide (Nat.le_of_lt hw12)
  ·have hes:endS L n s2=s2:=by unfold endS;rw[if_neg (fun h=>hb h.1)]
   rw[hes] at HQ;have HQ3:Hid (R=(zChord,s2.pl,s2.bad)):=hid (by rw[HQ.out,if_neg hb]);have dB:(s2.bad==0)=false:=beq_eq_false_iff_ne.2 hb;have dB':(s2.bad != 0)=true:=by rw[bne,dB];rfl
   generalize hN:L.length=N at c0 hlen;have dBh:=hid (And.intro dB dB');generalize hbd:s2.bad=bd0 at c3' dB dB';clear hes HQ hb hN hbd;go_quiet (fail);clear dB dB';obtain⟨dB,dB'⟩:=dBh.out;have HSQ:=hid (HS3.out.below (drewN_below8 W3 nq));have HXQ:=hid (HX3.out.keep (drewN_below8 W3 nq) HX3.out.lt);have HBQ:=hid (HB3.out.trans ((drewN_below8 W3 nq).mono (Nat.le_of_lt HX3.out.lt)));generalize W3.drewN nq=wq at HSQ HXQ HBQ ⊢;clear c0 c1' c3' hlen;have c3:=HSQ.out.cells.2.2.2.1;have c4:=HSQ.out.cells.2.2.2.2;have r0:=HXQ.out.c 0 rfl;have r1:=HXQ.out.c 1 rfl;have r2:=HXQ.out.c 2 rfl;have r3:=HXQ.out.c 3 rfl;have z0:=HXQ.out.fz 0;have z1:=HXQ.out.fz 1;have z2:=HXQ.out.fz 2;have z3:=HXQ.out.fz 3;generalize s2.bad=bd at c3 dB dB' HQ3;generalize s2.pl=pl at c4 HQ3;go_upto_region 8 with (fail)
   go_region_held3 (fun W'=>W'.cell? ⟨p,4,none⟩=some (.int .i64 pl)∧W'.cell? ⟨p,3,none⟩=some (.int .i64 bd))
    (first|(refine⟨?_,?_⟩ <;> assumption)|(refine⟨?_,?_⟩ <;> (repeat (refine cell_set_far hXp ?_)) <;> assumption)|go_keep)
    (first|(fail))
   all_goals go_wp2
   all_goals refine bodyPost_ret (parseCRes rfl rfl rfl rfl (bx_set4 (show Bx wq.drew w.heap.size 44 zCh from HXQ.out))) rfl ?_
   all_goals rw[HQ3.out]
   all_goals exact⟨_,_,_,rfl,zch_it _ _,((((HBQ.out.drew).setCell (Nat.le_refl _) _).setCell (Nat.le_refl _) _).setCell (Nat.le_refl _) _).setCell (Nat.le_refl _) _⟩
 ·have HQ:Hid (R=(zChord,(((allR l).2.1:Nat):Int),(((allR l).2.2:Nat):Int))):=hid (by rw[hR];unfold chordT;rw[if_pos hE]);have HE:=hid hE;have df:(((allR l).2.2:Int)==0)=false:=beq_eq_false_iff_ne.2 (by omega);have df':(((allR l).2.2:Int) != 0)=true:=by rw[bne,df];rfl
  generalize (allR l).2.1=P at HBG HQ;generalize (allR l).2.2=E at HBG HE HQ df df';clear hE hR;go_enter Tryz.func15,Tryz.ntmps15;go_upto_region 1 with (fail);rw[← HW0.out];go_wp2_with (go_at_call 25;(with_reducible refine HBG.out.mono ?_);rintro e w1 ⟨hb1,hc⟩;rcases hc with ⟨_,rfl⟩|⟨h0,_⟩;rotate_left;(exact absurd h0 HE.out);have HX1:=hid (HX0.out.keep hb1 (by omega));have HB1:=hid (HB0.out.trans (hb1.mono (by omega)));clear hb1;have r0:=HX1.out.c 0 rfl;have r1:=HX1.out.c 1 rfl;have r2:=HX1.out.c 2 rfl;have r3:=HX1.out.c 3 rfl;have z0:=HX1.out.fz 0;have z1:=HX1.out.fz 1;have z2:=HX1.out.fz 2;have z3:=HX1.out.fz 3);refine bodyPost_ret (parseCRes rfl rfl rfl rfl (bx_set4 HX1.out)) rfl ?_;rw[HQ.out];exact⟨_,_,_,rfl,zch_it _ _,(((HB1.out.setCell (Nat.le_refl _) _).setCell (Nat.le_refl _) _).setCell (Nat.le_refl _) _).setCell (Nat.le_refl _) _⟩
end Go.Proofs.YtkpboalccpancaaGreatDoor
