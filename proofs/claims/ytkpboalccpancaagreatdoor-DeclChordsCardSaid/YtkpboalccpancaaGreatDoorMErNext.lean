import Derived.Test.YtkpboalccpancaaGreatDoorMExNamed
import Derived.Test.YtkpboalccpancaaGreatDoorMEbPlace
import Derived.Test.YtkpboalccpancaaGreatDoorMEbSmall
import Derived.Deep.LoopGhost
namespace Go.Proofs.YtkpboalccpancaaGreatDoor
open Go.RowKit Go.Shelf
open Lib(hid)
set_option maxRecDepth 100000
set_option linter.all false
set_option maxHeartbeats 2000000
def tokV (t:TokE):Value:=.agg #[.int .i64 t.kd,.string t.tx,.int .i64 t.iv,.float .f64 t.rl,.int .i64 t.pl,.int .i64 t.sz]
def standsB (t:TokE):Bool:=match clT t with|.no=>false|_=>true
theorem stands_5 {t:TokE} (h:t.kd=5):standsB t=true:=by unfold standsB clT;rw[if_pos h]
theorem stands_2 {t:TokE} (h:t.kd=2):standsB t=decide (0≤t.iv):=by
 unfold standsB clT;rw[if_neg (by omega),if_pos h];by_cases h2:0≤t.iv
 ·rw[if_pos h2,decide_eq_true h2]
 ·rw[if_neg h2,decide_eq_false h2]
theorem stands_3 {t:TokE} (h:t.kd=3):standsB t=decide (t.rl<9218868437227405312):=by
 unfold standsB clT;rw[if_neg (by omega),if_neg (by omega),if_pos h];by_cases h2:t.rl<9218868437227405312
 ·rw[if_pos h2,decide_eq_true h2]
 ·rw[if_neg h2,decide_eq_false h2]
theorem stands_4 {t:TokE} (h:t.kd=4):standsB t=decide (t.tx.size≤256):=by
 unfold standsB clT;rw[if_neg (by omega),if_neg (by omega),if_neg (by omega),if_pos h];by_cases h2:t.tx.size≤256
 ·rw[if_pos h2,decide_eq_true h2]
 ·rw[if_neg h2,decide_eq_false h2]
theorem stands_1 {t:TokE} (h:t.kd=1):standsB t=nameB t.tx.data.toList:=by
 unfold standsB clT;rw[if_neg (by omega),if_neg (by omega),if_neg (by omega),if_neg (by omega),if_pos h];cases h2:nameB t.tx.data.toList with
 | false=>rw[if_neg (by decide)]
 | true =>
  rw[if_pos rfl];by_cases e1:t.tx.data.toList=[116,114,117,101]
  ·rw[if_pos e1]
  rw[if_neg e1];by_cases e2:t.tx.data.toList=[102,97,108,115,101]
  ·rw[if_pos e2]
  rw[if_neg e2];by_cases e3:wordK t.tx.data.toList=0
  ·rw[if_pos e3]
  ·rw[if_neg e3]
theorem stands_0 {t:TokE} (h1:t.kd≠1) (h2:t.kd≠2) (h3:t.kd≠3) (h4:t.kd≠4) (h5:t.kd≠5):standsB t=false:=by
 unfold standsB clT;rw[if_neg h5,if_neg h2,if_neg h3,if_neg h4,if_neg h1]
theorem stands_any (t:TokE) (hs:t.tx.size≤140737488351232) (hr:t.rl<18446744073709551616) (w:World):Calls Tryz.prog 144 #[tokV t] w fun e w'=>e=.returned (.bool (standsB t))∧Below w.heap.size w w':=by
 have sf:=store_float;have HN:=fun W=>hid (named_any t.tx hs W);have HF:=fun W=>hid (finite_any t.rl hr W);unfold tokV;have HB0:∀ (v0:Value) T,Hid (Below w.heap.size w (w.alloc (.cells #[v0,.string t.tx,.int .i64 t.iv,.float .f64 t.rl,.int .i64 t.pl,.int .i64 t.sz] T))):=fun v0 T=>hid ((Below.refl _ w).alloc (Nat.le_refl _) _);have hle:∀ (v0:Value) T,w.heap.size≤(w.alloc (.cells #[v0,.string t.tx,.int .i64 t.iv,.float .f64 t.rl,.int .i64 t.pl,.int .i64 t.sz] T)).heap.size:=fun v0 T=>(HB0 v0 T).out.size;by_cases h1:t.kd=1
 ·rw[stands_1 h1,h1];generalize nameB t.tx.data.toList=nb at HN ⊢;clear h1;go_enter Tryz.func144,Tryz.ntmps144;go_wp2_with (go_at_call 161;refine(HN _).out.mono ?_;rintro e w1 ⟨rfl,hb⟩;have HB1:=hid ((HB0 _ _).out.trans (hb.mono (hle _ _)));clear hb);go_ret;exact⟨rfl,HB1.out⟩
 by_cases h2:t.kd=2
 ·rw[stands_2 h2,h2];clear h1 h2 HN HF;go_enter Tryz.func144,Tryz.ntmps144;go_wp2_with fail;go_ret;exact⟨rfl,(HB0 _ _).out⟩
 by_cases h3:t.kd=3
 ·rw[stands_3 h3,h3];generalize decide (t.rl<9218868437227405312)=d at HF ⊢;clear h1 h2 h3 HN;go_enter Tryz.func144,Tryz.ntmps144;go_wp2_with (go_at_call 162;refine(HF _).out.mono ?_;rintro e w1 ⟨rfl,hb⟩;have HB1:=hid ((HB0 _ _).out.trans (hb.mono (hle _ _)));clear hb);go_ret;exact⟨rfl,HB1.out⟩
 by_cases h4:t.kd=4
 ·rw[stands_4 h4,h4];have hd:decide (t.tx.size≤256)=decide ((t.tx.size:Int)≤256):=by by_cases h:t.tx.size≤256 <;> simp[h] <;> omega
  rw[hd];clear h1 h2 h3 h4 HN HF hd;go_enter Tryz.func144,Tryz.ntmps144;go_wp2_with fail;go_ret;exact⟨rfl,(HB0 _ _).out⟩
 have d1:(t.kd==1)=false:=beq_eq_false_iff_ne.2 h1;have d2:(t.kd==2)=false:=beq_eq_false_iff_ne.2 h2;have d3:(t.kd==3)=false:=beq_eq_false_iff_ne.2 h3;have d4:(t.kd==4)=false:=beq_eq_false_iff_ne.2 h4;by_cases h5:t.kd=5
 ·rw[stands_5 h5,h5];rw[h5] at d1 d2 d3 d4;clear h1 h2 h3 h4 h5 HN HF;go_enter Tryz.func144,Tryz.ntmps144;go_wp2_with fail;go_ret;exact⟨rfl,(HB0 _ _).out⟩
 ·rw[stands_0 h1 h2 h3 h4 h5];have d5:(t.kd==5)=false:=beq_eq_false_iff_ne.2 h5;clear h1 h2 h3 h4 h5 HN HF;generalize t.kd=kd at *
  go_enter Tryz.func144,Tryz.ntmps144;go_wp2_with fail;go_ret;exact⟨rfl,(HB0 _ _).out⟩
theorem gL_stands {L:List TokE} {k:Nat} (h:k<L.length):standsB (L.getD k default)=false ↔ gL L k=.no:=by
 unfold gL standsB;rw[if_pos h];cases clT (L.getD k default) <;> simp
def zTok:List Value:=[.int .i64 0,.string ⟨#[]⟩,.int .i64 0,.float .f64 0,.int .i64 0,.int .i64 0]
def tkC (t:TokE):List Value:=[.int .i64 t.kd,.string t.tx,.int .i64 t.iv,.float .f64 t.rl,.int .i64 t.pl,.int .i64 t.sz]
theorem tokRes {fn:Func} {p u:Tmp} {tmps:Array Value} {W:World} {g:Nat} {cs:List Value} (hf:fn.results=#[.cell p 59,.tmp u]) (hp:tmps.getD p undef=.pointer (some ⟨g,0,none⟩)) (h:Bx W g 59 cs) (h6:cs.length=6) :
  (results fn tmps).run Tryz.prog W=.ok (.tuple #[.agg cs.toArray,tmps.getD u undef]) W:=by
 have hl:=run_loadVar_row (P:=Tryz.prog) W g 59 59 cs.toArray (0,0) _ h Tryz.underlying59 rfl (by simp only[List.size_toArray,h6];kernel_rfl);have hp':tmps[p]?.getD undef=.pointer (some ⟨g,0,none⟩):=by simpa using hp
 rw[results_cell_tmp hf];simp[hp',asAddr,hl]
theorem bx_set6 {W:World} {g:Nat} {T:TypeId} {v0 v1 v2 v3 v4 v5 a b c d e f:Value} (h:Bx W g T [v0,v1,v2,v3,v4,v5]) :
  Bx ((((((W.setCell ⟨g,0,none⟩ a).setCell ⟨g,1,none⟩ b).setCell ⟨g,2,none⟩ c).setCell ⟨g,3,none⟩ d).setCell ⟨g,4,none⟩ e).setCell ⟨g,5,none⟩ f) g T [a,b,c,d,e,f] :=
 (((((h.set 0 a).set 1 b).set 2 c).set 3 d).set 4 e).set 5 f
theorem bx_drew {W:World} {g:Nat} {T:TypeId} {cs:List Value} (h:Bx W g T cs):Bx W.drew g T cs:=h
theorem below_set6 {w W:World} {g B:Nat} {a b c d e f:Value} (h:Below B w W) (hg:B≤g):Below B w ((((((W.setCell ⟨g,0,none⟩ a).setCell ⟨g,1,none⟩ b).setCell ⟨g,2,none⟩ c).setCell ⟨g,3,none⟩ d).setCell ⟨g,4,none⟩ e).setCell ⟨g,5,none⟩ f) :=
 (((((h.setCell hg _).setCell hg _).setCell hg _).setCell hg _).setCell hg _).setCell hg _
def NextD (L:List TokE) (k:Nat) (w:World) (e:Ending) (w':World):Prop :=
 ((gL L k=.no∧e=.returned (.tuple #[.agg zTok.toArray,.bool false]))∨(gL L k≠.no∧k<L.length∧e=.returned (.tuple #[.agg (tkC (L.getD k default)).toArray,.bool true])))∧Below w.heap.size w w'
theorem rnext_any (p cap k:Nat) (bad:Int) (a:Option Addr) (L:List TokE) (w:World) (h:RSt w p cap a L k bad) :
  Calls Tryz.prog 122 #[.pointer (some ⟨p,0,none⟩)] w (NextD L k w):=by
 obtain⟨W1,hW1⟩:∃ W1,W1=w.alloc (.cells zTok.toArray 59):=⟨_,rfl⟩
 have hb1:Below w.heap.size w W1:=by rw[hW1];exact(Below.refl _ w).alloc (Nat.le_refl _) _
 have hx:Bx W1 w.heap.size 59 zTok:=by rw[hW1];exact Bx.new w _ _
 have h1:=h.below hb1;have c0:=h1.rdr.c0;have c1:=h1.rdr.c1;have hlt:=h.rdr.lt;have hln:=h.len;have z0:=hx.fz 0;have z1:=hx.fz 1;have z2:=hx.fz 2;have z3:=hx.fz 3;have z4:=hx.fz 4;have z5:=hx.fz 5;have sf:=store_float;have HX:=hid hx;have HB1:=hid hb1;have HH:=hid h1;have HW1:Hid (W1=w.alloc (.cells #[.int .i64 0,.string ⟨#[]⟩,.int .i64 0,.float .f64 0,.int .i64 0,.int .i64 0] 59)):=hid hW1;have y0:=hx.c 0 rfl;have y1:=hx.c 1 rfl;have y2:=hx.c 2 rfl;have y3:=hx.c 3 rfl;have y4:=hx.c 4 rfl;have y5:=hx.c 5 rfl;have hadr:w.heap.size≠p:=by omega
 clear hW1 hb1 hx h1 h;rcases Nat.lt_or_ge k L.length with hk|hk
 ·obtain⟨x,rfl,t0,t1,t2,t3,t4,t5⟩:=HH.out.toks k hk;have hcl:=gL_stands hk;have HSA:=fun W=>hid (stands_any (L.getD k default) (HH.out.sized k) (HH.out.real k) W);have hd:decide (L.length≤k)=false:=decide_eq_false (by omega);unfold NextD;unfold tokV at HSA;unfold tkC;generalize L.getD k default=t at t0 t1 t2 t3 t4 t5 hcl HSA ⊢;have hlow:(x.add (k * 6)).block<w.heap.size:=Nat.lt_trans (HH.out.low x rfl _) hlt;have hne:(x.add (k * 6)).block≠w.heap.size:=by omega
  have HK:=hid hk;obtain⟨N,hN⟩:∃ N,N=L.length:=⟨_,rfl⟩
  have HNN:=hid hN;cases hs:standsB t with
  | false =>
   have HG:=hid (hcl.1 hs);rw[hs] at HSA;rw[← hN] at hk hln c0 hd HK;clear hcl hs hN;go_enter Tryz.func122,Tryz.ntmps122;go_upto_region 1 with (fail);rw[← HW1.out]
   go_region_held3 (fun W'=>W'.cell? ⟨p,0,none⟩=some (.slice (some x) N cap)∧W'.cell? ⟨p,1,none⟩=some (.int .i64 k)∧W'.cell? (x.add (k * 6))=some (.int .i64 t.kd)∧W'.cell? ⟨(x.add (k * 6)).block,(x.add (k * 6)).off+1,none⟩=some (.string t.tx)∧W'.cell? ⟨(x.add (k * 6)).block,(x.add (k * 6)).off+2,none⟩=some (.int .i64 t.iv)∧W'.cell? ⟨(x.add (k * 6)).block,(x.add (k * 6)).off+3,none⟩=some (.float .f64 t.rl)∧W'.cell? ⟨(x.add (k * 6)).block,(x.add (k * 6)).off+4,none⟩=some (.int .i64 t.pl)∧W'.cell? ⟨(x.add (k * 6)).block,(x.add (k * 6)).off+5,none⟩=some (.int .i64 t.sz))
    (first|(refine⟨?_,?_,?_,?_,?_,?_,?_,?_⟩ <;> assumption)|go_keep)
    (first|(go_at_call 144;refine(HSA W1.drew).out.mono ?_;rintro e w2 ⟨rfl,hb2⟩;have hb2:Below W1.heap.size W1 w2:=(drew_below W1).trans hb2;have HB2:=hid (HB1.out.trans (hb2.mono HB1.out.size));have HX2:=hid (HX.out.keep hb2 HX.out.lt);have HH2:=hid (HH.out.below hb2);have c0:w2.cell? ⟨p,0,none⟩=some (.slice (some x) N cap):=(by rw[HNN.out];exact HH2.out.rdr.c0);have c1:=HH2.out.rdr.c1;have hxl:(x.add (k * 6)).block<W1.heap.size:=Nat.lt_trans hlow (Nat.lt_of_le_of_lt (Nat.le_refl _) HX.out.lt);have t0:=(hb2.cell hxl).trans t0;have t1:=(hb2.cell (p:=⟨(x.add (k * 6)).block,_,none⟩) hxl).trans t1;have t2:=(hb2.cell (p:=⟨(x.add (k * 6)).block,_,none⟩) hxl).trans t2;have t3:=(hb2.cell (p:=⟨(x.add (k * 6)).block,_,none⟩) hxl).trans t3;have t4:=(hb2.cell (p:=⟨(x.add (k * 6)).block,_,none⟩) hxl).trans t4;have t5:=(hb2.cell (p:=⟨(x.add (k * 6)).block,_,none⟩) hxl).trans t5;have z0:=HX2.out.fz 0;have z1:=HX2.out.fz 1;have z2:=HX2.out.fz 2;have z3:=HX2.out.fz 3;have z4:=HX2.out.fz 4;have z5:=HX2.out.fz 5;have y0:=HX2.out.c 0 rfl;have y1:=HX2.out.c 1 rfl;have y2:=HX2.out.c 2 rfl;have y3:=HX2.out.c 3 rfl;have y4:=HX2.out.c 4 rfl;have y5:=HX2.out.c 5 rfl;clear hb2))
   go_wp2;have hq:=HX2.out;exact bodyPost_ret (tokRes rfl rfl (bx_set6 hq) rfl) rfl ⟨.inl ⟨HG.out,rfl⟩,(((((HB2.out.setCell (Nat.le_refl _) _).setCell (Nat.le_refl _) _).setCell (Nat.le_refl _) _).setCell (Nat.le_refl _) _).setCell (Nat.le_refl _) _).setCell (Nat.le_refl _) _⟩
  | true =>
   have HG:=hid (fun h=>absurd (hcl.2 h) (by rw[hs];decide):¬ gL L k=.no);rw[hs] at HSA;rw[← hN] at hk hln c0 hd HK;clear hcl hs hN;go_enter Tryz.func122,Tryz.ntmps122;go_upto_region 1 with (fail);rw[← HW1.out]
   go_region_held3 (fun W'=>W'.cell? ⟨p,0,none⟩=some (.slice (some x) N cap)∧W'.cell? ⟨p,1,none⟩=some (.int .i64 k)∧W'.cell? (x.add (k * 6))=some (.int .i64 t.kd)∧W'.cell? ⟨(x.add (k * 6)).block,(x.add (k * 6)).off+1,none⟩=some (.string t.tx)∧W'.cell? ⟨(x.add (k * 6)).block,(x.add (k * 6)).off+2,none⟩=some (.int .i64 t.iv)∧W'.cell? ⟨(x.add (k * 6)).block,(x.add (k * 6)).off+3,none⟩=some (.float .f64 t.rl)∧W'.cell? ⟨(x.add (k * 6)).block,(x.add (k * 6)).off+4,none⟩=some (.int .i64 t.pl)∧W'.cell? ⟨(x.add (k * 6)).block,(x.add (k * 6)).off+5,none⟩=some (.int .i64 t.sz))
    (first|(refine⟨?_,?_,?_,?_,?_,?_,?_,?_⟩ <;> assumption)|go_keep)
    (first|(go_at_call 144;refine(HSA W1.drew).out.mono ?_;rintro e w2 ⟨rfl,hb2⟩;have hb2:Below W1.heap.size W1 w2:=(drew_below W1).trans hb2;have HB2:=hid (HB1.out.trans (hb2.mono HB1.out.size));have HX2:=hid (HX.out.keep hb2 HX.out.lt);have HH2:=hid (HH.out.below hb2);have c0:w2.cell? ⟨p,0,none⟩=some (.slice (some x) N cap):=(by rw[HNN.out];exact HH2.out.rdr.c0);have c1:=HH2.out.rdr.c1;have hxl:(x.add (k * 6)).block<W1.heap.size:=Nat.lt_trans hlow (Nat.lt_of_le_of_lt (Nat.le_refl _) HX.out.lt);have t0:=(hb2.cell hxl).trans t0;have t1:=(hb2.cell (p:=⟨(x.add (k * 6)).block,_,none⟩) hxl).trans t1;have t2:=(hb2.cell (p:=⟨(x.add (k * 6)).block,_,none⟩) hxl).trans t2;have t3:=(hb2.cell (p:=⟨(x.add (k * 6)).block,_,none⟩) hxl).trans t3;have t4:=(hb2.cell (p:=⟨(x.add (k * 6)).block,_,none⟩) hxl).trans t4;have t5:=(hb2.cell (p:=⟨(x.add (k * 6)).block,_,none⟩) hxl).trans t5;have z0:=HX2.out.fz 0;have z1:=HX2.out.fz 1;have z2:=HX2.out.fz 2;have z3:=HX2.out.fz 3;have z4:=HX2.out.fz 4;have z5:=HX2.out.fz 5;have y0:=HX2.out.c 0 rfl;have y1:=HX2.out.c 1 rfl;have y2:=HX2.out.c 2 rfl;have y3:=HX2.out.c 3 rfl;have y4:=HX2.out.c 4 rfl;have y5:=HX2.out.c 5 rfl;clear hb2))
   go_upto_region 3 with (fail);go_region
   all_goals go_wp2
   all_goals have hq:=HX2.out
   all_goals exact bodyPost_ret (tokRes rfl rfl (bx_drew (bx_set6 hq)) rfl) rfl ⟨.inr ⟨HG.out,by rw[← HNN.out];exact HK.out,rfl⟩,(below_set6 HB2.out (Nat.le_refl _)).drew⟩
 ·have hg:gL L k=.no:=by unfold gL;rw[if_neg (by omega)]
  have hd:decide (L.length≤k)=true:=decide_eq_true (by omega);unfold NextD;rw[hg];clear hg;go_enter Tryz.func122,Tryz.ntmps122;go_upto_region 1 with (fail);rw[← HW1.out];go_region
  all_goals go_wp2
  all_goals exact bodyPost_ret (tokRes rfl rfl (bx_drew (bx_set6 HX.out)) rfl) rfl ⟨.inl ⟨trivial,rfl⟩,(below_set6 HB1.out (Nat.le_refl _)).drew⟩
theorem clT_mark {t:TokE} {s:List UInt8} (h:t.kd≠5):isM (clT t) s=false:=by
 unfold clT;rw[if_neg h]
 repeat' split
 all_goals rfl
theorem isM_tok {L:List TokE} {k:Nat} (hk:k<L.length) (s:List UInt8):isM (gL L k) s=(decide ((L.getD k default).kd=5) && ((L.getD k default).tx.data.toList==s)):=by
 unfold gL;rw[if_pos hk];by_cases h:(L.getD k default).kd=5
 ·rw[decide_eq_true h];unfold clT;rw[if_pos h];rfl
 ·rw[clT_mark h,decide_eq_false h];rfl
theorem ris_any (p cap k:Nat) (bad:Int) (a:Option Addr) (L:List TokE) (m:ByteArray) (w:World) (h:RSt w p cap a L k bad) :
  Calls Tryz.prog 128 #[.pointer (some ⟨p,0,none⟩),.string m] w fun e w'=>e=.returned (.bool (isM (gL L k) m.data.toList))∧Below w.heap.size w w':=by
 have HN:=hid (rnext_any p cap k bad a L w h);have sf:=store_float;have hne:0=0:=rfl;by_cases hg:gL L k=.no
 ·have hm:isM (gL L k) m.data.toList=false:=by rw[hg];rfl
  rw[hm];have HG:=hid hg;clear hg hm h;go_enter Tryz.func128,Tryz.ntmps128;go_wp2_with (go_at_call 122;refine HN.out.mono ?_;rintro e w1 ⟨hc,hb⟩;rcases hc with ⟨_,rfl⟩|⟨hx,_,_⟩;rotate_left;(exact absurd HG.out hx);have HB:=hid (hb.alloc hb.size (.cells zTok.toArray 59));clear hb;unfold zTok);go_ret;exact⟨rfl,HB.out⟩
 ·have hk:k<L.length:=by
   rcases Nat.lt_or_ge k L.length with h'|h'
   ·exact h'
   ·exact absurd (by unfold gL;rw[if_neg (by omega)]) hg
  have hm:=isM_tok hk m.data.toList;have HG:=hid hg;rw[hm];unfold NextD tkC at HN;clear hg hm h hk;generalize L.getD k default=t at HN ⊢;cases hb5:decide (t.kd=5) with
  | false =>
   have d5:(t.kd==5)=false:=beq_eq_false_iff_ne.2 (of_decide_eq_false hb5);clear hb5;go_enter Tryz.func128,Tryz.ntmps128;go_wp2_with (go_at_call 122;refine HN.out.mono ?_;rintro e w1 ⟨hc,hb⟩;rcases hc with ⟨hx,_⟩|⟨_,_,rfl⟩;(exact absurd hx HG.out);have HB:=hid (hb.alloc hb.size (.cells #[.int .i64 t.kd,.string t.tx,.int .i64 t.iv,.float .f64 t.rl,.int .i64 t.pl,.int .i64 t.sz] 59));clear hb);go_ret;exact⟨rfl,HB.out⟩
  | true =>
   have d5:(t.kd==5)=true:=beq_iff_eq.2 (of_decide_eq_true hb5);clear hb5;cases hbt:(t.tx.data.toList==m.data.toList) with
   | false =>
    have e1:(t.tx.toList==m.toList)=false:=by rw[tl_dat,tl_dat];exact hbt
    clear hbt;go_enter Tryz.func128,Tryz.ntmps128;go_wp2_with (go_at_call 122;refine HN.out.mono ?_;rintro e w1 ⟨hc,hb⟩;rcases hc with ⟨hx,_⟩|⟨_,_,rfl⟩;(exact absurd hx HG.out);have HB:=hid (hb.alloc hb.size (.cells #[.int .i64 t.kd,.string t.tx,.int .i64 t.iv,.float .f64 t.rl,.int .i64 t.pl,.int .i64 t.sz] 59));clear hb);go_ret;exact⟨rfl,HB.out⟩
   | true =>
    have e1:(t.tx.toList==m.toList)=true:=by rw[tl_dat,tl_dat];exact hbt
    clear hbt;go_enter Tryz.func128,Tryz.ntmps128;go_wp2_with (go_at_call 122;refine HN.out.mono ?_;rintro e w1 ⟨hc,hb⟩;rcases hc with ⟨hx,_⟩|⟨_,_,rfl⟩;(exact absurd hx HG.out);have HB:=hid (hb.alloc hb.size (.cells #[.int .i64 t.kd,.string t.tx,.int .i64 t.iv,.float .f64 t.rl,.int .i64 t.pl,.int .i64 t.sz] 59));clear hb);go_ret;exact⟨rfl,HB.out⟩
theorem rbad_any (p cap k:Nat) (a:Option Addr) (L:List TokE) (w:World) (h:RSt w p cap a L k (-1)) :
  Calls Tryz.prog 123 #[.pointer (some ⟨p,0,none⟩)] w fun e w'=>e=.returned (.pointer none)∧w'=w.setCell ⟨p,2,none⟩ (.int .i64 k):=by
 have c1:=h.rdr.c1;have c2:=h.rdr.c2;have fz:=h.rdr.fz (o:=2);clear h;go_enter Tryz.func123,Tryz.ntmps123;go_wp2;go_ret;exact⟨rfl,rfl⟩
def MustD (p cap k:Nat) (a:Option Addr) (L:List TokE) (m:List UInt8) (w:World) (e:Ending) (w':World):Prop :=
 ((isM (gL L k) m=false∧e=.returned (.bool false)∧RSt w' p cap a L k k)∨(isM (gL L k) m=true∧e=.returned (.bool true)∧RSt w' p cap a L (k+1) (-1)))∧Below p w w'∧Oth p w w'
theorem must_any (p cap k:Nat) (a:Option Addr) (L:List TokE) (m:ByteArray) (w:World) (h:RSt w p cap a L k (-1)) :
  Calls Tryz.prog 124 #[.pointer (some ⟨p,0,none⟩),.string m] w (MustD p cap k a L m.data.toList w):=by
 have HI:=hid (ris_any p cap k (-1) a L m w h);have HH:=hid h;have hplt:=h.rdr.lt;have hkl:isM (gL L k) m.data.toList=true→k<L.length:=fun hi=>by
  rcases Nat.lt_or_ge k L.length with h'|h'
  ·exact h'
  ·unfold gL at hi;rw[if_neg (by omega)] at hi;cases hi
 unfold MustD;clear h;cases hb:isM (gL L k) m.data.toList with
 | false =>
  rw[hb] at HI;clear hb hkl;go_enter Tryz.func124,Tryz.ntmps124;go_wp2_with (first|(go_at_call 128;refine HI.out.mono ?_;rintro e w1 ⟨rfl,hb1⟩;have HS:=hid (HH.out.below hb1);have HB:=hid hb1;clear hb1)|(go_at_call 123;refine(rbad_any p cap k a L _ HS.out).mono ?_;rintro e w2 ⟨rfl,rfl⟩));go_ret;exact⟨.inl ⟨by first|rfl|trivial,rfl,HS.out.mark k⟩,(HB.out.mono (Nat.le_of_lt hplt)).setCell (Nat.le_refl p) _,(Oth.of_below HB.out).set 2 _⟩
 | true =>
  have hk:=hkl hb;rw[hb] at HI;clear hb hkl;go_enter Tryz.func124,Tryz.ntmps124;go_wp2_with (first|(go_at_call 128;refine HI.out.mono ?_;rintro e w1 ⟨rfl,hb1⟩;have HS:=hid (HH.out.below hb1);have HB:=hid hb1;have c1:=HS.out.rdr.c1;have fz:=HS.out.rdr.fz (o:=1);have hlen:=HS.out.len;clear hb1));rw[show (k:Int)+1=((k+1:Nat):Int) from rfl];go_ret;exact⟨.inr ⟨by first|rfl|trivial,rfl,HS.out.move (k+1) (by omega)⟩,(HB.out.mono (Nat.le_of_lt hplt)).setCell (Nat.le_refl p) _,(Oth.of_below HB.out).set 1 _⟩
theorem one_any (p cap k n:Nat) (a:Option Addr) (L:List TokE) (w:World) (h1:1≤n) (h6:n≤6) (h:RSt w p cap a L k (-1)) :
  Calls Tryz.prog 105 #[.pointer (some ⟨p,0,none⟩),.int .i64 n] w fun e w'=>e=.returned (.int .i64 (oneK n (gL L k)))∧Below w.heap.size w w':=by
 have HO:=hid (operators_any n h1 h6 w);have HH:=hid h;rw[← firstM_one n h1 h6];have hl:=ops_len n;have hl6:=opsK_six n;unfold OpsD at HO;generalize opsT n=T at *
 generalize opsK n=K at *
 obtain⟨N,hN⟩:∃ N,N=T.length:=⟨_,rfl⟩
 rw[← hN] at HO hl;rw[← hl] at HO hl6;have HN:=hid hN;have HL:=hid hl;clear hN hl h;go_enter Tryz.func105,Tryz.ntmps105;go_wp2_with (go_at_call 127;refine HO.out.mono ?_;rintro e w1 ⟨g,c,g2,c2,rfl,hs,hk,hb,hg,hg2,hl1,hl2⟩;have HS:=hid hs;have HK:=hid hk;have HB1:=hid hb;have HL1:=hid (And.intro hl1 hl2);clear hs hk hb hg hg2 hl1 hl2)
 go_loopw [7] (fun v wr=>∃ i:Nat,v=.int .i64 i∧i≤N∧Hid (Below w1.heap.size w1 wr)∧Hid (∀ (j:Nat) (s':List UInt8),j<i→T[j]?=some s'→isM (gL L k) s'=false)) (fun v _=>N-(intOf v).toNat)
 case atStart=>exact⟨0,rfl,by omega,hid (Below.refl _ _),hid fun j s' hj=>absurd hj (by omega)⟩
 case round =>
  obtain⟨i,rfl,hi,HBR,HNO⟩:=hrel;rcases Nat.lt_or_ge i N with hlt|hge
  ·obtain⟨t,ht⟩:∃ t,T[i]?=some t:=⟨_,List.getElem?_eq_getElem (by rw[← HN.out];exact hlt)⟩
   obtain⟨q,hq⟩:∃ q,K[i]?=some q:=⟨_,List.getElem?_eq_getElem (by rw[← HL.out];exact hlt)⟩
   have c0:wr.cell? ⟨g,i,none⟩=some (.string ⟨t.toArray⟩):=(HBR.out.cell (p:=⟨g,i,none⟩) HL1.out.1).trans (HS.out i t ht);have HT:=hid ht;have HQ:=hid hq;have HI:=hid (ris_any p cap k (-1) a L ⟨t.toArray⟩ wr ((HH.out.below HB1.out).below HBR.out));have hmt:(⟨t.toArray⟩:ByteArray).data.toList=t:=rfl;rw[hmt] at HI;clear ht hq hmt;cases hb:isM (gL L k) t with
   | true =>
    have HM:Hid (firstM (gL L k) T K=q):=hid (firstM_at HT.out HQ.out HNO.out hb);rw[hb] at HI;clear hb;go_wp2_with (go_at_call 128;refine HI.out.mono ?_;rintro e w2 ⟨rfl,hb2⟩;have HB2:=hid (HBR.out.trans (hb2.mono HBR.out.size));clear hb2;have c1:w2.cell? ⟨g2,i,none⟩=some (.int .i64 (q:Nat)):=(HB2.out.cell (p:=⟨g2,i,none⟩) HL1.out.2).trans (HK.out i q HQ.out));go_ret;exact⟨by rw[HM.out];rfl,HB1.out.trans (HB2.out.mono HB1.out.size)⟩
   | false =>
    have HNO2:=hid (fun (j:Nat) (s':List UInt8) (hj:j<i+1) (hs:T[j]?=some s')=>(by
     rcases Nat.lt_or_ge j i with h|h
     ·exact HNO.out j s' h hs
     ·obtain rfl:j=i:=by omega
      have:=hs.symm.trans HT.out;cases this;exact hb:isM (gL L k) s'=false))
    rw[hb] at HI;clear hb;go_wp2_with (go_at_call 128;refine HI.out.mono ?_;rintro e w2 ⟨rfl,hb2⟩;have HB2:=hid (HBR.out.trans (hb2.mono HBR.out.size));clear hb2);go_roundw
    case rel=>exact⟨i+1,by go_num,by omega,HB2,HNO2⟩
    case measure=>simp[intOf];omega
  ·obtain rfl:i=N:=by omega
   have HM:Hid (firstM (gL L k) T K=0):=hid (firstM_end fun j s' hs=>HNO.out j s' (by obtain⟨h,_⟩:=List.getElem?_eq_some_iff.1 hs;have:=HN.out;omega) hs);go_wp2;go_ret;exact⟨by rw[HM.out];rfl,HB1.out.trans (HBR.out.mono HB1.out.size)⟩
def RdT (L:List TokE) (X:Nt) (k p cap:Nat) (a:Option Addr) (w:World) (e:Ending) (w':World):Prop :=
 ((∃ q k',Rd (gL L) X k (.bad q)∧e=.returned (.pointer none)∧RSt w' p cap a L k' (q:Nat)) ∨
  ∃ t q qa,Rd (gL L) X k (.ok t q)∧cnt t+k≤q∧e=.returned (.pointer (some ⟨qa,0,none⟩))∧RSt w' p cap a L q (-1)∧TreeAt w' (w.heap.size-1) t qa)∧Below p w w'∧Oth p w w'
theorem TreeAt.mono {w:World} {lo lo2:Nat} (hl:lo2≤lo):∀ {t:Ex} {q:Nat},TreeAt w lo t q→TreeAt w lo2 t q:=by
 intro t
 induction t with
 | lf l=>exact fun h=>⟨Nat.lt_of_le_of_lt hl h.1,h.2⟩
 | un k a ih =>
  rintro q ⟨h1,s,c,qa,h2,h3,h4,h5,h6⟩;exact⟨by omega,s,c,qa,by omega,h3,h4,h5,ih h6⟩
 | bi k a b iha ihb =>
  rintro q ⟨h1,s,c,qa,qb,h2,h3,h4,h5,h6,h7,h8⟩;exact⟨by omega,s,c,qa,qb,by omega,h3,h4,h5,h6,iha h7,ihb h8⟩
theorem TreeAt.oth2 {w w':World} {lo p q:Nat} {t:Ex} (h:TreeAt w lo t q) (ho:Oth p w w') (hp:p≤lo):TreeAt w' lo t q:=h.keep (fun k h1 h2=>ho.2 k h2 (by omega)) ho.1
theorem un_new {w:World} {p k q:Nat} {t:Ex} (hp:p<w.heap.size) (ht:TreeAt w p t q) (T:TypeId) :
  TreeAt ((w.alloc (.cells #[.pointer (some ⟨q,0,none⟩)] T)).alloc (.cells (trC (pairN k 0 0) (.slice (some ⟨w.heap.size,0,none⟩) 1 1)).toArray 172)) p (.un k t) (w.heap.size+1):=by
 have hs:(w.alloc (.cells #[Value.pointer (some ⟨q,0,none⟩)] T)).heap.size=w.heap.size+1:=by simp
 have hb1:Below w.heap.size w (w.alloc (.cells #[Value.pointer (some ⟨q,0,none⟩)] T)):=(Below.refl _ w).alloc (Nat.le_refl _) _;have x1:Bx (w.alloc (.cells #[Value.pointer (some ⟨q,0,none⟩)] T)) w.heap.size T [.pointer (some ⟨q,0,none⟩)]:=Bx.new w T [.pointer (some ⟨q,0,none⟩)];generalize w.alloc (.cells #[Value.pointer (some ⟨q,0,none⟩)] T)=w1 at *
 have x2:=Bx.new w1 172 (trC (pairN k 0 0) (.slice (some ⟨w.heap.size,0,none⟩) 1 1));rw[hs] at x2;have hb2:Below (w.heap.size+1) w1 (w1.alloc (.cells (trC (pairN k 0 0) (.slice (some ⟨w.heap.size,0,none⟩) 1 1)).toArray 172)):=(Below.refl _ _).alloc (by omega) _;have hz:=hb2.size;have hlt:=x2.lt;refine⟨by omega,w.heap.size,1,q,hp,by omega,x2,?_,(ht.below hb1).below (hb2.mono (by omega))⟩;exact(x1.keep hb2 (by omega)).c 0 rfl
theorem bi_new {w:World} {p k qa qb:Nat} {t u:Ex} (hp:p<w.heap.size) (ht:TreeAt w p t qa) (hu:TreeAt w p u qb) (T:TypeId) :
  TreeAt ((w.alloc (.cells #[.pointer (some ⟨qa,0,none⟩),.pointer (some ⟨qb,0,none⟩)] T)).alloc (.cells (trC (pairN k 0 0) (.slice (some ⟨w.heap.size,0,none⟩) 2 2)).toArray 172)) p (.bi k t u) (w.heap.size+1):=by
 have hs:(w.alloc (.cells #[Value.pointer (some ⟨qa,0,none⟩),.pointer (some ⟨qb,0,none⟩)] T)).heap.size=w.heap.size+1:=by simp
 have hb1:Below w.heap.size w (w.alloc (.cells #[Value.pointer (some ⟨qa,0,none⟩),.pointer (some ⟨qb,0,none⟩)] T)):=(Below.refl _ w).alloc (Nat.le_refl _) _;have x1:Bx (w.alloc (.cells #[Value.pointer (some ⟨qa,0,none⟩),.pointer (some ⟨qb,0,none⟩)] T)) w.heap.size T [.pointer (some ⟨qa,0,none⟩),.pointer (some ⟨qb,0,none⟩)]:=Bx.new w T [.pointer (some ⟨qa,0,none⟩),.pointer (some ⟨qb,0,none⟩)];generalize w.alloc (.cells #[Value.pointer (some ⟨qa,0,none⟩),.pointer (some ⟨qb,0,none⟩)] T)=w1 at *
 have x2:=Bx.new w1 172 (trC (pairN k 0 0) (.slice (some ⟨w.heap.size,0,none⟩) 2 2));rw[hs] at x2;have hb2:Below (w.heap.size+1) w1 (w1.alloc (.cells (trC (pairN k 0 0) (.slice (some ⟨w.heap.size,0,none⟩) 2 2)).toArray 172)):=(Below.refl _ _).alloc (by omega) _;have hz:=hb2.size;have hlt:=x2.lt;refine⟨by omega,w.heap.size,2,qa,qb,hp,by omega,x2,?_,?_,(ht.below hb1).below (hb2.mono (by omega)),(hu.below hb1).below (hb2.mono (by omega))⟩
 ·exact(x1.keep hb2 (by omega)).c 0 rfl
 ·exact(x1.keep hb2 (by omega)).c 1 rfl
theorem rlevel_in (p cap k n:Nat) (a:Option Addr) (L:List TokE) (w:World) (h1:1≤n) (h5:n≤5) (hpw:p<w.heap.size) (hcap:L.length≤1000000000000)
  (hN:Calls Tryz.prog 90 #[.pointer (some ⟨p,0,none⟩),.int .i64 ((n+1:Nat):Int)] w (RdT L (.lvl (n+1)) k p cap a w))
  (hL:∀ (k' n':Nat) (W:World),k<k'→1≤n'→n'≤7→RSt W p cap a L k' (-1)→Calls Tryz.prog 90 #[.pointer (some ⟨p,0,none⟩),.int .i64 n'] W (RdT L (.lvl n') k' p cap a W)) :
  Calls Tryz.prog 90 #[.pointer (some ⟨p,0,none⟩),.int .i64 n] w (RdT L (.lvl n) k p cap a w):=by
 have HN:=hid hN;have HL:=hid hL;clear hN hL;have d7:((n:Int)==7)=false:=beq_eq_false_iff_ne.2 (by omega);have d6:((n:Int)==6)=false:=beq_eq_false_iff_ne.2 (by omega);rw[show ((n+1:Nat):Int)=(n:Int)+1 from rfl] at HN;go_enter Tryz.func90,Tryz.ntmps90;go_wp2_with (go_at_call 90;refine HN.out.mono ?_;rintro e w1 ⟨he,hb,ho⟩;have HB:=hid (And.intro hb ho);clear hb ho;rcases he with ⟨q,k1,hq,rfl,hst⟩|⟨t,q,qa,hq,hcq,rfl,hst,htr⟩)
 ·have HQ:=hid hq;have HST:=hid hst;clear hq hst
  go_loopg [7] 0 (fun gk av wr=>av=.pointer none∧wr=w1)
  case atStart=>exact⟨rfl,rfl⟩
  case round =>
   obtain⟨rfl,rfl⟩:=hrel;go_wp2;go_ret;exact⟨.inl ⟨q,k1,Rd.lvl h1 h5 (.inl ⟨q,HQ.out,rfl⟩),rfl,HST.out⟩,HB.out⟩
 ·have HQ:=hid hq;have HST:=hid hst;have HTR:=hid htr;clear hq hst htr
  go_loopg [7] (L.length-q) (fun gk av wr=>∃ (t:Ex) (q qa:Nat),gk=L.length-q∧av=.pointer (some ⟨qa,0,none⟩)∧Hid (cnt t+k≤q)∧Hid (RSt wr p cap a L q (-1))∧Hid (TreeAt wr (w.heap.size-1) t qa)∧Hid (Below p w wr∧Oth p w wr)∧Hid (∀ r,Rd (gL L) (.loop n t) q r→Rd (gL L) (.lvl n) k r))
  case atStart=>exact⟨t,q,qa,rfl,rfl,hid hcq,HST,HTR,HB,hid fun r hr=>Rd.lvl h1 h5 (.inr ⟨t,q,HQ.out,hr⟩)⟩
  case round =>
   clear hcq HST HTR HB HQ;obtain⟨t,q,qa,rfl,rfl,HC,HST,HTR,HB,HCH⟩:=hrel;have HO:=hid (one_any p cap q n a L wr h1 (by omega) HST.out);have hone:oneK n (gL L q)=if opL (clK (gL L q))=n then clK (gL L q) else 0:=by unfold oneK;rw[if_neg (by omega)]
   by_cases hop:opL (clK (gL L q))=n
   ·have HOP:=hid hop;have hK0:clK (gL L q)≠0:=fun e=>by rw[e] at hop;have e0:opL 0=0:=rfl;omega
    have hqL:q<L.length:=by
     rcases Nat.lt_or_ge q L.length with h'|h'
     ·exact h'
     ·exfalso;exact hK0 (by unfold gL;rw[if_neg (by omega)];rfl)
    rw[if_pos hop] at hone;rw[hone] at HO;obtain⟨K,hK⟩:∃ K,K=clK (gL L q):=⟨_,rfl⟩
    rw[← hK] at HO hK0;have dk:((K:Int)==0)=false:=beq_eq_false_iff_ne.2 (by omega);have HK:=hid hK;clear hone hop hK hK0;go_upto_region 17 with (go_at_call 105;refine HO.out.mono ?_;rintro e w2 ⟨rfl,hb2⟩;have HB2:=hid (And.intro (HB.out.1.trans (hb2.mono (Nat.le_of_lt HST.out.rdr.lt))) (HB.out.2.trans (Oth.of_below hb2)));have HS2:=hid (HST.out.below hb2);have HT2:=hid (HTR.out.below hb2);clear hb2;have c1:=HS2.out.rdr.c1;have fz:=HS2.out.rdr.fz (o:=1);have hlen:=HS2.out.len);go_upto_region 18 with (fail);rw[show (q:Int)+1=((q+1:Nat):Int) from rfl];have HMV:=hid (HS2.out.move (q+1) (by omega));have HBM:Hid (Below p w (w2.setCell ⟨p,1,none⟩ (.int .i64 ((q+1:Nat):Int)))∧Oth p w (w2.setCell ⟨p,1,none⟩ (.int .i64 ((q+1:Nat):Int)))):=hid ⟨HB2.out.1.setCell (Nat.le_refl p) _,HB2.out.2.set 1 _⟩;have HTM:=hid (HT2.out.oth2 (p:=p) ((Oth.of_below (b:=p) (Below.refl _ w2)).set 1 (.int .i64 ((q+1:Nat):Int))) (by omega));generalize w2.setCell ⟨p,1,none⟩ (.int .i64 ((q+1:Nat):Int))=WM at HMV HBM HTM ⊢;clear c1 fz HS2 HT2 HB2;have HV:=hid (HL.out (q+1) (n+1) WM (by have:=HC.out;have:=cnt_pos t;omega) (by omega) (by omega) HMV.out);rw[show ((n+1:Nat):Int)=(n:Int)+1 from rfl] at HV;go_upto_region 19 with (go_at_call 90;refine HV.out.mono ?_;rintro e w3 ⟨he,hb,ho⟩;have HB3:=hid (And.intro (HBM.out.1.trans hb) (HBM.out.2.trans ho));have HT3:=hid (HTM.out.oth2 ho (by omega));clear hb ho;rcases he with ⟨qe,k1,hqe,rfl,hst⟩|⟨b,q2,qb,hq2,hcq2,rfl,hst2,htr2⟩)
    ·have HQ:=hid hqe;have HST3:=hid hst;clear hqe hst;go_wp2;go_ret;exact⟨.inl ⟨qe,k1,HCH.out _ (Rd.more HOP.out (.inl ⟨qe,HQ.out,rfl⟩)),rfl,HST3.out⟩,HB3.out⟩
    have HQ2:=hid hq2;have HST3:=hid hst2;have HTB3:Hid (TreeAt w3 (w.heap.size-1) b qb):=hid (htr2.mono (by have:=HBM.out.2.1;omega));have HC2:=hid hcq2;clear hq2 hst2 htr2 hcq2;go_upto_region 22 with (fail);have HTN:=hid (bi_new (k:=K) (by have:=HB3.out.2.1;omega) HT3.out HTB3.out 151);have hb4:Below w3.heap.size w3 ((w3.alloc (.cells #[.pointer (some ⟨qa,0,none⟩),.pointer (some ⟨qb,0,none⟩)] 151)).alloc (.cells (trC (pairN K 0 0) (.slice (some ⟨w3.heap.size,0,none⟩) 2 2)).toArray 172)):=((Below.refl _ w3).alloc (Nat.le_refl _) _).alloc (by simp) _;have HS4:=hid (HST3.out.below hb4);have HB4:=hid (And.intro (HB3.out.1.trans (hb4.mono (Nat.le_of_lt HST3.out.rdr.lt))) (HB3.out.2.trans (Oth.of_below hb4)));clear hb4;unfold trC pairN at HTN HS4 HB4;generalize (w3.alloc (.cells #[.pointer (some ⟨qa,0,none⟩),.pointer (some ⟨qb,0,none⟩)] 151)).alloc _=W4 at HTN HS4 HB4 ⊢;have hct:cnt (.bi K t b)+k≤q2:=by
     have h0:=HC.out;have h2:=HC2.out;show cnt t+cnt b+1+k≤q2;omega
    have HCT:=hid hct;clear hct;generalize w3.heap.size+1=Q at HTN ⊢;by_cases h3:n=3
    ·have H3:=hid h3;have d3:((n:Int)==3)=true:=beq_iff_eq.2 (by omega);clear h3;go_wp2;go_ret;exact⟨.inr ⟨.bi K t b,q2,Q,HCH.out _ (Rd.more HOP.out (.inr ⟨b,q2,HQ2.out,by simp only;rw[if_pos H3.out,HK.out]⟩)),HCT.out,rfl,HS4.out,HTN.out⟩,HB4.out⟩
    ·have H3:=hid h3;have d3:((n:Int)==3)=false:=beq_eq_false_iff_ne.2 (by omega);have HM:Hid (L.length-q2<L.length-q):=hid (by have:=HC2.out;omega);clear h3;go_wp2
     go_roundg (L.length-q2)
     case measure=>exact HM.out
     case rel=>exact⟨.bi K t b,q2,Q,rfl,rfl,HCT,HS4,HTN,HB4,hid fun r hr=>HCH.out _ (Rd.more HOP.out (.inr ⟨b,q2,HQ2.out,by simp only;rw[if_neg H3.out,← HK.out];exact hr⟩))⟩
   ·rw[if_neg hop] at hone;rw[hone] at HO;have HOP:=hid hop;clear hone hop;go_wp2_with (go_at_call 105;refine HO.out.mono ?_;rintro e w2 ⟨rfl,hb2⟩;have HB2:=hid (And.intro (HB.out.1.trans (hb2.mono (Nat.le_of_lt HST.out.rdr.lt))) (HB.out.2.trans (Oth.of_below hb2)));have HS2:=hid (HST.out.below hb2);have HT2:=hid (HTR.out.below hb2);clear hb2);go_ret;exact⟨.inr ⟨t,q,qa,HCH.out _ (Rd.stop HOP.out),HC.out,rfl,HS2.out,HT2.out⟩,HB2.out⟩
theorem rsix_in (p cap k:Nat) (a:Option Addr) (L:List TokE) (w:World) (hcap:L.length≤1000000000000) (h:RSt w p cap a L k (-1))
  (hN:sgK (gL L k)=0→∀ W,RSt W p cap a L k (-1)→Calls Tryz.prog 90 #[.pointer (some ⟨p,0,none⟩),.int .i64 7] W (RdT L (.lvl 7) k p cap a W))
  (hL:∀ (k' n':Nat) (W:World),k<k'→1≤n'→n'≤7→RSt W p cap a L k' (-1)→Calls Tryz.prog 90 #[.pointer (some ⟨p,0,none⟩),.int .i64 n'] W (RdT L (.lvl n') k' p cap a W)) :
  Calls Tryz.prog 90 #[.pointer (some ⟨p,0,none⟩),.int .i64 6] w (RdT L (.lvl 6) k p cap a w):=by
 have HN:=hid hN;have HL:=hid hL;have HH:=hid h;have hO:=one_any p cap k 6 a L w (by omega) (by omega) h;have hone:oneK 6 (gL L k)=sgK (gL L k):=rfl;rw[hone] at hO;have HO:=hid hO;clear hN hL h hO hone;by_cases hs:sgK (gL L k)=0
 ·have HSG:=hid hs;rw[hs] at HO;have HV:=hid (HN.out hs);clear hs;go_enter Tryz.func90,Tryz.ntmps90;go_wp2_with (first
   | (go_at_call 105;refine HO.out.mono ?_;rintro e w2 ⟨rfl,hb2⟩;have HB2:=hid (And.intro (hb2.mono (Nat.le_of_lt HH.out.rdr.lt)) (Oth.of_below (b:=p) hb2));have HS2:=hid (HH.out.below hb2);clear hb2)
   | (go_at_call 90;refine(HV.out w2 HS2.out).mono ?_;rintro e w3 ⟨he,hb,ho⟩;have HB3:=hid (And.intro (HB2.out.1.trans hb) (HB2.out.2.trans ho));clear hb ho;rcases he with ⟨qe,k1,hqe,rfl,hst⟩|⟨b,q2,qb,hq2,hcq2,rfl,hst2,htr2⟩))
  ·have HQ:=hid hqe;have HST:=hid hst;clear hqe hst;go_wp2;go_ret;exact⟨.inl ⟨qe,k1,Rd.six HSG.out HQ.out,rfl,HST.out⟩,HB3.out⟩
  ·have HQ:=hid hq2;have HST:=hid hst2;have HTR:Hid (TreeAt w3 (w.heap.size-1) b qb):=hid (htr2.mono (by have:=HB2.out.2.1;omega));have HC:=hid hcq2;clear hq2 hst2 htr2 hcq2;go_wp2;go_ret;exact⟨.inr ⟨b,q2,qb,Rd.six HSG.out HQ.out,HC.out,rfl,HST.out,HTR.out⟩,HB3.out⟩
 ·have hqL:k<L.length:=by
   rcases Nat.lt_or_ge k L.length with h'|h'
   ·exact h'
   ·exfalso;exact hs (by unfold gL;rw[if_neg (by omega)];rfl)
  have HSG:=hid hs;obtain⟨K,hK⟩:∃ K,K=sgK (gL L k):=⟨_,rfl⟩
  have HK:=hid hK;rw[← hK] at HO hs;have dk:((K:Int)==0)=false:=beq_eq_false_iff_ne.2 (by omega);clear hK hs;go_enter Tryz.func90,Tryz.ntmps90;go_upto_region 8 with (go_at_call 105;refine HO.out.mono ?_;rintro e w2 ⟨rfl,hb2⟩;have HB2:=hid (And.intro (hb2.mono (Nat.le_of_lt HH.out.rdr.lt)) (Oth.of_below (b:=p) hb2));have HS2:=hid (HH.out.below hb2);clear hb2;have c1:=HS2.out.rdr.c1;have fz:=HS2.out.rdr.fz (o:=1);have hlen:=HS2.out.len);rw[show (k:Int)+1=((k+1:Nat):Int) from rfl];have HMV:=hid (HS2.out.move (k+1) (by omega));have HBM:Hid (Below p w (w2.setCell ⟨p,1,none⟩ (.int .i64 ((k+1:Nat):Int)))∧Oth p w (w2.setCell ⟨p,1,none⟩ (.int .i64 ((k+1:Nat):Int)))):=hid ⟨HB2.out.1.setCell (Nat.le_refl p) _,HB2.out.2.set 1 _⟩;generalize w2.setCell ⟨p,1,none⟩ (.int .i64 ((k+1:Nat):Int))=WM at HMV HBM ⊢;clear c1 fz HS2 HB2;have HV:=hid (HL.out (k+1) 6 WM (by omega) (by omega) (by omega) HMV.out);go_upto_region 9 with (go_at_call 90;refine HV.out.mono ?_;rintro e w3 ⟨he,hb,ho⟩;have HB3:=hid (And.intro (HBM.out.1.trans hb) (HBM.out.2.trans ho));clear hb ho;rcases he with ⟨qe,k1,hqe,rfl,hst⟩|⟨b,q2,qb,hq2,hcq2,rfl,hst2,htr2⟩)
  ·have HQ:=hid hqe;have HST3:=hid hst;clear hqe hst;go_wp2;go_ret;exact⟨.inl ⟨qe,k1,Rd.sign HSG.out (.inl ⟨qe,HQ.out,rfl⟩),rfl,HST3.out⟩,HB3.out⟩
  have HQ2:=hid hq2;have HST3:=hid hst2;have HTB3:Hid (TreeAt w3 (w.heap.size-1) b qb):=hid (htr2.mono (by have:=HBM.out.2.1;omega));have HC2:=hid hcq2;clear hq2 hst2 htr2 hcq2;have HTN:=hid (un_new (k:=K) (by have:=HB3.out.2.1;have:=HH.out.rdr.lt;omega) HTB3.out 151);have hb4:Below w3.heap.size w3 ((w3.alloc (.cells #[.pointer (some ⟨qb,0,none⟩)] 151)).alloc (.cells (trC (pairN K 0 0) (.slice (some ⟨w3.heap.size,0,none⟩) 1 1)).toArray 172)):=((Below.refl _ w3).alloc (Nat.le_refl _) _).alloc (by simp) _;have HS4:=hid (HST3.out.below hb4);have HB4:=hid (And.intro (HB3.out.1.trans (hb4.mono (Nat.le_of_lt HST3.out.rdr.lt))) (HB3.out.2.trans (Oth.of_below hb4)));clear hb4;unfold trC pairN at HTN HS4 HB4;go_wp2;generalize (w3.alloc (.cells #[.pointer (some ⟨qb,0,none⟩)] 151)).alloc _=W4 at HTN HS4 HB4 ⊢;go_ret;exact⟨.inr ⟨.un K b,q2,_,Rd.sign HSG.out (.inr ⟨b,q2,HQ2.out,by rw[HK.out]⟩),by have:=HC2.out;show cnt b+1+k≤q2;omega,rfl,HS4.out,HTN.out⟩,HB4.out⟩
theorem rseven_in (p cap k:Nat) (a:Option Addr) (L:List TokE) (w:World)
  (hS:Calls Tryz.prog 104 #[.pointer (some ⟨p,0,none⟩)] w (RdT L (.lvl 7) k p cap a w)) :
  Calls Tryz.prog 90 #[.pointer (some ⟨p,0,none⟩),.int .i64 7] w (RdT L (.lvl 7) k p cap a w):=by
 have HS:=hid hS;clear hS;go_enter Tryz.func90,Tryz.ntmps90;go_wp2_with (go_at_call 104;refine HS.out.mono ?_;rintro e w3 ⟨he,HB⟩;have HB3:=hid HB;clear HB;rcases he with ⟨qe,k1,hqe,rfl,hst⟩|⟨b,q2,qb,hq2,hcq2,rfl,hst2,htr2⟩)
 ·have HQ:=hid hqe;have HST:=hid hst;clear hqe hst;go_wp2;go_ret;exact⟨.inl ⟨qe,k1,HQ.out,rfl,HST.out⟩,HB3.out⟩
 ·have HQ:=hid hq2;have HST:=hid hst2;have HTR:=hid htr2;have HC:=hid hcq2;clear hq2 hst2 htr2 hcq2;go_wp2;go_ret;exact⟨.inr ⟨b,q2,qb,HQ.out,HC.out,rfl,HST.out,HTR.out⟩,HB3.out⟩
end Go.Proofs.YtkpboalccpancaaGreatDoor
