import Derived.Test.YtkpboalccpancaaGreatDoorMDrTag
namespace Go.Proofs.YtkpboalccpancaaGreatDoor
open Go.RowKit Go.Shelf
set_option maxRecDepth 100000
set_option linter.all false
def zAct:List Value:=[.int .i64 0,.slice none 0 0,.string ⟨#[]⟩,.string ⟨#[]⟩,.slice none 0 0]
theorem actRes8 {fn:Func} {p:Tmp} {tmps:Array Value} {W:World} {g:Nat} {c0 tv c2 c3 c4:Value} (hf:fn.results=#[.cell p 95]) (hp:tmps.getD p undef=.pointer (some ⟨g,0,none⟩)) (h:Bx W g 95 [c0,tv,c2,c3,c4]) :
  (results fn tmps).run Tryz.prog W=.ok (.agg #[c0,tv,c2,c3,c4]) W:=results_cell_row hf _ _ g 95 _ (0,0) _ hp h Tryz.underlying95 rfl (by kernel_rfl)
theorem bx_set5 {W:World} {g:Nat} {T:TypeId} {v0 v1 v2 v3 v4 a b c d e:Value} (h:Bx W g T [v0,v1,v2,v3,v4]) :
  Bx (((((W.setCell ⟨g,0,none⟩ a).setCell ⟨g,1,none⟩ b).setCell ⟨g,2,none⟩ c).setCell ⟨g,3,none⟩ d).setCell ⟨g,4,none⟩ e) g T [a,b,c,d,e] :=
 ((((h.set 0 a).set 1 b).set 2 c).set 3 d).set 4 e
structure AcS (w:World) (p cap n:Nat) (a:Option Addr) (L:List TokE) (wr:World) (X:Nat) (s:S8) (cs:List Value) (tv:Value) (to:Option Ex):Prop where
 box:Bx wr X 95 cs
 res:Bx wr w.heap.size 95 zAct
 st:DSt wr p cap n a L s
 eff:Eff p w wr
 it:Itm exE (X+1) wr [tv] to
 lo:w.heap.size<X
section
variable {w:World} {p cap n:Nat} {a:Option Addr} {L:List TokE} {wr w1:World} {X:Nat} {s s1:S8} {cs:List Value} {tv:Value} {to:Option Ex}
theorem AcS.step (h:AcS w p cap n a L wr X s cs tv to) (hp:p<w.heap.size) (hs:DSt w1 p cap n a L s1) (he:Eff p wr w1):AcS w p cap n a L w1 X s1 cs tv to :=
 ⟨h.box.oth he.2 (by have:=h.lo;omega),h.res.oth he.2 (by omega),hs,h.eff.trans he,h.it.keep exK he.2 (by have:=h.lo;omega),h.lo⟩
theorem AcS.set (h:AcS w p cap n a L wr X s cs tv to) (hp:p<w.heap.size) (j:Nat) (v:Value):AcS w p cap n a L (wr.setCell ⟨X,j,none⟩ v) X s (cs.set j v) tv to:=by
 have hl:=h.lo;exact⟨h.box.set j v,h.res.other (by omega) _ _,h.st.same (fun b hb=>Below.heap_setCell _ _ _ _ (by show b≠X;omega)),h.eff.mine hp (by omega) _ _,h.it.same exK (fun b hb _=>Below.heap_setCell _ _ _ _ (by show b≠X;omega)) (by simp),hl⟩
theorem AcS.expr {v:Value} {o:Option Ex} (h:AcS w p cap n a L wr X s cs tv to) (hp:p<w.heap.size) (hx:Itm exE wr.heap.size w1 [v] o) (hs:DSt w1 p cap n a L s1) (he:Eff p wr w1):AcS w p cap n a L w1 X s1 cs v o :=
 ⟨h.box.oth he.2 (by have:=h.lo;omega),h.res.oth he.2 (by omega),hs,h.eff.trans he,hx.wide h.box.lt,h.lo⟩
theorem AcS.item {kd:Int} {nm vr:ByteArray} {c:List Value} (h:AcS w p cap n a L wr X s c tv to):Itm actE (X+1) wr [.int .i64 kd,tv,.string nm,.string vr,.slice none 0 0] ⟨kd,to,nm,vr,[]⟩:=by
 obtain⟨F,h1,h2⟩:=h.it;exact⟨F,⟨tv,.slice none 0 0,[],F,[],rfl,by simp,h1,ListV.nil _ _ _ _⟩,h2⟩
theorem AcS.listed {kd:Int} {nm vr:ByteArray} {av:Value} {l:List (Option Ex)} {d c:List Value} (h:AcS w p cap n a L wr X s c tv to) (hp:p<w.heap.size) (he:Eff p wr w1) (hl:Lst exE 41 1 wr.heap.size w1 av l d) :
  Itm actE (X+1) w1 [.int .i64 kd,tv,.string nm,.string vr,av] ⟨kd,to,nm,vr,l⟩:=by
 obtain⟨F,h1,h2⟩:=h.it;obtain⟨G,h3,h4⟩:=hl;have hlo:=h.lo;exact⟨F++G,⟨tv,av,d,F,G,rfl,rfl,exK.keep h1 (h2.oth he.2 (by omega)),h3⟩,h2.join h4 h.box.lt he.size⟩
theorem act_end {kd:Int} {nm vr:ByteArray} {av:Value} {x:ActE} (h:AcS w p cap n a L wr X s [.int .i64 kd,tv,.string nm,.string vr,av] tv to) (hi:Itm actE (X+1) wr [.int .i64 kd,tv,.string nm,.string vr,av] x) (hp:p<w.heap.size) (hX:w.heap.size<X) :
  ∃ c0 tv' c2 c3 c4,Ending.returned (.agg #[.int .i64 kd,tv,.string nm,.string vr,av])=.returned (.agg #[c0,tv',c2,c3,c4]) ∧
   Itm actE w.heap.size (((((wr.setCell ⟨w.heap.size,0,none⟩ (.int .i64 kd)).setCell ⟨w.heap.size,1,none⟩ tv).setCell ⟨w.heap.size,2,none⟩ (.string nm)).setCell ⟨w.heap.size,3,none⟩ (.string vr)).setCell ⟨w.heap.size,4,none⟩ av) [c0,tv',c2,c3,c4] x ∧
   St8 p cap n a L s w (((((wr.setCell ⟨w.heap.size,0,none⟩ (.int .i64 kd)).setCell ⟨w.heap.size,1,none⟩ tv).setCell ⟨w.heap.size,2,none⟩ (.string nm)).setCell ⟨w.heap.size,3,none⟩ (.string vr)).setCell ⟨w.heap.size,4,none⟩ av):=by
 have hb:∀ b,b≠w.heap.size→(((((wr.setCell ⟨w.heap.size,0,none⟩ (.int .i64 kd)).setCell ⟨w.heap.size,1,none⟩ tv).setCell ⟨w.heap.size,2,none⟩ (.string nm)).setCell ⟨w.heap.size,3,none⟩ (.string vr)).setCell ⟨w.heap.size,4,none⟩ av).heap[b]?=wr.heap[b]?:=fun b hne =>
  (Below.heap_setCell _ _ _ _ hne).trans ((Below.heap_setCell _ _ _ _ hne).trans ((Below.heap_setCell _ _ _ _ hne).trans ((Below.heap_setCell _ _ _ _ hne).trans (Below.heap_setCell _ _ _ _ hne))))
 refine⟨_,_,_,_,_,rfl,?_,?_,?_⟩
 ·exact(hi.same actK (fun b hb1 _=>hb b (by omega)) (by simp)).wide (by omega)
 ·exact h.st.same (fun b hb1=>hb b (by omega))
 ·exact((((h.eff.mine hp (Nat.le_refl _) _ _).mine hp (Nat.le_refl _) _ _).mine hp (Nat.le_refl _) _ _).mine hp (Nat.le_refl _) _ _).mine hp (Nat.le_refl _) _ _
end
def ActP (p cap n:Nat) (a:Option Addr) (L:List TokE) (R:S8 × ActE) (w:World) (e:Ending) (w':World):Prop :=
 ∃ c0 tv c2 c3 c4,e=.returned (.agg #[c0,tv,c2,c3,c4])∧Itm actE w.heap.size w' [c0,tv,c2,c3,c4] R.2∧St8 p cap n a L R.1 w w'
open Lib(hid)
set_option maxHeartbeats 8000000
theorem act8_any (p cap n:Nat) (a:Option Addr) (L:List TokE) (s:S8) (w:World) (h:DSt w p cap n a L s) :
  Calls Tryz.prog 49 #[.pointer (some ⟨p,0,none⟩)] w (ActP p cap n a L (actS L n s) w):=by
 have hlt:=h.lt;obtain⟨W0,hW0⟩:∃ W0,W0=(w.alloc (.cells #[.int .i64 0,.slice none 0 0,.string ⟨#[]⟩,.string ⟨#[]⟩,.slice none 0 0] 95)).alloc (.cells #[.int .i64 0,.slice none 0 0,.string ⟨#[]⟩,.string ⟨#[]⟩,.slice none 0 0] 95):=⟨_,rfl⟩
 have hbe:Below w.heap.size w W0:=by rw[hW0];exact((Below.refl _ w).alloc (Nat.le_refl _) _).alloc (by simp) _
 have ha0:AcS w p cap n a L W0 (w.heap.size+1) s zAct (.slice none 0 0) none:=⟨by rw[hW0];exact heap_alloc2_new _ _ _,by rw[hW0];exact heap_alloc2_old _ _ _,h.below hbe,Eff.of_below hbe hlt,ex_none _ _,Nat.lt_succ_self _⟩
 generalize hX:w.heap.size+1=X at ha0;have HA0:=hid ha0;have HW0:=hid hW0;have HEX:=hid (fun (s:S8) W (hW:DSt W p cap n a L s)=>expr8_any p cap n a L s W hW);have HWD:=hid (fun (s:S8) W (hW:DSt W p cap n a L s)=>word8_any p cap n a L s W hW);have HAR:=hid (fun (s:S8) W (hW:DSt W p cap n a L s)=>args8_any p cap n a L s W hW);have HWA:=hid (fun (s:S8) W (hW:DSt W p cap n a L s)=>want8_any p cap n a L s ⟨#[97,115]⟩ W hW);have HWS:=hid (fun (s:S8) W (hW:DSt W p cap n a L s)=>want8_any p cap n a L s ⟨#[59]⟩ W hW);have HFL:=hid (fun W (hW:DSt W p cap n a L s)=>fail8_any p cap n a L s s.k 80 (by omega) W hW);unfold ExprP at HEX;unfold ListP at HAR;unfold ActP;obtain⟨R,hR⟩:∃ R,R=actS L n s:=⟨_,rfl⟩
 rw[← hR];clear h hW0 hbe ha0;rcases Bool.eq_false_or_eq_true (isB L s ⟨#[115,101,110,100]⟩) with h1|h1
 ·have HY:=hid h1;have HQ:Hid (R=(wantS L n (argsS L n (wordS L n (exprS L n (nextS s)).1).1).1 ⟨#[59]⟩,⟨1,(exprS L n (nextS s)).2,(wordS L n (exprS L n (nextS s)).1).2,⟨#[]⟩,(argsS L n (wordS L n (exprS L n (nextS s)).1).1).2⟩)):=hid (by rw[hR];unfold actS doneS;simp only[h1,if_true];rfl);clear h1 hR;go_enter Tryz.func49,Tryz.ntmps49;go_upto_region 2 with (fail);rw[← HW0.out];go_upto_region 3 with (first
   | (go_at_call 26;(with_reducible refine(take8_yes HA0.out.st HY.out).mono ?_);rintro e w1 ⟨rfl,hs⟩;have HA1:=hid (HA0.out.step hlt hs.1 hs.2);have cc:=HA1.out.box.c 0 rfl;have ff:=HA1.out.box.fz 0;clear hs))
  go_upto_region 4 with (fail);have HA2:=hid (HA1.out.set hlt 0 (.int .i64 1));generalize w1.setCell ⟨X,0,none⟩ (.int .i64 1)=w2 at HA2 ⊢;clear cc ff;go_upto_region 5 with (go_at_call 48;(with_reducible refine(HEX.out _ _ HA2.out.st).mono ?_);rintro e w3 ⟨v,rfl,hit,hs⟩;obtain⟨ad,m,c,rfl⟩:=ex_slice hit;have HA3:=hid (HA2.out.expr hlt hit hs.1 hs.2);have cc:=HA3.out.box.c 1 rfl;have ff:=HA3.out.box.fz 1;clear hit hs);have HA4:=hid (HA3.out.set hlt 1 (.slice ad m c));generalize w3.setCell ⟨X,1,none⟩ (.slice ad m c)=w4 at HA4 ⊢;clear cc ff;go_upto_region 6 with (go_at_call 29;(with_reducible refine(HWD.out _ _ HA4.out.st).mono ?_);rintro e w5 ⟨rfl,hs⟩;have HA5:=hid (HA4.out.step hlt hs.1 hs.2);have cc:=HA5.out.box.c 2 rfl;have ff:=HA5.out.box.fz 2;clear hs);have HA6:=hid (HA5.out.set hlt 2 (.string (wordS L n (exprS L n (nextS s)).1).2));generalize w5.setCell ⟨X,2,none⟩ (.string (wordS L n (exprS L n (nextS s)).1).2)=w6 at HA6 ⊢;clear cc ff;go_upto_region 19 with (go_at_call 72;(with_reducible refine(HAR.out _ _ HA6.out.st).mono ?_);rintro e w7 ⟨v4,cs4,rfl,hl,hs⟩;obtain⟨ad4,cp4,rfl⟩:=list_slice hl;have HA7:=hid (HA6.out.step hlt hs.1 hs.2);have HIL:=hid (HA6.out.listed hlt hs.2 hl (kd:=1) (nm:=(wordS L n (exprS L n (nextS s)).1).2) (vr:=⟨#[]⟩));have cc:=HA7.out.box.c 4 rfl;have ff:=HA7.out.box.fz 4;clear hl hs);have HA8:=hid (HA7.out.set hlt 4 (.slice ad4 (argsS L n (wordS L n (exprS L n (nextS s)).1).1).2.length cp4));have HIM:=hid (HIL.out.same (w':=w7.setCell ⟨X,4,none⟩ (.slice ad4 (argsS L n (wordS L n (exprS L n (nextS s)).1).1).2.length cp4)) actK (fun b hb1 _=>Below.heap_setCell _ _ _ _ (by show b≠X;omega)) (by simp));generalize w7.setCell ⟨X,4,none⟩ (.slice ad4 (argsS L n (wordS L n (exprS L n (nextS s)).1).1).2.length cp4)=w8 at HA8 HIM ⊢;clear cc ff;have HIT:=hid (HIM.out);have HWN:=hid (HWS.out _ _ HA8.out.st);go_wp2_with (go_at_call 28;(with_reducible refine HWN.out.mono ?_);rintro e w9 ⟨rfl,hs⟩;have HA9:=hid ((HA8.out).step hlt hs.1 hs.2);have HI9:=hid (HIT.out.keep actK hs.2.2 (by omega));clear hs;have x0:=HA9.out.box.c 0 rfl;have x1:=HA9.out.box.c 1 rfl;have x2:=HA9.out.box.c 2 rfl;have x3:=HA9.out.box.c 3 rfl;have x4:=HA9.out.box.c 4 rfl;have r0:=HA9.out.res.c 0 rfl;have r1:=HA9.out.res.c 1 rfl;have r2:=HA9.out.res.c 2 rfl;have r3:=HA9.out.res.c 3 rfl;have r4:=HA9.out.res.c 4 rfl;have z0:=HA9.out.res.fz 0;have z1:=HA9.out.res.fz 1;have z2:=HA9.out.res.fz 2;have z3:=HA9.out.res.fz 3;have z4:=HA9.out.res.fz 4);refine bodyPost_ret (actRes8 rfl rfl (bx_set5 HA9.out.res)) rfl ?_;rw[HQ.out];exact act_end HA9.out HI9.out hlt (by omega)
 rcases Bool.eq_false_or_eq_true (isB L s ⟨#[115,112,97,119,110]⟩) with h2|h2
 ·have HY:=hid h2;have HN1:=hid h1;have HQ:Hid (R=(wantS L n (wordS L n (wantS L n (wordS L n (nextS s)).1 ⟨#[97,115]⟩)).1 ⟨#[59]⟩,⟨2,none,(wordS L n (nextS s)).2,(wordS L n (wantS L n (wordS L n (nextS s)).1 ⟨#[97,115]⟩)).2,[]⟩)):=hid (by rw[hR];unfold actS doneS;simp only[h1,h2,if_true,Bool.false_eq_true,if_false];rfl);clear h1 h2 hR;go_enter Tryz.func49,Tryz.ntmps49;go_upto_region 2 with (fail);rw[← HW0.out];go_upto_region 8 with (first
   | (go_at_call 26;(with_reducible refine(take8_no HA0.out.st HN1.out).mono ?_);rintro e w1 ⟨rfl,hs⟩;have HA1:=hid (HA0.out.step hlt hs.1 hs.2);clear hs)
   | (go_at_call 26;(with_reducible refine(take8_yes HA1.out.st HY.out).mono ?_);rintro e w2 ⟨rfl,hs⟩;have HA2:=hid (HA1.out.step hlt hs.1 hs.2);have cc:=HA2.out.box.c 0 rfl;have ff:=HA2.out.box.fz 0;clear hs))
  go_upto_region 9 with (fail);have HA3:=hid (HA2.out.set hlt 0 (.int .i64 2));generalize w2.setCell ⟨X,0,none⟩ (.int .i64 2)=w3 at HA3 ⊢;clear cc ff;go_upto_region 10 with (go_at_call 29;(with_reducible refine(HWD.out _ _ HA3.out.st).mono ?_);rintro e w4 ⟨rfl,hs⟩;have HA4:=hid (HA3.out.step hlt hs.1 hs.2);have cc:=HA4.out.box.c 2 rfl;have ff:=HA4.out.box.fz 2;clear hs);have HA5:=hid (HA4.out.set hlt 2 (.string (wordS L n (nextS s)).2));generalize w4.setCell ⟨X,2,none⟩ (.string (wordS L n (nextS s)).2)=w5 at HA5 ⊢;clear cc ff;go_upto_region 11 with (go_at_call 28;(with_reducible refine(HWA.out _ _ HA5.out.st).mono ?_);rintro e w6 ⟨rfl,hs⟩;have HA6:=hid (HA5.out.step hlt hs.1 hs.2);clear hs);go_upto_region 19 with (go_at_call 29;(with_reducible refine(HWD.out _ _ HA6.out.st).mono ?_);rintro e w7 ⟨rfl,hs⟩;have HA7:=hid (HA6.out.step hlt hs.1 hs.2);have cc:=HA7.out.box.c 3 rfl;have ff:=HA7.out.box.fz 3;clear hs);have HA8:=hid (HA7.out.set hlt 3 (.string (wordS L n (wantS L n (wordS L n (nextS s)).1 ⟨#[97,115]⟩)).2));generalize w7.setCell ⟨X,3,none⟩ (.string (wordS L n (wantS L n (wordS L n (nextS s)).1 ⟨#[97,115]⟩)).2)=w8 at HA8 ⊢;clear cc ff;have HIT:=hid (HA8.out.item (kd:=2) (nm:=(wordS L n (nextS s)).2) (vr:=(wordS L n (wantS L n (wordS L n (nextS s)).1 ⟨#[97,115]⟩)).2));have HWN:=hid (HWS.out _ _ HA8.out.st);go_wp2_with (go_at_call 28;(with_reducible refine HWN.out.mono ?_);rintro e w9 ⟨rfl,hs⟩;have HA9:=hid ((HA8.out).step hlt hs.1 hs.2);have HI9:=hid (HIT.out.keep actK hs.2.2 (by omega));clear hs;have x0:=HA9.out.box.c 0 rfl;have x1:=HA9.out.box.c 1 rfl;have x2:=HA9.out.box.c 2 rfl;have x3:=HA9.out.box.c 3 rfl;have x4:=HA9.out.box.c 4 rfl;have r0:=HA9.out.res.c 0 rfl;have r1:=HA9.out.res.c 1 rfl;have r2:=HA9.out.res.c 2 rfl;have r3:=HA9.out.res.c 3 rfl;have r4:=HA9.out.res.c 4 rfl;have z0:=HA9.out.res.fz 0;have z1:=HA9.out.res.fz 1;have z2:=HA9.out.res.fz 2;have z3:=HA9.out.res.fz 3;have z4:=HA9.out.res.fz 4);refine bodyPost_ret (actRes8 rfl rfl (bx_set5 HA9.out.res)) rfl ?_;rw[HQ.out];exact act_end HA9.out HI9.out hlt (by omega)
 rcases Bool.eq_false_or_eq_true (isB L s ⟨#[114,101,112,108,121]⟩) with h3|h3
 ·have HY:=hid h3;have HN1:=hid h1;have HN2:=hid h2;have HQ:Hid (R=(wantS L n (argsS L n (nextS s)).1 ⟨#[59]⟩,⟨3,none,⟨#[]⟩,⟨#[]⟩,(argsS L n (nextS s)).2⟩)):=hid (by rw[hR];unfold actS doneS;simp only[h1,h2,h3,if_true,Bool.false_eq_true,if_false];rfl);clear h1 h2 h3 hR;go_enter Tryz.func49,Tryz.ntmps49;go_upto_region 2 with (fail);rw[← HW0.out];go_upto_region 13 with (first
   | (go_at_call 26;(with_reducible refine(take8_no HA0.out.st HN1.out).mono ?_);rintro e w1 ⟨rfl,hs⟩;have HA1:=hid (HA0.out.step hlt hs.1 hs.2);clear hs)
   | (go_at_call 26;(with_reducible refine(take8_no HA1.out.st HN2.out).mono ?_);rintro e w2 ⟨rfl,hs⟩;have HA2:=hid (HA1.out.step hlt hs.1 hs.2);clear hs)
   | (go_at_call 26;(with_reducible refine(take8_yes HA2.out.st HY.out).mono ?_);rintro e w3 ⟨rfl,hs⟩;have HA3:=hid (HA2.out.step hlt hs.1 hs.2);have cc:=HA3.out.box.c 0 rfl;have ff:=HA3.out.box.fz 0;clear hs))
  go_upto_region 14 with (fail);have HA4:=hid (HA3.out.set hlt 0 (.int .i64 3));generalize w3.setCell ⟨X,0,none⟩ (.int .i64 3)=w4 at HA4 ⊢;clear cc ff;go_upto_region 19 with (go_at_call 72;(with_reducible refine(HAR.out _ _ HA4.out.st).mono ?_);rintro e w5 ⟨v4,cs4,rfl,hl,hs⟩;obtain⟨ad4,cp4,rfl⟩:=list_slice hl;have HA5:=hid (HA4.out.step hlt hs.1 hs.2);have HIL:=hid (HA4.out.listed hlt hs.2 hl (kd:=3) (nm:=⟨#[]⟩) (vr:=⟨#[]⟩));have cc:=HA5.out.box.c 4 rfl;have ff:=HA5.out.box.fz 4;clear hl hs);have HA6:=hid (HA5.out.set hlt 4 (.slice ad4 (argsS L n (nextS s)).2.length cp4));have HIM:=hid (HIL.out.same (w':=w5.setCell ⟨X,4,none⟩ (.slice ad4 (argsS L n (nextS s)).2.length cp4)) actK (fun b hb1 _=>Below.heap_setCell _ _ _ _ (by show b≠X;omega)) (by simp));generalize w5.setCell ⟨X,4,none⟩ (.slice ad4 (argsS L n (nextS s)).2.length cp4)=w6 at HA6 HIM ⊢;clear cc ff;have HIT:=hid (HIM.out);have HWN:=hid (HWS.out _ _ HA6.out.st);go_wp2_with (go_at_call 28;(with_reducible refine HWN.out.mono ?_);rintro e w9 ⟨rfl,hs⟩;have HA9:=hid ((HA6.out).step hlt hs.1 hs.2);have HI9:=hid (HIT.out.keep actK hs.2.2 (by omega));clear hs;have x0:=HA9.out.box.c 0 rfl;have x1:=HA9.out.box.c 1 rfl;have x2:=HA9.out.box.c 2 rfl;have x3:=HA9.out.box.c 3 rfl;have x4:=HA9.out.box.c 4 rfl;have r0:=HA9.out.res.c 0 rfl;have r1:=HA9.out.res.c 1 rfl;have r2:=HA9.out.res.c 2 rfl;have r3:=HA9.out.res.c 3 rfl;have r4:=HA9.out.res.c 4 rfl;have z0:=HA9.out.res.fz 0;have z1:=HA9.out.res.fz 1;have z2:=HA9.out.res.fz 2;have z3:=HA9.out.res.fz 3;have z4:=HA9.out.res.fz 4);refine bodyPost_ret (actRes8 rfl rfl (bx_set5 HA9.out.res)) rfl ?_;rw[HQ.out];exact act_end HA9.out HI9.out hlt (by omega)
 rcases Bool.eq_false_or_eq_true (isB L s ⟨#[98,101,99,111,109,101]⟩) with h4|h4
 ·have HY:=hid h4;have HN1:=hid h1;have HN2:=hid h2;have HN3:=hid h3;have HQ:Hid (R=(wantS L n (wordS L n (nextS s)).1 ⟨#[59]⟩,⟨4,none,(wordS L n (nextS s)).2,⟨#[]⟩,[]⟩)):=hid (by rw[hR];unfold actS doneS;simp only[h1,h2,h3,h4,if_true,Bool.false_eq_true,if_false];rfl);clear h1 h2 h3 h4 hR;go_enter Tryz.func49,Tryz.ntmps49;go_upto_region 2 with (fail);rw[← HW0.out];go_upto_region 16 with (first
   | (go_at_call 26;(with_reducible refine(take8_no HA0.out.st HN1.out).mono ?_);rintro e w1 ⟨rfl,hs⟩;have HA1:=hid (HA0.out.step hlt hs.1 hs.2);clear hs)
   | (go_at_call 26;(with_reducible refine(take8_no HA1.out.st HN2.out).mono ?_);rintro e w2 ⟨rfl,hs⟩;have HA2:=hid (HA1.out.step hlt hs.1 hs.2);clear hs)
   | (go_at_call 26;(with_reducible refine(take8_no HA2.out.st HN3.out).mono ?_);rintro e w3 ⟨rfl,hs⟩;have HA3:=hid (HA2.out.step hlt hs.1 hs.2);clear hs)
   | (go_at_call 26;(with_reducible refine(take8_yes HA3.out.st HY.out).mono ?_);rintro e w4 ⟨rfl,hs⟩;have HA4:=hid (HA3.out.step hlt hs.1 hs.2);have cc:=HA4.out.box.c 0 rfl;have ff:=HA4.out.box.fz 0;clear hs))
  go_upto_region 17 with (fail);have HA5:=hid (HA4.out.set hlt 0 (.int .i64 4));generalize w4.setCell ⟨X,0,none⟩ (.int .i64 4)=w5 at HA5 ⊢;clear cc ff;go_upto_region 19 with (go_at_call 29;(with_reducible refine(HWD.out _ _ HA5.out.st).mono ?_);rintro e w6 ⟨rfl,hs⟩;have HA6:=hid (HA5.out.step hlt hs.1 hs.2);have cc:=HA6.out.box.c 2 rfl;have ff:=HA6.out.box.fz 2;clear hs);have HA7:=hid (HA6.out.set hlt 2 (.string (wordS L n (nextS s)).2));generalize w6.setCell ⟨X,2,none⟩ (.string (wordS L n (nextS s)).2)=w7 at HA7 ⊢;clear cc ff;have HIT:=hid (HA7.out.item (kd:=4) (nm:=(wordS L n (nextS s)).2) (vr:=⟨#[]⟩));have HWN:=hid (HWS.out _ _ HA7.out.st);go_wp2_with (go_at_call 28;(with_reducible refine HWN.out.mono ?_);rintro e w9 ⟨rfl,hs⟩;have HA9:=hid ((HA7.out).step hlt hs.1 hs.2);have HI9:=hid (HIT.out.keep actK hs.2.2 (by omega));clear hs;have x0:=HA9.out.box.c 0 rfl;have x1:=HA9.out.box.c 1 rfl;have x2:=HA9.out.box.c 2 rfl;have x3:=HA9.out.box.c 3 rfl;have x4:=HA9.out.box.c 4 rfl;have r0:=HA9.out.res.c 0 rfl;have r1:=HA9.out.res.c 1 rfl;have r2:=HA9.out.res.c 2 rfl;have r3:=HA9.out.res.c 3 rfl;have r4:=HA9.out.res.c 4 rfl;have z0:=HA9.out.res.fz 0;have z1:=HA9.out.res.fz 1;have z2:=HA9.out.res.fz 2;have z3:=HA9.out.res.fz 3;have z4:=HA9.out.res.fz 4);refine bodyPost_ret (actRes8 rfl rfl (bx_set5 HA9.out.res)) rfl ?_;rw[HQ.out];exact act_end HA9.out HI9.out hlt (by omega)
 ·have HN1:=hid h1;have HN2:=hid h2;have HN3:=hid h3;have HN4:=hid h4;have HQ:Hid (R=(wantS L n (failS L n s s.k 80) ⟨#[59]⟩,⟨0,none,⟨#[]⟩,⟨#[]⟩,[]⟩)):=hid (by rw[hR];unfold actS doneS;simp only[h1,h2,h3,h4,Bool.false_eq_true,if_false];rfl);clear h1 h2 h3 h4 hR;go_enter Tryz.func49,Tryz.ntmps49;go_upto_region 2 with (fail);rw[← HW0.out];go_upto_region 18 with (first
   | (go_at_call 26;(with_reducible refine(take8_no HA0.out.st HN1.out).mono ?_);rintro e w1 ⟨rfl,hs⟩;have HA1:=hid (HA0.out.step hlt hs.1 hs.2);clear hs)
   | (go_at_call 26;(with_reducible refine(take8_no HA1.out.st HN2.out).mono ?_);rintro e w2 ⟨rfl,hs⟩;have HA2:=hid (HA1.out.step hlt hs.1 hs.2);clear hs)
   | (go_at_call 26;(with_reducible refine(take8_no HA2.out.st HN3.out).mono ?_);rintro e w3 ⟨rfl,hs⟩;have HA3:=hid (HA2.out.step hlt hs.1 hs.2);clear hs)
   | (go_at_call 26;(with_reducible refine(take8_no HA3.out.st HN4.out).mono ?_);rintro e w4 ⟨rfl,hs⟩;have HA4:=hid (HA3.out.step hlt hs.1 hs.2);clear hs))
  have cc:=HA4.out.st.cells.2.1;go_upto_region 19 with (go_at_call 36;(with_reducible refine(HFL.out _ HA4.out.st).mono ?_);rintro e w5 ⟨rfl,h1,h2⟩;have HA5:=hid (HA4.out.step hlt h1 h2);clear h1 h2);have HIT:=hid (HA5.out.item (kd:=0) (nm:=⟨#[]⟩) (vr:=⟨#[]⟩));have HWN:=hid (HWS.out _ _ HA5.out.st);go_wp2_with (go_at_call 28;(with_reducible refine HWN.out.mono ?_);rintro e w9 ⟨rfl,hs⟩;have HA9:=hid ((HA5.out).step hlt hs.1 hs.2);have HI9:=hid (HIT.out.keep actK hs.2.2 (by omega));clear hs;have x0:=HA9.out.box.c 0 rfl;have x1:=HA9.out.box.c 1 rfl;have x2:=HA9.out.box.c 2 rfl;have x3:=HA9.out.box.c 3 rfl;have x4:=HA9.out.box.c 4 rfl;have r0:=HA9.out.res.c 0 rfl;have r1:=HA9.out.res.c 1 rfl;have r2:=HA9.out.res.c 2 rfl;have r3:=HA9.out.res.c 3 rfl;have r4:=HA9.out.res.c 4 rfl;have z0:=HA9.out.res.fz 0;have z1:=HA9.out.res.fz 1;have z2:=HA9.out.res.fz 2;have z3:=HA9.out.res.fz 3;have z4:=HA9.out.res.fz 4);refine bodyPost_ret (actRes8 rfl rfl (bx_set5 HA9.out.res)) rfl ?_;rw[HQ.out];exact act_end HA9.out HI9.out hlt (by omega)
theorem infoPt8:(Tryz.prog.info? 90).map (fun i=>(i.zero,i.size,i.bytes))=some (some (.agg #[.string ⟨#[]⟩,.slice none 0 0]),2,40):=by kernel_rfl
theorem infoAc8:(Tryz.prog.info? 95).map (fun i=>(i.zero,i.size,i.bytes))=some (some (.agg #[.int .i64 0,.slice none 0 0,.string ⟨#[]⟩,.string ⟨#[]⟩,.slice none 0 0]),5,88):=by kernel_rfl
theorem part_slice {lo:Nat} {w:World} {t:ByteArray} {v:Value} {x:PartE} (h:Itm partE lo w [.string t,v] x):∃ ad m c,v=.slice ad m c:=by
 obtain⟨F,⟨v',d,hc,hl⟩,_⟩:=h;cases hc;rcases hl.row.2 with ⟨rfl,_⟩|⟨g,cap,cur,rfl,_⟩
 ·exact⟨_,_,_,rfl⟩
 ·exact⟨_,_,_,rfl⟩
theorem act_form {lo:Nat} {w:World} {c0 tv c2 c3 c4:Value} {x:ActE} (h:Itm actE lo w [c0,tv,c2,c3,c4] x):∃ ad m c ad' m' c',c0=.int .i64 x.kd∧tv=.slice ad m c∧c2=.string x.nm∧c3=.string x.vr∧c4=.slice ad' m' c':=by
 obtain⟨F,⟨tv',av,d,F1,F2,hc,_,⟨v,hv,_,hr⟩,hl⟩,_⟩:=h;cases hc;cases hv;have h1:∃ ad m c,tv=.slice ad m c:=by
  rcases hr.2 with ⟨rfl,_⟩|⟨g,cap,cur,rfl,_⟩
  ·exact⟨_,_,_,rfl⟩
  ·exact⟨_,_,_,rfl⟩
 have h2:∃ ad m c,c4=.slice ad m c:=by
  rcases hl.row.2 with ⟨rfl,_⟩|⟨g,cap,cur,rfl,_⟩
  ·exact⟨_,_,_,rfl⟩
  ·exact⟨_,_,_,rfl⟩
 obtain⟨ad,m,c,rfl⟩:=h1;obtain⟨ad',m',c',rfl⟩:=h2;exact⟨_,_,_,_,_,_,rfl,rfl,rfl,rfl,rfl⟩
def PgS (wr:World) (lo hi:Nat) (pv gv:Value) (ps:List PartE) (g:Option Ex):Prop :=
 ∃ F1 F2 dp,ListV partE 90 2 wr F1 pv ps dp∧exE wr F2 [gv] g∧(F1++F2).Nodup∧∀ b ∈ F1++F2,lo≤b∧b<hi
theorem PgS.keep {wr w1:World} {lo hi:Nat} {pv gv:Value} {ps:List PartE} {g:Option Ex} (h:PgS wr lo hi pv gv ps g) (hs:∀ b,lo≤b→b<hi→w1.heap[b]?=wr.heap[b]?):PgS w1 lo hi pv gv ps g:=by
 obtain⟨F1,F2,dp,h1,h2,h3,h4⟩:=h;have hsb:SameB (F1++F2) wr w1:=fun b hb=>hs b (h4 b hb).1 (h4 b hb).2;exact⟨F1,F2,dp,h1.keep partK hsb.left,exK.keep h2 hsb.right,h3,h4⟩
theorem PgS.mono {wr:World} {lo hi hi':Nat} {pv gv:Value} {ps:List PartE} {g:Option Ex} (h:PgS wr lo hi pv gv ps g) (hh:hi≤hi'):PgS wr lo hi' pv gv ps g:=by
 obtain⟨F1,F2,dp,h1,h2,h3,h4⟩:=h;exact⟨F1,F2,dp,h1,h2,h3,fun b hb=>by have:=h4 b hb;omega⟩
theorem PgS.of {wr w1:World} {lo p:Nat} {pv gv:Value} {ps:List PartE} {g:Option Ex} {dp:List Value} (h:Lst partE 90 2 lo wr pv ps dp) (hg:Itm exE wr.heap.size w1 [gv] g) (ho:Oth p wr w1) (hp:p<lo) (hlo:lo≤wr.heap.size):PgS w1 lo w1.heap.size pv gv ps g:=by
 obtain⟨F1,h1,h2⟩:=h;obtain⟨F2,h3,h4⟩:=hg;have hj:=h2.join h4 hlo ho.1;exact⟨F1,F2,dp,h1.keep partK (h2.oth ho hp),h3,hj.uniq,hj.lies⟩
theorem PgS.chord {wr:World} {lo hi:Nat} {pv gv bv:Value} {ps:List PartE} {g:Option Ex} {l:List ActE} {d:List Value} {nm:ByteArray} (h:PgS wr lo hi pv gv ps g) (hl:Lst actE 95 5 hi wr bv l d) (hlo:lo≤hi) (hw:hi≤wr.heap.size) :
  Itm chordE lo wr [.string nm,pv,gv,bv] ⟨nm,ps,g,l⟩:=by
 obtain⟨F1,F2,dp,h1,h2,h3,h4⟩:=h;obtain⟨F3,h5,h6⟩:=hl;refine⟨F1++(F2++F3),⟨pv,gv,bv,dp,d,F1,F2,F3,rfl,rfl,h1,h2,h5⟩,?_,fun b hb=>?_⟩
 ·rw[← List.append_assoc];refine List.nodup_append.2 ⟨h3,h6.uniq,fun a ha b hb e=>?_⟩;subst e;have:=h4 a ha;have:=h6.lies a hb;omega
 ·rw[← List.append_assoc] at hb;rcases List.mem_append.1 hb with hb|hb
  ·have:=h4 b hb;omega
  ·have:=h6.lies b hb;omega
theorem chordRes8 {fn:Func} {p:Tmp} {tmps:Array Value} {W:World} {g:Nat} {c0 c1 c2 c3:Value} (hf:fn.results=#[.cell p 44]) (hp:tmps.getD p undef=.pointer (some ⟨g,0,none⟩)) (h:Bx W g 44 [c0,c1,c2,c3]) :
  (results fn tmps).run Tryz.prog W=.ok (.agg #[c0,c1,c2,c3]) W:=results_cell_row hf _ _ g 44 _ (0,0) _ hp h Tryz.underlying44 rfl (by kernel_rfl)
def zCh:List Value:=[.string ⟨#[]⟩,.slice none 0 0,.slice none 0 0,.slice none 0 0]
def ChordP (p cap n:Nat) (a:Option Addr) (L:List TokE) (R:S8 × ChordE) (w:World) (e:Ending) (w':World):Prop :=
 ∃ pv gv bv,e=.returned (.agg #[.string R.2.nm,pv,gv,bv])∧Itm chordE w.heap.size w' [.string R.2.nm,pv,gv,bv] R.2∧St8 p cap n a L R.1 w w'
theorem bx_set4 {W:World} {g:Nat} {T:TypeId} {v0 v1 v2 v3 a b c d:Value} (h:Bx W g T [v0,v1,v2,v3]) :
  Bx ((((W.setCell ⟨g,0,none⟩ a).setCell ⟨g,1,none⟩ b).setCell ⟨g,2,none⟩ c).setCell ⟨g,3,none⟩ d) g T [a,b,c,d] :=
 (((h.set 0 a).set 1 b).set 2 c).set 3 d
theorem chord_end {w wr:World} {p cap n lo:Nat} {a:Option Addr} {L:List TokE} {s:S8} {nm:ByteArray} {pv gv bv:Value} {x:ChordE} (hi:Itm chordE lo wr [.string nm,pv,gv,bv] x) (hs:DSt wr p cap n a L s) (he:Eff p w wr) (hp:p<w.heap.size) (hlo:w.heap.size<lo) (hn:x.nm=nm) :
  ∃ pv' gv' bv',Ending.returned (.agg #[.string nm,pv,gv,bv])=.returned (.agg #[.string x.nm,pv',gv',bv']) ∧
   Itm chordE w.heap.size ((((wr.setCell ⟨w.heap.size,0,none⟩ (.string nm)).setCell ⟨w.heap.size,1,none⟩ pv).setCell ⟨w.heap.size,2,none⟩ gv).setCell ⟨w.heap.size,3,none⟩ bv) [.string x.nm,pv',gv',bv'] x ∧
   St8 p cap n a L s w ((((wr.setCell ⟨w.heap.size,0,none⟩ (.string nm)).setCell ⟨w.heap.size,1,none⟩ pv).setCell ⟨w.heap.size,2,none⟩ gv).setCell ⟨w.heap.size,3,none⟩ bv):=by
 subst hn;have hb:∀ b,b≠w.heap.size→((((wr.setCell ⟨w.heap.size,0,none⟩ (.string x.nm)).setCell ⟨w.heap.size,1,none⟩ pv).setCell ⟨w.heap.size,2,none⟩ gv).setCell ⟨w.heap.size,3,none⟩ bv).heap[b]?=wr.heap[b]?:=fun b hne =>
  (Below.heap_setCell _ _ _ _ hne).trans ((Below.heap_setCell _ _ _ _ hne).trans ((Below.heap_setCell _ _ _ _ hne).trans (Below.heap_setCell _ _ _ _ hne)))
 refine⟨_,_,_,rfl,?_,?_,?_⟩
 ·exact(hi.same chordK (fun b hb1 _=>hb b (by omega)) (by simp)).wide (by omega)
 ·exact hs.same (fun b hb1=>hb b (by omega))
 ·exact(((he.mine hp (Nat.le_refl _) _ _).mine hp (Nat.le_refl _) _ _).mine hp (Nat.le_refl _) _ _).mine hp (Nat.le_refl _) _ _
end Go.Proofs.YtkpboalccpancaaGreatDoor
