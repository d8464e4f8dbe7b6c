import Derived.Test.YtenlhcgpajphhaaGreatDoorMDrTag
import Derived.Test.YtenlhcgpajphhaaGreatDoorMDpRead
namespace Go.Proofs.YtenlhcgpajphhaaGreatDoor
open Go.RowKit Go.Shelf
open Lib(hid)
set_option maxRecDepth 100000
set_option linter.all false
set_option maxHeartbeats 8000000
theorem Lst.put {α:Type} {E:Shp α} {T:TypeId} {sz lo:Nat} {w:World} {v:Value} {l:List α} {cs:List Value} (ke:KE E sz) (h:Lst E T sz lo w v l cs) {X:Nat} (h2:X<lo) (j:Nat) (u:Value):Lst E T sz lo (w.setCell ⟨X,j,none⟩ u) v l cs:=by
 obtain⟨F,hl,hg⟩:=h;exact⟨F,hl.keep ke (fun b hb=>Below.heap_setCell _ _ _ _ (by have:=hg.lies b hb;show b≠X;omega)),hg.wide (Nat.le_refl _) (by simp)⟩
theorem PSt.put {w:World} {p cap n:Nat} {a:Option Addr} {L:List TokE} {s:S8} (h:PSt w p cap n a L s) {X:Nat} (hX:p<X) (j:Nat) (u:Value):PSt (w.setCell ⟨X,j,none⟩ u) p cap n a L s:=h.same (fun b hb=>Below.heap_setCell _ _ _ _ (by show b≠X;omega))
abbrev TagV (w:World) (x:TagE) (e:Ending) (w':World):Prop:=∃ v,e=.returned (.agg #[.string x.nm,v])∧Itm qk7 w.heap.size w' [.string x.nm,v] x
theorem q0G (p cap n:Nat) (a:Option Addr) (L:List TokE) (s:S8) (w:World) (h:PSt w p cap n a L s) :
  Calls Tryz.prog 68 #[.pointer (some ⟨p,0,none⟩)] w (Go8 p cap n a L (qmL L n s).1 (TagV w (qmL L n s).2) w):=by
 have hmf:∀ (fn:Fn) (first cap:Array Value) (w:World),(Instr.makeFunc fn first cap).run Tryz.prog w=.ok (.func fn first cap) w:=fun _ _ _ _=>rfl;obtain⟨W0,hW0,hx0,hb0⟩:∃ W0,W0=w.alloc (.cells #[.string ⟨#[]⟩,.slice none 0 0] 78)∧Bx W0 w.heap.size 78 [.string ⟨#[]⟩,.slice none 0 0]∧Below w.heap.size w W0:=⟨_,rfl,Bx.new w 78 [.string ⟨#[]⟩,.slice none 0 0],(Below.refl _ w).alloc (Nat.le_refl _) _⟩
 have hz:W0.heap.size=w.heap.size+1:=by rw[hW0];simp
 have hlt:=h.lt;have hst:=h.below hb0;have HWD:=hid (qd9 p cap n a L s W0 hst);have HE0:=hid (Eff.of_below hb0 hlt);have HW0:=hid hW0;have HG0:=hid hx0;obtain⟨R,hR⟩:∃ R,R=qmL L n s:=⟨_,rfl⟩
 rw[← hR];unfold Go8;unfold qmL at hR;generalize qaV L n s=wd at hR HWD;have HLI:=hid (fun W (hW:PSt W p cap n a L wd.1)=>qxF p cap n a L wd.1 W hW);unfold qj9 at HLI;have h1:wd.1.bad≠0→(qcQ L n (qdK L n) wd.1).1=wd.1:=fun hb=>qkY (fun _=>qpA) hb;generalize qcQ L n (qdK L n) wd.1=ls at hR HLI h1;have HWS:=hid (fun W (hW:PSt W p cap n a L ls.1)=>qaW p cap n a L ls.1 ⟨#[59]⟩ W hW);have h2:ls.1.bad≠0→qa7 L n ls.1 ⟨#[59]⟩=ls.1:=fun hb=>qdN hb _;generalize qa7 L n ls.1 ⟨#[59]⟩=s9 at hR HWS h2;have HK1:Hid (wd.1.bad≠0→R.1=wd.1):=hid (fun hb=>by
  have e:=h1 hb;rw[hR];simp only;rw[h2 (by rw[e];exact hb),e])
 have HK2:Hid (ls.1.bad≠0→R.1=ls.1):=hid (fun hb=>by
  rw[hR];exact h2 hb)
 have HR:=hid hR;have hGp:w.heap.size≠p:=by omega
 clear h hst hW0 hx0 hb0 hR h1 h2;go_enter Tryz.func68,Tryz.ntmps68;go_upto_region 1 with (fail);rw[← HW0.out];go_upto_region 2 with (go_at_call 73;(with_reducible refine(HWD.out).mono ?_);rintro e w1 ⟨hg,he⟩;have HE1:=hid he;clear he;replace hg:=Or.symm hg;rcases hg with ⟨hg,rfl⟩|⟨rfl,hg⟩ <;> (have HG1:=hid hg;clear hg;try unfold qb0))
 ·rw[HK1.out HG1.out];exact⟨rfl,.inr ⟨HG1.out,rfl⟩,HE0.out.trans HE1.out⟩
 obtain⟨W1,hW1⟩:∃ W1,W1=w1.alloc (.cells #[.string wd.2,.slice none 0 0] 78):=⟨_,rfl⟩
 have hb1:Below w1.heap.size w1 W1:=by rw[hW1];exact(Below.refl _ w1).alloc (Nat.le_refl _) _
 have hz1:W1.heap.size=w1.heap.size+1:=by rw[hW1];simp
 have HX1:=hid (show Bx W1 w1.heap.size 78 [.string wd.2,.slice none 0 0] by rw[hW1];exact Bx.new w1 _ _);have HB1:=hid ((HG0.out.oth HE1.out.2 hGp).keep hb1 (by have:=HE1.out.size;omega));have HST1:=hid (HG1.out.below hb1);have HE2:=hid ((HE0.out.trans HE1.out).trans (Eff.of_below hb1 (by have:=HE1.out.size;omega)));have hX1:w.heap.size<w1.heap.size:=by have:=HE1.out.size;omega
 rw[← hW1];have HLW:=hid (HLI.out W1 HST1.out);have HZ1:=hid hz1;generalize w1.heap.size=X at HX1 hX1 hz1 ⊢;have hXp:X≠p:=by omega
 have hGX:w.heap.size≠X:=by omega
 clear hW1 hb1 HG1 HE1 HE0 HWD HG0 HK1 HLI;go_upto_region 3 with (go_at_call 105;(with_reducible refine HLW.out.mono ?_);rintro e w2 ⟨hg,he⟩;have HE3:=hid he;clear he;replace hg:=Or.symm hg;rcases hg with ⟨hg,rfl⟩|⟨⟨v,cs,rfl,hl⟩,hg⟩ <;> first|(obtain⟨ad,cp,rfl⟩:=qeB hl;have HL2:=hid hl;have HG2:=hid hg;clear hg hl;have HX2:=hid (HX1.out.oth HE3.out.2 hXp);have HB2:=hid (HB1.out.oth HE3.out.2 hGp);have y1:=HX2.out.c 1 rfl;have y1f:=HX2.out.fz 1)|(have HG2:=hid hg;clear hg;try unfold qb0))
 ·rw[HK2.out HG2.out];exact⟨rfl,.inr ⟨HG2.out,rfl⟩,HE2.out.trans HE3.out⟩
 have HX3:=hid (HX2.out.set 1 (.slice ad ls.2.length cp));have HB3:=hid (HB2.out.other hGX 1 (.slice ad ls.2.length cp));have HST3:=hid (HG2.out.put (show p<X by omega) 1 (.slice ad ls.2.length cp));have HL3:=hid (HL2.out.put qkB (show X<W1.heap.size by omega) 1 (.slice ad ls.2.length cp));have HE4:=hid ((HE2.out.trans HE3.out).mine hlt (show w.heap.size≤X by omega) 1 (.slice ad ls.2.length cp));clear HX2 HB2 HG2 HL2 HE2 HE3 y1 y1f HX1 HB1 HST1 HLW HK2;generalize w2.setCell ⟨X,1,none⟩ (.slice ad ls.2.length cp)=w3 at HX3 HB3 HST3 HL3 HE4 ⊢;go_upto_region 4 with (go_at_call 69;(with_reducible refine(HWS.out w3 HST3.out).mono ?_);rintro e w4 ⟨hg,he⟩;have HE5:=hid he;clear he;replace hg:=Or.symm hg;rcases hg with ⟨hg,rfl⟩|⟨rfl,hg⟩ <;> (have HG5:=hid hg;clear hg;try unfold qb0))
 ·rw[HR.out];exact⟨rfl,.inr ⟨HG5.out,rfl⟩,HE4.out.trans HE5.out⟩
 have HX9:=hid (HX3.out.oth HE5.out.2 hXp);have HB9:=hid (HB3.out.oth HE5.out.2 hGp);have HL9:=hid (HL3.out.keep qkB HE5.out.2 (by omega));have HE9:=hid (HE4.out.trans HE5.out);have HST9:=hid HG5.out;clear HX3 HB3 HL3 HE4 HE5 HG5 HWS HST3;have x0:=HX9.out.c 0 rfl;have x1:=HX9.out.c 1 rfl;have r0:=HB9.out.c 0 rfl;have r1:=HB9.out.c 1 rfl;have z0:=HB9.out.fz 0;have z1:=HB9.out.fz 1;go_wp2;rw[HR.out];refine bodyPost_ret (q7X rfl rfl ((HB9.out.set 0 _).set 1 _)) rfl ⟨.inl ⟨⟨_,rfl,?_⟩,(HST9.out.put (show p<w.heap.size by omega) 0 _).put (show p<w.heap.size by omega) 1 _⟩,(HE9.out.mine hlt (Nat.le_refl _) _ _).mine hlt (Nat.le_refl _) _ _⟩;exact((qpD HL9.out).same qfV (fun b hb1 hb2=>(Below.heap_setCell _ _ _ _ (by show b≠w.heap.size;omega)).trans (Below.heap_setCell _ _ _ _ (by show b≠w.heap.size;omega))) (by simp)).wide (by omega)
abbrev jd7 (w:World) (x:PartE) (e:Ending) (w':World):Prop:=∃ v,e=.returned (.agg #[.string x.tg,v])∧Itm qdS w.heap.size w' [.string x.tg,v] x
theorem qnD (p cap n:Nat) (a:Option Addr) (L:List TokE) (s:S8) (w:World) (h:PSt w p cap n a L s) :
  Calls Tryz.prog 74 #[.pointer (some ⟨p,0,none⟩)] w (Go8 p cap n a L (qdA L n s).1 (jd7 w (qdA L n s).2) w):=by
 have hmf:∀ (fn:Fn) (first cap:Array Value) (w:World),(Instr.makeFunc fn first cap).run Tryz.prog w=.ok (.func fn first cap) w:=fun _ _ _ _=>rfl;obtain⟨W0,hW0,hx0,hb0⟩:∃ W0,W0=w.alloc (.cells #[.string ⟨#[]⟩,.slice none 0 0] 95)∧Bx W0 w.heap.size 95 [.string ⟨#[]⟩,.slice none 0 0]∧Below w.heap.size w W0:=⟨_,rfl,Bx.new w 95 [.string ⟨#[]⟩,.slice none 0 0],(Below.refl _ w).alloc (Nat.le_refl _) _⟩
 have hz:W0.heap.size=w.heap.size+1:=by rw[hW0];simp
 have hlt:=h.lt;have hst:=h.below hb0;have HWD:=hid (qd9 p cap n a L s W0 hst);have HE0:=hid (Eff.of_below hb0 hlt);have HW0:=hid hW0;have HG0:=hid hx0;obtain⟨R,hR⟩:∃ R,R=qdA L n s:=⟨_,rfl⟩
 rw[← hR];unfold Go8;unfold qdA at hR;generalize qaV L n s=wd at hR HWD;have HLI:=hid (fun W (hW:PSt W p cap n a L wd.1)=>qxE p cap n a L wd.1 W hW);unfold qj9 at HLI;have h1:wd.1.bad≠0→(qcQ L n (qhQ L n) wd.1).1=wd.1:=fun hb=>qkY (fun _=>qoA) hb;generalize qcQ L n (qhQ L n) wd.1=ls at hR HLI h1;obtain⟨s9,h9⟩:∃ s9,s9=ls.1:=⟨_,rfl⟩
 have h2:ls.1.bad≠0→s9=ls.1:=fun _=>h9;rw[← h9] at hR;have HK1:Hid (wd.1.bad≠0→R.1=wd.1):=hid (fun hb=>by
  have e:=h1 hb;rw[hR];simp only;rw[h2 (by rw[e];exact hb),e])
 have HK2:Hid (ls.1.bad≠0→R.1=ls.1):=hid (fun hb=>by
  rw[hR];exact h2 hb)
 have HR:=hid hR;have H9:=hid h9;have hGp:w.heap.size≠p:=by omega
 clear h hst hW0 hx0 hb0 hR h1 h2 h9;go_enter Tryz.func74,Tryz.ntmps74;go_upto_region 1 with (fail);rw[← HW0.out];go_upto_region 2 with (go_at_call 73;(with_reducible refine(HWD.out).mono ?_);rintro e w1 ⟨hg,he⟩;have HE1:=hid he;clear he;replace hg:=Or.symm hg;rcases hg with ⟨hg,rfl⟩|⟨rfl,hg⟩ <;> (have HG1:=hid hg;clear hg;try unfold qb0))
 ·rw[HK1.out HG1.out];exact⟨rfl,.inr ⟨HG1.out,rfl⟩,HE0.out.trans HE1.out⟩
 obtain⟨W1,hW1⟩:∃ W1,W1=w1.alloc (.cells #[.string wd.2,.slice none 0 0] 95):=⟨_,rfl⟩
 have hb1:Below w1.heap.size w1 W1:=by rw[hW1];exact(Below.refl _ w1).alloc (Nat.le_refl _) _
 have hz1:W1.heap.size=w1.heap.size+1:=by rw[hW1];simp
 have HX1:=hid (show Bx W1 w1.heap.size 95 [.string wd.2,.slice none 0 0] by rw[hW1];exact Bx.new w1 _ _);have HB1:=hid ((HG0.out.oth HE1.out.2 hGp).keep hb1 (by have:=HE1.out.size;omega));have HST1:=hid (HG1.out.below hb1);have HE2:=hid ((HE0.out.trans HE1.out).trans (Eff.of_below hb1 (by have:=HE1.out.size;omega)));have hX1:w.heap.size<w1.heap.size:=by have:=HE1.out.size;omega
 rw[← hW1];have HLW:=hid (HLI.out W1 HST1.out);have HZ1:=hid hz1;generalize w1.heap.size=X at HX1 hX1 hz1 ⊢;have hXp:X≠p:=by omega
 have hGX:w.heap.size≠X:=by omega
 clear hW1 hb1 HG1 HE1 HE0 HWD HG0 HK1 HLI;go_upto_region 3 with (go_at_call 107;(with_reducible refine HLW.out.mono ?_);rintro e w2 ⟨hg,he⟩;have HE3:=hid he;clear he;replace hg:=Or.symm hg;rcases hg with ⟨hg,rfl⟩|⟨⟨v,cs,rfl,hl⟩,hg⟩ <;> first|(obtain⟨ad,cp,rfl⟩:=qeB hl;have HL2:=hid hl;have HG2:=hid hg;clear hg hl;have HX2:=hid (HX1.out.oth HE3.out.2 hXp);have HB2:=hid (HB1.out.oth HE3.out.2 hGp);have y1:=HX2.out.c 1 rfl;have y1f:=HX2.out.fz 1)|(have HG2:=hid hg;clear hg;try unfold qb0))
 ·rw[HK2.out HG2.out];exact⟨rfl,.inr ⟨HG2.out,rfl⟩,HE2.out.trans HE3.out⟩
 have HX3:=hid (HX2.out.set 1 (.slice ad ls.2.length cp));have HB3:=hid (HB2.out.other hGX 1 (.slice ad ls.2.length cp));have HST3:=hid (HG2.out.put (show p<X by omega) 1 (.slice ad ls.2.length cp));have HL3:=hid (HL2.out.put qlH (show X<W1.heap.size by omega) 1 (.slice ad ls.2.length cp));have HE4:=hid ((HE2.out.trans HE3.out).mine hlt (show w.heap.size≤X by omega) 1 (.slice ad ls.2.length cp));clear HX2 HB2 HG2 HL2 HE2 HE3 y1 y1f HX1 HB1 HST1 HLW HK2;generalize w2.setCell ⟨X,1,none⟩ (.slice ad ls.2.length cp)=w3 at HX3 HB3 HST3 HL3 HE4 ⊢;have HX9:=HX3;have HB9:=HB3;have HL9:=HL3;have HE9:=HE4;have HST9:Hid (PSt w3 p cap n a L s9):=hid (by rw[H9.out];exact HST3.out);clear HX3 HB3 HL3 HE4 HST3;have x0:=HX9.out.c 0 rfl;have x1:=HX9.out.c 1 rfl;have r0:=HB9.out.c 0 rfl;have r1:=HB9.out.c 1 rfl;have z0:=HB9.out.fz 0;have z1:=HB9.out.fz 1;go_wp2;rw[HR.out];refine bodyPost_ret (q4B rfl rfl ((HB9.out.set 0 _).set 1 _)) rfl ⟨.inl ⟨⟨_,rfl,?_⟩,(HST9.out.put (show p<w.heap.size by omega) 0 _).put (show p<w.heap.size by omega) 1 _⟩,(HE9.out.mine hlt (Nat.le_refl _) _ _).mine hlt (Nat.le_refl _) _ _⟩;exact((ql0 HL9.out).same qbK (fun b hb1 hb2=>(Below.heap_setCell _ _ _ _ (by show b≠w.heap.size;omega)).trans (Below.heap_setCell _ _ _ _ (by show b≠w.heap.size;omega))) (by simp)).wide (by omega)
def q7G:List Value:=[.int .i64 0,.slice none 0 0,.string ⟨#[]⟩,.string ⟨#[]⟩,.slice none 0 0]
theorem qtS {fn:Func} {p:Tmp} {tmps:Array Value} {W:World} {g:Nat} {c0 tv c2 c3 c4:Value} (hf:fn.results=#[.cell p 100]) (hp:tmps.getD p undef=.pointer (some ⟨g,0,none⟩)) (h:Bx W g 100 [c0,tv,c2,c3,c4]) :
  (results fn tmps).run Tryz.prog W=.ok (.agg #[c0,tv,c2,c3,c4]) W:=results_cell_row hf _ _ g 100 _ (0,0) _ hp h Tryz.underlying100 rfl (by kernel_rfl)
theorem qi5 {W:World} {g:Nat} {T:TypeId} {v0 v1 v2 v3 v4 a b c d e:Value} (h:Bx W g T [v0,v1,v2,v3,v4]) :
  Bx (((((W.setCell ⟨g,0,none⟩ a).setCell ⟨g,1,none⟩ b).setCell ⟨g,2,none⟩ c).setCell ⟨g,3,none⟩ d).setCell ⟨g,4,none⟩ e) g T [a,b,c,d,e] :=
 ((((h.set 0 a).set 1 b).set 2 c).set 3 d).set 4 e
structure AcS (w:World) (p cap n:Nat) (a:Option Addr) (L:List TokE) (wr:World) (X:Nat) (s:S8) (cs:List Value) (tv:Value) (to:Option Ex):Prop where
 box:Bx wr X 100 cs
 res:Bx wr w.heap.size 100 q7G
 st:DSt wr p cap n a L s
 eff:Eff p w wr
 it:Itm exE (X+1) wr [tv] to
 lo:w.heap.size<X
section
variable {w:World} {p cap n:Nat} {a:Option Addr} {L:List TokE} {wr w1:World} {X:Nat} {s s1:S8} {cs:List Value} {tv:Value} {to:Option Ex}
end
def ActP (p cap n:Nat) (a:Option Addr) (L:List TokE) (R:S8 × ActE) (w:World) (e:Ending) (w':World):Prop :=
 ∃ c0 tv c2 c3 c4,e=.returned (.agg #[c0,tv,c2,c3,c4])∧Itm qgN w.heap.size w' [c0,tv,c2,c3,c4] R.2∧St8 p cap n a L R.1 w w'
theorem q1R:(Tryz.prog.info? 95).map (fun i=>(i.zero,i.size,i.bytes))=some (some (.agg #[.string ⟨#[]⟩,.slice none 0 0]),2,40):=by kernel_rfl
theorem q1U:(Tryz.prog.info? 100).map (fun i=>(i.zero,i.size,i.bytes))=some (some (.agg #[.int .i64 0,.slice none 0 0,.string ⟨#[]⟩,.string ⟨#[]⟩,.slice none 0 0]),5,88):=by kernel_rfl
theorem qnI {lo:Nat} {w:World} {t:ByteArray} {v:Value} {x:PartE} (h:Itm qdS lo w [.string t,v] x):∃ ad m c,v=.slice ad m c:=by
 obtain⟨F,⟨v',d,hc,hl⟩,_⟩:=h;cases hc;rcases hl.row.2 with ⟨rfl,_⟩|⟨g,cap,cur,rfl,_⟩
 ·exact⟨_,_,_,rfl⟩
 ·exact⟨_,_,_,rfl⟩
theorem qw5 {lo:Nat} {w:World} {c0 tv c2 c3 c4:Value} {x:ActE} (h:Itm qgN lo w [c0,tv,c2,c3,c4] x):∃ ad m c ad' m' c',c0=.int .i64 x.kd∧tv=.slice ad m c∧c2=.string x.nm∧c3=.string x.vr∧c4=.slice ad' m' c':=by
 obtain⟨F,⟨tv',av,d,F1,F2,hc,_,⟨v,hv,_,hr⟩,hl⟩,_⟩:=h;cases hc;cases hv;have h1:∃ ad m c,tv=.slice ad m c:=by
  rcases hr.2 with ⟨rfl,_⟩|⟨g,cap,cur,rfl,_⟩
  ·exact⟨_,_,_,rfl⟩
  ·exact⟨_,_,_,rfl⟩
 have h2:∃ ad m c,c4=.slice ad m c:=by
  rcases hl.row.2 with ⟨rfl,_⟩|⟨g,cap,cur,rfl,_⟩
  ·exact⟨_,_,_,rfl⟩
  ·exact⟨_,_,_,rfl⟩
 obtain⟨ad,m,c,rfl⟩:=h1;obtain⟨ad',m',c',rfl⟩:=h2;exact⟨_,_,_,_,_,_,rfl,rfl,rfl,rfl,rfl⟩
def PgS (wr:World) (lo hi:Nat) (pv gv:Value) (ps:List PartE) (g:Option Ex):Prop :=
 ∃ F1 F2 dp,ListV qdS 95 2 wr F1 pv ps dp∧exE wr F2 [gv] g∧(F1++F2).Nodup∧∀ b ∈ F1++F2,lo≤b∧b<hi
theorem PgS.keep {wr w1:World} {lo hi:Nat} {pv gv:Value} {ps:List PartE} {g:Option Ex} (h:PgS wr lo hi pv gv ps g) (hs:∀ b,lo≤b→b<hi→w1.heap[b]?=wr.heap[b]?):PgS w1 lo hi pv gv ps g:=by
 obtain⟨F1,F2,dp,h1,h2,h3,h4⟩:=h;have hsb:qg8 (F1++F2) wr w1:=fun b hb=>hs b (h4 b hb).1 (h4 b hb).2;exact⟨F1,F2,dp,h1.keep qbK hsb.left,exK.keep h2 hsb.right,h3,h4⟩
theorem PgS.of {wr w1:World} {lo p:Nat} {pv gv:Value} {ps:List PartE} {g:Option Ex} {dp:List Value} (h:Lst qdS 95 2 lo wr pv ps dp) (hg:Itm exE wr.heap.size w1 [gv] g) (ho:Oth p wr w1) (hp:p<lo) (hlo:lo≤wr.heap.size):PgS w1 lo w1.heap.size pv gv ps g:=by
 obtain⟨F1,h1,h2⟩:=h;obtain⟨F2,h3,h4⟩:=hg;have hj:=h2.join h4 hlo ho.1;exact⟨F1,F2,dp,h1.keep qbK (h2.oth ho hp),h3,hj.uniq,hj.lies⟩
theorem PgS.chord {wr:World} {lo hi:Nat} {pv gv bv:Value} {ps:List PartE} {g:Option Ex} {l:List ActE} {d:List Value} {nm:ByteArray} (h:PgS wr lo hi pv gv ps g) (hl:Lst qgN 100 5 hi wr bv l d) (hlo:lo≤hi) (hw:hi≤wr.heap.size) :
  Itm qbB lo wr [.string nm,pv,gv,bv] ⟨nm,ps,g,l⟩:=by
 obtain⟨F1,F2,dp,h1,h2,h3,h4⟩:=h;obtain⟨F3,h5,h6⟩:=hl;refine⟨F1++(F2++F3),⟨pv,gv,bv,dp,d,F1,F2,F3,rfl,rfl,h1,h2,h5⟩,?_,fun b hb=>?_⟩
 ·rw[← List.append_assoc];refine List.nodup_append.2 ⟨h3,h6.uniq,fun a ha b hb e=>?_⟩;subst e;have:=h4 a ha;have:=h6.lies a hb;omega
 ·rw[← List.append_assoc] at hb;rcases List.mem_append.1 hb with hb|hb
  ·have:=h4 b hb;omega
  ·have:=h6.lies b hb;omega
theorem qmG {fn:Func} {p:Tmp} {tmps:Array Value} {W:World} {g:Nat} {c0 c1 c2 c3:Value} (hf:fn.results=#[.cell p 44]) (hp:tmps.getD p undef=.pointer (some ⟨g,0,none⟩)) (h:Bx W g 44 [c0,c1,c2,c3]) :
  (results fn tmps).run Tryz.prog W=.ok (.agg #[c0,c1,c2,c3]) W:=results_cell_row hf _ _ g 44 _ (0,0) _ hp h Tryz.underlying44 rfl (by kernel_rfl)
def zCh:List Value:=[.string ⟨#[]⟩,.slice none 0 0,.slice none 0 0,.slice none 0 0]
def ChordP (p cap n:Nat) (a:Option Addr) (L:List TokE) (R:S8 × ChordE) (w:World) (e:Ending) (w':World):Prop :=
 ∃ pv gv bv,e=.returned (.agg #[.string R.2.nm,pv,gv,bv])∧Itm qbB w.heap.size w' [.string R.2.nm,pv,gv,bv] R.2∧St8 p cap n a L R.1 w w'
theorem qi6 {W:World} {g:Nat} {T:TypeId} {v0 v1 v2 v3 a b c d:Value} (h:Bx W g T [v0,v1,v2,v3]) :
  Bx ((((W.setCell ⟨g,0,none⟩ a).setCell ⟨g,1,none⟩ b).setCell ⟨g,2,none⟩ c).setCell ⟨g,3,none⟩ d) g T [a,b,c,d] :=
 (((h.set 0 a).set 1 b).set 2 c).set 3 d
structure AcP (w:World) (p cap n:Nat) (a:Option Addr) (L:List TokE) (wr:World) (X:Nat) (s:S8) (cs:List Value) (tv:Value) (to:Option Ex):Prop where
 box:Bx wr X 100 cs
 res:Bx wr w.heap.size 100 q7G
 st:PSt wr p cap n a L s
 eff:Eff p w wr
 it:Itm exE (X+1) wr [tv] to
 lo:w.heap.size<X
section
variable {w:World} {p cap n:Nat} {a:Option Addr} {L:List TokE} {wr w1:World} {X:Nat} {s s1:S8} {cs:List Value} {tv:Value} {to:Option Ex}
theorem AcP.step (h:AcP w p cap n a L wr X s cs tv to) (hp:p<w.heap.size) (hs:PSt w1 p cap n a L s1) (he:Eff p wr w1):AcP w p cap n a L w1 X s1 cs tv to :=
 ⟨h.box.oth he.2 (by have:=h.lo;omega),h.res.oth he.2 (by omega),hs,h.eff.trans he,h.it.keep exK he.2 (by have:=h.lo;omega),h.lo⟩
theorem AcP.set (h:AcP w p cap n a L wr X s cs tv to) (hp:p<w.heap.size) (j:Nat) (v:Value):AcP w p cap n a L (wr.setCell ⟨X,j,none⟩ v) X s (cs.set j v) tv to:=by
 have hl:=h.lo;exact⟨h.box.set j v,h.res.other (by omega) _ _,h.st.same (fun b hb=>Below.heap_setCell _ _ _ _ (by show b≠X;omega)),h.eff.mine hp (by omega) _ _,h.it.same exK (fun b hb _=>Below.heap_setCell _ _ _ _ (by show b≠X;omega)) (by simp),hl⟩
theorem AcP.expr {v:Value} {o:Option Ex} (h:AcP w p cap n a L wr X s cs tv to) (hp:p<w.heap.size) (hx:Itm exE wr.heap.size w1 [v] o) (hs:PSt w1 p cap n a L s1) (he:Eff p wr w1):AcP w p cap n a L w1 X s1 cs v o :=
 ⟨h.box.oth he.2 (by have:=h.lo;omega),h.res.oth he.2 (by omega),hs,h.eff.trans he,hx.wide h.box.lt,h.lo⟩
theorem AcP.item {kd:Int} {nm vr:ByteArray} {c:List Value} (h:AcP w p cap n a L wr X s c tv to):Itm qgN (X+1) wr [.int .i64 kd,tv,.string nm,.string vr,.slice none 0 0] ⟨kd,to,nm,vr,[]⟩:=by
 obtain⟨F,h1,h2⟩:=h.it;exact⟨F,⟨tv,.slice none 0 0,[],F,[],rfl,by simp,h1,ListV.nil _ _ _ _⟩,h2⟩
theorem AcP.listed {kd:Int} {nm vr:ByteArray} {av:Value} {l:List (Option Ex)} {d c:List Value} (h:AcP w p cap n a L wr X s c tv to) (hp:p<w.heap.size) (he:Eff p wr w1) (hl:Lst exE 41 1 wr.heap.size w1 av l d) :
  Itm qgN (X+1) w1 [.int .i64 kd,tv,.string nm,.string vr,av] ⟨kd,to,nm,vr,l⟩:=by
 obtain⟨F,h1,h2⟩:=h.it;obtain⟨G,h3,h4⟩:=hl;have hlo:=h.lo;exact⟨F++G,⟨tv,av,d,F,G,rfl,rfl,exK.keep h1 (h2.oth he.2 (by omega)),h3⟩,h2.join h4 h.box.lt he.size⟩
end
abbrev jdB (w:World) (x:ActE) (e:Ending) (w':World):Prop:=∃ tv av,e=.returned (.agg #[.int .i64 x.kd,tv,.string x.nm,.string x.vr,av])∧Itm qgN w.heap.size w' [.int .i64 x.kd,tv,.string x.nm,.string x.vr,av] x
theorem qw6 {w:World} {p cap n:Nat} {a:Option Addr} {L:List TokE} {wr:World} {X:Nat} {s:S8} {tv:Value} {to:Option Ex} {kd:Int} {nm vr:ByteArray} {av:Value} {x:ActE} (h:AcP w p cap n a L wr X s [.int .i64 kd,tv,.string nm,.string vr,av] tv to) (hi:Itm qgN (X+1) wr [.int .i64 kd,tv,.string nm,.string vr,av] x) (hp:p<w.heap.size) (hX:w.heap.size<X) (hk:x.kd=kd) (hn:x.nm=nm) (hv:x.vr=vr) :
  (jdB w x (.returned (.agg #[.int .i64 kd,tv,.string nm,.string vr,av])) (((((wr.setCell ⟨w.heap.size,0,none⟩ (.int .i64 kd)).setCell ⟨w.heap.size,1,none⟩ tv).setCell ⟨w.heap.size,2,none⟩ (.string nm)).setCell ⟨w.heap.size,3,none⟩ (.string vr)).setCell ⟨w.heap.size,4,none⟩ av) ∧
   PSt (((((wr.setCell ⟨w.heap.size,0,none⟩ (.int .i64 kd)).setCell ⟨w.heap.size,1,none⟩ tv).setCell ⟨w.heap.size,2,none⟩ (.string nm)).setCell ⟨w.heap.size,3,none⟩ (.string vr)).setCell ⟨w.heap.size,4,none⟩ av) p cap n a L s) ∧
   Eff p w (((((wr.setCell ⟨w.heap.size,0,none⟩ (.int .i64 kd)).setCell ⟨w.heap.size,1,none⟩ tv).setCell ⟨w.heap.size,2,none⟩ (.string nm)).setCell ⟨w.heap.size,3,none⟩ (.string vr)).setCell ⟨w.heap.size,4,none⟩ av):=by
 subst hk hn hv;have hb:∀ b,b≠w.heap.size→(((((wr.setCell ⟨w.heap.size,0,none⟩ (.int .i64 x.kd)).setCell ⟨w.heap.size,1,none⟩ tv).setCell ⟨w.heap.size,2,none⟩ (.string x.nm)).setCell ⟨w.heap.size,3,none⟩ (.string x.vr)).setCell ⟨w.heap.size,4,none⟩ av).heap[b]?=wr.heap[b]?:=fun b hne =>
  (Below.heap_setCell _ _ _ _ hne).trans ((Below.heap_setCell _ _ _ _ hne).trans ((Below.heap_setCell _ _ _ _ hne).trans ((Below.heap_setCell _ _ _ _ hne).trans (Below.heap_setCell _ _ _ _ hne))))
 refine⟨⟨⟨_,_,rfl,?_⟩,?_⟩,?_⟩
 ·exact(hi.same qeO (fun b hb1 _=>hb b (by omega)) (by simp)).wide (by omega)
 ·exact h.st.same (fun b hb1=>hb b (by omega))
 ·exact((((h.eff.mine hp (Nat.le_refl _) _ _).mine hp (Nat.le_refl _) _ _).mine hp (Nat.le_refl _) _ _).mine hp (Nat.le_refl _) _ _).mine hp (Nat.le_refl _) _ _
noncomputable def qx0 (L:List TokE) (n:Nat) (s:S8):S8 × ActE :=
 let a:=qaY L n s
 let b:=qaV L n a.1
 let c:=qi9 L n b.1
 (c.1,⟨1,a.2,b.2,eB,c.2⟩)
def qn3 (L:List TokE) (n:Nat) (s:S8):S8 × ActE :=
 let a:=qaV L n s
 let b:=qaV L n (qa7 L n a.1 ⟨#[97,115]⟩)
 (b.1,⟨2,none,a.2,b.2,[]⟩)
theorem qxB (p cap n:Nat) (a:Option Addr) (L:List TokE) (s:S8) (w:World) (h:PSt w p cap n a L s) :
  Calls Tryz.prog 110 #[.pointer (some ⟨p,0,none⟩)] w (Go8 p cap n a L (qx0 L n s).1 (jdB w (qx0 L n s).2) w):=by
 have hmf:∀ (fn:Fn) (first cap:Array Value) (w:World),(Instr.makeFunc fn first cap).run Tryz.prog w=.ok (.func fn first cap) w:=fun _ _ _ _=>rfl;obtain⟨W0,hW0,hx0,hb0⟩:∃ W0,W0=w.alloc (.cells #[.int .i64 0,.slice none 0 0,.string ⟨#[]⟩,.string ⟨#[]⟩,.slice none 0 0] 100)∧Bx W0 w.heap.size 100 q7G∧Below w.heap.size w W0:=⟨_,rfl,Bx.new w 100 q7G,(Below.refl _ w).alloc (Nat.le_refl _) _⟩
 have hz:W0.heap.size=w.heap.size+1:=by rw[hW0];simp
 have hlt:=h.lt;have hst:=h.below hb0;have hGp:w.heap.size≠p:=by omega
 have HE0:=hid (Eff.of_below hb0 hlt);have HST0:=hid hst;have HW0:=hid hW0;have HG0:=hid hx0;obtain⟨R,hR⟩:∃ R,R=qx0 L n s:=⟨_,rfl⟩
 rw[← hR];unfold Go8;unfold qx0 at hR;simp only at hR;have HZ:=hid hz;clear h hst hb0 hx0 hW0 hz;have HEX:=hid (fun W (hW:PSt W p cap n a L s)=>qjK p cap n a L s W hW);have k1:(qaY L n s).1.bad≠0→(qaV L n (qaY L n s).1).1=(qaY L n s).1:=fun hb=>qh6 hb;generalize qaY L n s=ea at hR HEX k1;have HWD:=hid (fun W (hW:PSt W p cap n a L ea.1)=>qd9 p cap n a L ea.1 W hW);generalize qaV L n ea.1=wb at hR HWD k1;have HLI:=hid (fun W (hW:PSt W p cap n a L wb.1)=>qnE p cap n a L wb.1 W hW);unfold qj9 at HLI;have k2:wb.1.bad≠0→(qi9 L n wb.1).1=wb.1:=fun hb=>q5R hb;unfold qi9 at hR k2;generalize qcQ L n (qaY L n) wb.1=ls at hR HLI k2;have HK1:Hid (ea.1.bad≠0→R.1=ea.1):=hid (fun hb=>by
  have e:=k1 hb;rw[hR];simp only;rw[k2 (by rw[e];exact hb),e])
 have HK2:Hid (wb.1.bad≠0→R.1=wb.1):=hid (fun hb=>by rw[hR];exact k2 hb);have HR:=hid hR;clear hR k1 k2;go_enter Tryz.func110,Tryz.ntmps110;go_upto_region 1 with (fail);rw[← HW0.out];go_upto_region 2 with (fail);obtain⟨W1,hW1⟩:∃ W1,W1=W0.alloc (.cells #[.int .i64 1,.slice none 0 0,.string ⟨#[]⟩,.string ⟨#[]⟩,.slice none 0 0] 100):=⟨_,rfl⟩
 have hb1:Below W0.heap.size W0 W1:=by rw[hW1];exact(Below.refl _ W0).alloc (Nat.le_refl _) _
 have HA1:Hid (AcP w p cap n a L W1 W0.heap.size s [.int .i64 1,.slice none 0 0,.string ⟨#[]⟩,.string ⟨#[]⟩,.slice none 0 0] (.slice none 0 0) none):=hid ⟨by rw[hW1];exact Bx.new W0 _ _,HG0.out.keep hb1 (by have:=HZ.out;omega),HST0.out.below hb1,HE0.out.trans (Eff.of_below hb1 HST0.out.lt),qpO _ _,by have:=HZ.out;omega⟩;rw[← hW1];have hX:w.heap.size<W0.heap.size:=by have:=HZ.out;omega
 generalize W0.heap.size=X at HA1 hX ⊢;have hXp:X≠p:=by omega
 clear hW1 hb1 HE0 HG0;go_upto_region 3 with (go_at_call 75;(with_reducible refine(HEX.out W1 HA1.out.st).mono ?_);rintro e w2 ⟨hg,he⟩;have HE2:=hid he;clear he;replace hg:=Or.symm hg;rcases hg with ⟨hg,rfl⟩|⟨⟨v,rfl,hit⟩,hg⟩ <;> first|(obtain⟨ad,m,c,rfl⟩:=qf0 hit;have HA2:=hid (HA1.out.expr hlt hit hg HE2.out);clear hg hit;have y1:=HA2.out.box.c 1 rfl;have y1f:=HA2.out.box.fz 1)|(have HG2:=hid hg;clear hg;try unfold qb0))
 ·rw[HK1.out HG2.out];exact⟨rfl,.inr ⟨HG2.out,rfl⟩,HA1.out.eff.trans HE2.out⟩
 have HA3:=hid (HA2.out.set hlt 1 (.slice ad m c));clear HA1 HA2 HE2 HEX HK1 y1 y1f;generalize w2.setCell ⟨X,1,none⟩ (.slice ad m c)=w3 at HA3 ⊢;go_upto_region 4 with (go_at_call 73;(with_reducible refine(HWD.out w3 HA3.out.st).mono ?_);rintro e w4 ⟨hg,he⟩;have HE4:=hid he;clear he;replace hg:=Or.symm hg;rcases hg with ⟨hg,rfl⟩|⟨rfl,hg⟩ <;> first|(have HG4:=hid (show PSt w4 p cap n a L _ from hg);clear hg;have HA4:=hid (HA3.out.step hlt HG4.out HE4.out);have y2:=HA4.out.box.c 2 rfl;have y2f:=HA4.out.box.fz 2)|(have HG4:=hid hg;clear hg;try unfold qb0))
 ·rw[HK2.out HG4.out];exact⟨rfl,.inr ⟨HG4.out,rfl⟩,HA3.out.eff.trans HE4.out⟩
 have HA5:=hid (HA4.out.set hlt 2 (.string wb.2));clear HA3 HA4 HE4 HG4 HWD HK2 y2 y2f;generalize w4.setCell ⟨X,2,none⟩ (.string wb.2)=w5 at HA5 ⊢;go_upto_region 5 with (go_at_call 112;(with_reducible refine(HLI.out w5 HA5.out.st).mono ?_);rintro e w6 ⟨hg,he⟩;have HE6:=hid he;clear he;replace hg:=Or.symm hg;rcases hg with ⟨hg,rfl⟩|⟨⟨v,cs,rfl,hl⟩,hg⟩ <;> first|(obtain⟨ad2,cp,rfl⟩:=qeB hl;have HL6:=hid hl;have HA6:=hid (HA5.out.step hlt hg HE6.out);clear hg hl;have y4:=HA6.out.box.c 4 rfl;have y4f:=HA6.out.box.fz 4)|(have HG6:=hid hg;clear hg;try unfold qb0))
 ·rw[HR.out];exact⟨rfl,.inr ⟨HG6.out,rfl⟩,HA5.out.eff.trans HE6.out⟩
 have HI6:=hid (HA5.out.listed (kd:=1) (nm:=wb.2) (vr:=⟨#[]⟩) hlt HE6.out HL6.out);have HA7:=hid (HA6.out.set hlt 4 (.slice ad2 ls.2.length cp));have HI7:=hid (HI6.out.same (w':=w6.setCell ⟨X,4,none⟩ (.slice ad2 ls.2.length cp)) qeO (fun b hb1 _=>Below.heap_setCell _ _ _ _ (by show b≠X;omega)) (by simp));clear HA5 HA6 HE6 HL6 HLI HI6 y4 y4f;generalize w6.setCell ⟨X,4,none⟩ (.slice ad2 ls.2.length cp)=w7 at HA7 HI7 ⊢;have x0:=HA7.out.box.c 0 rfl;have x1:=HA7.out.box.c 1 rfl;have x2:=HA7.out.box.c 2 rfl;have x3:=HA7.out.box.c 3 rfl;have x4:=HA7.out.box.c 4 rfl;have r0:=HA7.out.res.c 0 rfl;have r1:=HA7.out.res.c 1 rfl;have r2:=HA7.out.res.c 2 rfl;have r3:=HA7.out.res.c 3 rfl;have r4:=HA7.out.res.c 4 rfl;have z0:=HA7.out.res.fz 0;have z1:=HA7.out.res.fz 1;have z2:=HA7.out.res.fz 2;have z3:=HA7.out.res.fz 3;have z4:=HA7.out.res.fz 4;go_wp2;rw[HR.out];have he:=qw6 (x:=⟨1,ea.2,wb.2,eB,ls.2⟩) HA7.out HI7.out hlt hX rfl rfl rfl;exact bodyPost_ret (qtS rfl rfl (qi5 HA7.out.res)) rfl ⟨.inl he.1,he.2⟩
theorem qsS (p cap n:Nat) (a:Option Addr) (L:List TokE) (s:S8) (w:World) (h:PSt w p cap n a L s) :
  Calls Tryz.prog 111 #[.pointer (some ⟨p,0,none⟩)] w (Go8 p cap n a L (qn3 L n s).1 (jdB w (qn3 L n s).2) w):=by
 have hmf:∀ (fn:Fn) (first cap:Array Value) (w:World),(Instr.makeFunc fn first cap).run Tryz.prog w=.ok (.func fn first cap) w:=fun _ _ _ _=>rfl;obtain⟨W0,hW0,hx0,hb0⟩:∃ W0,W0=w.alloc (.cells #[.int .i64 0,.slice none 0 0,.string ⟨#[]⟩,.string ⟨#[]⟩,.slice none 0 0] 100)∧Bx W0 w.heap.size 100 q7G∧Below w.heap.size w W0:=⟨_,rfl,Bx.new w 100 q7G,(Below.refl _ w).alloc (Nat.le_refl _) _⟩
 have hz:W0.heap.size=w.heap.size+1:=by rw[hW0];simp
 have hlt:=h.lt;have hst:=h.below hb0;have hGp:w.heap.size≠p:=by omega
 have HE0:=hid (Eff.of_below hb0 hlt);have HST0:=hid hst;have HW0:=hid hW0;have HG0:=hid hx0;obtain⟨R,hR⟩:∃ R,R=qn3 L n s:=⟨_,rfl⟩
 rw[← hR];unfold Go8;unfold qn3 at hR;simp only at hR;have HZ:=hid hz;clear h hst hb0 hx0 hW0 hz;have HWA:=hid (fun W (hW:PSt W p cap n a L s)=>qd9 p cap n a L s W hW);generalize qaV L n s=wa at hR HWA;have HAS:=hid (fun W (hW:PSt W p cap n a L wa.1)=>qaW p cap n a L wa.1 ⟨#[97,115]⟩ W hW);have k1:wa.1.bad≠0→qa7 L n wa.1 ⟨#[97,115]⟩=wa.1:=fun hb=>qdN hb _;generalize qa7 L n wa.1 ⟨#[97,115]⟩=s2 at hR HAS k1;have HWB:=hid (fun W (hW:PSt W p cap n a L s2)=>qd9 p cap n a L s2 W hW);have k2:s2.bad≠0→(qaV L n s2).1=s2:=fun hb=>qh6 hb;generalize qaV L n s2=wb at hR HWB k2;have HK1:Hid (wa.1.bad≠0→R.1=wa.1):=hid (fun hb=>by
  have e:=k1 hb;rw[hR];simp only;rw[k2 (by rw[e];exact hb),e])
 have HK2:Hid (s2.bad≠0→R.1=s2):=hid (fun hb=>by rw[hR];exact k2 hb);have HR:=hid hR;clear hR k1 k2;go_enter Tryz.func111,Tryz.ntmps111;go_upto_region 1 with (fail);rw[← HW0.out];go_upto_region 2 with (go_at_call 73;(with_reducible refine(HWA.out W0 HST0.out).mono ?_);rintro e w1 ⟨hg,he⟩;have HE1:=hid he;clear he;replace hg:=Or.symm hg;rcases hg with ⟨hg,rfl⟩|⟨rfl,hg⟩ <;> first|(have HG1:=hid (show PSt w1 p cap n a L _ from hg);clear hg)|(have HG1:=hid hg;clear hg;try unfold qb0))
 ·rw[HK1.out HG1.out];exact⟨rfl,.inr ⟨HG1.out,rfl⟩,HE0.out.trans HE1.out⟩
 obtain⟨W1,hW1⟩:∃ W1,W1=w1.alloc (.cells #[.int .i64 2,.slice none 0 0,.string wa.2,.string ⟨#[]⟩,.slice none 0 0] 100):=⟨_,rfl⟩
 have hb1:Below w1.heap.size w1 W1:=by rw[hW1];exact(Below.refl _ w1).alloc (Nat.le_refl _) _
 have hX:w.heap.size<w1.heap.size:=by have:=HE1.out.size;have:=HZ.out;omega
 have HA1:Hid (AcP w p cap n a L W1 w1.heap.size wa.1 [.int .i64 2,.slice none 0 0,.string wa.2,.string ⟨#[]⟩,.slice none 0 0] (.slice none 0 0) none):=hid ⟨by rw[hW1];exact Bx.new w1 _ _,(HG0.out.oth HE1.out.2 hGp).keep hb1 hX,HG1.out.below hb1,(HE0.out.trans HE1.out).trans (Eff.of_below hb1 HG1.out.lt),qpO _ _,hX⟩;rw[← hW1];generalize w1.heap.size=X at HA1 hX ⊢;have hXp:X≠p:=by omega
 clear hW1 hb1 HE0 HG0 HE1 HG1 HWA HK1;go_upto_region 3 with (go_at_call 69;(with_reducible refine(HAS.out W1 HA1.out.st).mono ?_);rintro e w2 ⟨hg,he⟩;have HE2:=hid he;clear he;replace hg:=Or.symm hg;rcases hg with ⟨hg,rfl⟩|⟨rfl,hg⟩ <;> first|(have HG2:=hid (show PSt w2 p cap n a L _ from hg);clear hg)|(have HG2:=hid hg;clear hg;try unfold qb0))
 ·rw[HK2.out HG2.out];exact⟨rfl,.inr ⟨HG2.out,rfl⟩,HA1.out.eff.trans HE2.out⟩
 have HA3:=hid (HA1.out.step hlt HG2.out HE2.out);clear HA1 HG2 HE2 HAS HK2;go_upto_region 4 with (go_at_call 73;(with_reducible refine(HWB.out w2 HA3.out.st).mono ?_);rintro e w4 ⟨hg,he⟩;have HE4:=hid he;clear he;replace hg:=Or.symm hg;rcases hg with ⟨hg,rfl⟩|⟨rfl,hg⟩ <;> first|(have HG4:=hid (show PSt w4 p cap n a L _ from hg);clear hg;have HA4:=hid (HA3.out.step hlt HG4.out HE4.out);have y3:=HA4.out.box.c 3 rfl;have y3f:=HA4.out.box.fz 3)|(have HG4:=hid hg;clear hg;try unfold qb0))
 ·rw[HR.out];exact⟨rfl,.inr ⟨HG4.out,rfl⟩,HA3.out.eff.trans HE4.out⟩
 have HA5:=hid (HA4.out.set hlt 3 (.string wb.2));clear HA3 HA4 HE4 HG4 HWB y3 y3f;generalize w4.setCell ⟨X,3,none⟩ (.string wb.2)=w5 at HA5 ⊢;have HI5:=hid (HA5.out.item (kd:=2) (nm:=wa.2) (vr:=wb.2));have x0:=HA5.out.box.c 0 rfl;have x1:=HA5.out.box.c 1 rfl;have x2:=HA5.out.box.c 2 rfl;have x3:=HA5.out.box.c 3 rfl;have x4:=HA5.out.box.c 4 rfl;have r0:=HA5.out.res.c 0 rfl;have r1:=HA5.out.res.c 1 rfl;have r2:=HA5.out.res.c 2 rfl;have r3:=HA5.out.res.c 3 rfl;have r4:=HA5.out.res.c 4 rfl;have z0:=HA5.out.res.fz 0;have z1:=HA5.out.res.fz 1;have z2:=HA5.out.res.fz 2;have z3:=HA5.out.res.fz 3;have z4:=HA5.out.res.fz 4;go_wp2;rw[HR.out];have he:=qw6 (x:=⟨2,none,wa.2,wb.2,[]⟩) HA5.out HI5.out hlt hX rfl rfl rfl;exact bodyPost_ret (qtS rfl rfl (qi5 HA5.out.res)) rfl ⟨.inl he.1,he.2⟩
end Go.Proofs.YtenlhcgpajphhaaGreatDoor
