import Derived.Test.YtenlhcgpajphhaaGreatDoorMDcPlain
import Derived.Deep.QuietTactic
import Derived.BigQuiet
import Derived.Test.YtenlhcgpajphhaaGreatDoorMEbPlace
import Derived.Test.YtenlhcgpajphhaaGreatDoorMEbSmall
import Derived.Laws.ResultCell
namespace Go.Proofs.YtenlhcgpajphhaaGreatDoor
open Go.RowKit Go.Shelf
set_option maxRecDepth 100000
set_option linter.all false
abbrev St8 (p cap n:Nat) (a:Option Addr) (L:List TokE) (s:S8) (w:World) (w':World):Prop:=DSt w' p cap n a L s∧Eff p w w'
end Go.Proofs.YtenlhcgpajphhaaGreatDoor
namespace Go.Proofs.YtenlhcgpajphhaaGreatDoor
open Go.RowKit
set_option linter.all false
section
variable {L:List TokE} {n:Nat} {s:S8}
theorem qpJ (h:s.bad≠0) (i e:Int):qcB L n s i e=s:=by unfold qcB;rw[if_neg h]
theorem qe2 (h:s.bad=0) (i e:Int):(qcB L n s i e).bad=e:=by unfold qcB;rw[if_pos h]
theorem qdN (h:s.bad≠0) (t:ByteArray):qa7 L n s t=s:=by unfold qa7;rw[qjV h,if_neg (by decide),qpJ h]
theorem qkO {t:ByteArray} (h:isB L s t=true):qa7 L n s t=qa6 s:=by unfold qa7;rw[if_pos h]
theorem qo8 {t:ByteArray} (h:isB L s t=false):qa7 L n s t=qcB L n s s.k 80:=by unfold qa7;rw[h,if_neg (by decide)]
theorem qh6 (h:s.bad≠0):(qaV L n s).1=s:=by
 unfold qaV;have:qhP L s=false:=by unfold qhP;rw[decide_eq_false h];rfl
 rw[this,if_neg (by decide)];exact qpJ h _ _
theorem qpN (h:s.bad≠0):(qaY L n s).1=s:=by unfold qaY;rw[if_neg h]
theorem qpA (h:s.bad≠0):(qdK L n s).1=s:=by
 unfold qdK;have:qiU L s=false:=by unfold qiU;rw[decide_eq_false h];rfl
 rw[this,Bool.false_and,if_neg (by decide)];exact qpJ h _ _
theorem qoA (h:s.bad≠0):(qhQ L n s).1=s:=by unfold qhQ;rw[qjV h,if_neg (by decide)];exact qh6 h
theorem qeY {α:Type} {item:S8→S8 × α} (h:s.bad≠0) (f:Nat) (l:List α):qdE L n item f s l=(s,l):=by
 cases f with
 | zero=>rfl
 | succ f=>unfold qdE;rw[if_neg h]
theorem qkY {α:Type} {item:S8→S8 × α} (hi:∀ s,s.bad≠0→(item s).1=s) (h:s.bad≠0):(qcQ L n item s).1=s:=by
 unfold qcQ;rw[qdN h,qjV h,if_neg (by decide),hi s h,qeY h]
theorem q5R (h:s.bad≠0):(qi9 L n s).1=s:=qkY (fun _=>qpN) h
theorem q49 (h:s.bad≠0):(qdA L n s).1=s:=by
 unfold qdA;simp only;rw[qh6 h,qkY (fun _=>qoA) h]
theorem q2T (h:s.bad≠0) (f:Nat) (l:List PartE):qk0 L n f s l=(s,l):=by
 cases f with
 | zero=>rfl
 | succ f=>unfold qk0;rw[qjV h,if_neg (by decide)]
theorem qfJ {α:Type} {item:S8→S8 × α} (h:s.bad≠0) (f:Nat) (l:List α):upS L item f s l=(s,l):=by
 cases f with
 | zero=>rfl
 | succ f=>unfold upS;rw[if_neg h]
theorem quO (h:s.bad≠0) (f:Nat) (p:ProgE):qcP L n f s p=(s,p):=by
 cases f with
 | zero=>rfl
 | succ f=>unfold qcP;rw[if_neg (fun x=>h x.1)]
theorem qvJ {t t':ByteArray} (h:isB L s t=true) (hn:t≠t'):isB L s t'=false:=by
 obtain⟨_,_,_,h4⟩:=qi4 h;unfold isB;have:decide ((tkE L s.k).tx=t')=false:=decide_eq_false (fun e=>hn (h4.symm.trans e));rw[this];simp
theorem qjR {α:Type} {item:S8→S8 × α} {f:Nat} {l:List α} (hb:s.bad=0) (h:isB L s ⟨#[44]⟩=true) :
  qdE L n item (f+1) s l=qdE L n item f (item (qa6 s)).1 (l++[(item (qa6 s)).2]):=by
 conv=>lhs;unfold qdE
 rw[if_pos hb,qvJ h (by decide),if_neg (by decide),qkO h]
theorem qp6 {α:Type} {item:S8→S8 × α} (hi:∀ s,s.bad≠0→(item s).1=s) {f:Nat} {l:List α} (hb:s.bad=0) (h:isB L s ⟨#[44]⟩=false) :
  (qdE L n item (f+1) s l).1=qa7 L n s ⟨#[41]⟩∧((qa7 L n s ⟨#[41]⟩).bad=0→(qdE L n item (f+1) s l).2=l):=by
 unfold qdE;rw[if_pos hb];cases h1:isB L s ⟨#[41]⟩ with
 | true=>rw[if_pos rfl,qkO h1];exact⟨rfl,fun _=>rfl⟩
 | false =>
  rw[if_neg (by decide),qo8 h,qo8 h1];have hf:(qcB L n s s.k 80).bad≠0:=by rw[qe2 hb];decide
  rw[hi _ hf,qeY hf];exact⟨rfl,fun h0=>absurd h0 hf⟩
theorem q68 {α:Type} {item:S8→S8 × α} {f:Nat} {l:List α} (hb:s.bad=0) (h:isB L s ⟨#[125]⟩=true):upS L item (f+1) s l=(qa6 s,l):=by unfold upS;rw[if_pos hb,if_pos h]
theorem qsE {α:Type} {item:S8→S8 × α} {f:Nat} {l:List α} (hb:s.bad=0) (h:isB L s ⟨#[125]⟩=false):upS L item (f+1) s l=upS L item f (item s).1 (l++[(item s).2]):=by
 conv=>lhs;unfold upS
 rw[if_pos hb,h,if_neg (by decide)]
theorem qtZ {f:Nat} {l:List ActE} {t:ByteArray} (hb:s.bad=0) (h:isB L s t=true) (ht:t≠⟨#[125]⟩):upS L (qjB L n) (f+1) s l=upS L (qjB L n) f (qjB L n s).1 (l++[(qjB L n s).2]):=qsE hb (qvJ h ht)
theorem q7M {f:Nat} {l:List ActE} (hb:s.bad=0) (h1:isB L s ⟨#[115,101,110,100]⟩=false) (h2:isB L s ⟨#[115,112,97,119,110]⟩=false) (h3:isB L s ⟨#[114,101,112,108,121]⟩=false) (h4:isB L s ⟨#[98,101,99,111,109,101]⟩=false) :
  (upS L (qjB L n) (f+1) s l).1=qa7 L n s ⟨#[125]⟩∧((qa7 L n s ⟨#[125]⟩).bad=0→(upS L (qjB L n) (f+1) s l).2=l):=by
 cases h:isB L s ⟨#[125]⟩ with
 | true=>rw[q68 hb h,qkO h];exact⟨rfl,fun _=>rfl⟩
 | false =>
  rw[qsE hb h,qo8 h];have hf:(qcB L n s s.k 80).bad≠0:=by rw[qe2 hb];decide
  have hd:(qcI L n s).1=qcB L n s s.k 80:=by
   unfold qcI;rw[h1,h2,h3,h4,if_neg (by decide),if_neg (by decide),if_neg (by decide),if_neg (by decide)]
  have ha:(qjB L n s).1=qcB L n s s.k 80:=by
   unfold qjB;simp only;rw[hd,qdN hf]
  rw[ha,qfJ hf];exact⟨rfl,fun h0=>absurd h0 hf⟩
theorem jaD {k:Nat} {o:Option Ex} {a f:Int} (hk:k≤L.length) (h:RdR L k o a f):∃ q:Nat,a=q∧q≤L.length:=by
 rcases h with ⟨q,h1,_,rfl,_⟩|⟨_,q,_,_,_,rfl,_⟩|⟨_,q,h1,_,_,rfl,_⟩
 ·exact⟨q,rfl,h1.bad_le (by omega) hk⟩
 ·exact⟨k,rfl,hk⟩
 ·exact⟨q,rfl,h1.ok_le (by omega) hk⟩
theorem q85 {k:Nat} {a f:Int} (h:RdR L k none a f):f≠0:=by
 rcases h with ⟨q,h1,_,rfl,rfl⟩|⟨t,q,_,hf,_,rfl,rfl⟩|⟨t,q,_,_,h,_⟩
 ·decide
 ·exact hf
 ·cases h
end
open Go.Shelf
set_option maxRecDepth 100000
def pdC (cap n:Nat) (a:Option Addr) (L:List TokE) (k:Nat):List Value:=[.slice a L.length cap,.int .i64 (n:Nat),.int .i64 (k:Nat)]
structure PSt (w:World) (p cap n:Nat) (a:Option Addr) (L:List TokE) (s:S8):Prop where
 box:Bx w p 129 (pdC cap n a L s.k)
 toks:qw7 w a L
 low:∀ x,a=some x→∀ n,(x.add n).block<p
 len:L.length≤1000000
 at_:s.k≤L.length
 sized:∀ i,(L.getD i default).tx.size≤140737488351232
 real:∀ i,(L.getD i default).rl<18446744073709551616
 ok:s.bad=0
 tab:Tab w
 gp:0<p
section
variable {w w':World} {p cap n:Nat} {a:Option Addr} {L:List TokE} {s:S8}
theorem PSt.lt (h:PSt w p cap n a L s):p<w.heap.size:=h.box.lt
theorem PSt.toks_of (h:PSt w p cap n a L s) (hb:∀ b,b<p→w'.heap[b]?=w.heap[b]?):qw7 w' a L:=qfW h.toks (fun x hx n=>hb _ (h.low x hx n))
theorem PSt.same (h:PSt w p cap n a L s) (hb:∀ b,b≤p→w'.heap[b]?=w.heap[b]?):PSt w' p cap n a L s :=
 ⟨(hb p (Nat.le_refl _)).trans h.box,h.toks_of (fun b hl=>hb b (Nat.le_of_lt hl)),h.low,h.len,h.at_,h.sized,h.real,h.ok,h.tab.of_block (hb _ (Nat.le_of_lt h.gp)),h.gp⟩
theorem PSt.below (h:PSt w p cap n a L s) (hb:Below w.heap.size w w'):PSt w' p cap n a L s:=h.same (fun b hl=>hb.block b (Nat.lt_of_le_of_lt hl h.lt))
theorem PSt.jump (h:PSt w p cap n a L s) (q:Nat) (hk:q≤L.length):PSt (w.setCell ⟨p,2,none⟩ (.int .i64 (q:Nat))) p cap n a L ⟨q,s.bad,s.pl⟩ :=
 ⟨h.box.set 2 _,q3K h.toks h.low _ _,h.low,h.len,hk,h.sized,h.real,h.ok,h.tab.of_block (Below.heap_setCell _ _ _ _ (by show _≠p;have:=h.gp;omega)),h.gp⟩
theorem PSt.next (h:PSt w p cap n a L s) (hk:s.k<L.length):PSt (w.setCell ⟨p,2,none⟩ (.int .i64 ((s.k+1:Nat):Int))) p cap n a L (qa6 s):=h.jump (s.k+1) hk
theorem PSt.cells (h:PSt w p cap n a L s):w.cell? ⟨p,0,none⟩=some (.slice a L.length cap)∧w.cell? ⟨p,1,none⟩=some (.int .i64 (n:Nat))∧w.cell? ⟨p,2,none⟩=some (.int .i64 (s.k:Nat)):=⟨h.box.c 0 rfl,h.box.c 1 rfl,h.box.c 2 rfl⟩
end
def qb0 (s:S8):Ending:=.panicked [{ v:=.iface 127 (.agg #[.int .i64 s.pl,.int .i64 s.bad]),recovered:=false }]
def Go8 (p cap n:Nat) (a:Option Addr) (L:List TokE) (R:S8) (V:Ending→World→Prop) (w:World) (e:Ending) (w':World):Prop :=
 ((V e w'∧PSt w' p cap n a L R)∨(R.bad≠0∧e=qb0 R))∧Eff p w w'
def nxT (L:List TokE) (n k:Nat):TokE:=if k<L.length then tkE L k else ⟨0,⟨#[]⟩,0,0,n,0⟩
def tkA (t:TokE):Value:=.agg #[.int .i64 t.kd,.string t.tx,.int .i64 t.iv,.float .f64 t.rl,.int .i64 t.pl,.int .i64 t.sz]
theorem jcO (L:List TokE) (n k:Nat):(nxT L n k).pl=plc L n (k:Nat):=by
 unfold nxT plc;by_cases h:k<L.length
 ·rw[if_pos h,if_pos (by omega)];rfl
 ·rw[if_neg h,if_neg (by omega)]
open Lib(hid)
set_option maxHeartbeats 4000000
def tkCp (t:TokE):List Value:=[.int .i64 t.kd,.string t.tx,.int .i64 t.iv,.float .f64 t.rl,.int .i64 t.pl,.int .i64 t.sz]
def zTk:List Value:=[.int .i64 0,.string ⟨#[]⟩,.int .i64 0,.float .f64 0,.int .i64 0,.int .i64 0]
theorem qzA {fn:Func} {p:Tmp} {tmps:Array Value} {W:World} {g:Nat} {t:TokE} (hf:fn.results=#[.cell p 158]) (hp:tmps.getD p undef=.pointer (some ⟨g,0,none⟩)) (h:Bx W g 158 (tkCp t)) :
  (results fn tmps).run Tryz.prog W=.ok (tkA t) W:=results_cell_row hf _ _ g 158 _ (0,0) _ hp h Tryz.underlying158 rfl (by kernel_rfl)
theorem set6 {W:World} {g:Nat} (t:TokE) (h:Bx W g 158 zTk):Bx ((((((W.setCell ⟨g,0,none⟩ (.int .i64 t.kd)).setCell ⟨g,1,none⟩ (.string t.tx)).setCell ⟨g,2,none⟩ (.int .i64 t.iv)).setCell ⟨g,3,none⟩ (.float .f64 t.rl)).setCell ⟨g,4,none⟩ (.int .i64 t.pl)).setCell ⟨g,5,none⟩ (.int .i64 t.sz)) g 158 (tkCp t):=(((((h.set 0 _).set 1 _).set 2 _).set 3 _).set 4 _).set 5 _
theorem bel6 {w W:World} {g:Nat} (t:TokE) (h:Below g w W):Below g w ((((((W.setCell ⟨g,0,none⟩ (.int .i64 t.kd)).setCell ⟨g,1,none⟩ (.string t.tx)).setCell ⟨g,2,none⟩ (.int .i64 t.iv)).setCell ⟨g,3,none⟩ (.float .f64 t.rl)).setCell ⟨g,4,none⟩ (.int .i64 t.pl)).setCell ⟨g,5,none⟩ (.int .i64 t.sz)):=(((((h.setCell (Nat.le_refl _) _).setCell (Nat.le_refl _) _).setCell (Nat.le_refl _) _).setCell (Nat.le_refl _) _).setCell (Nat.le_refl _) _).setCell (Nat.le_refl _) _
theorem ql7 {g:Nat} {w W:World} (k:Nat) (h:Below g w W):Below g w (W.drewN k):=h.trans ⟨rfl,rfl,rfl,Nat.le_refl _,fun _ _=>rfl⟩
theorem qy1 {W:World} {g:Nat} {T:TypeId} {c:List Value} (k:Nat) (h:Bx W g T c):Bx (W.drewN k) g T c:=h
theorem qiP (p cap n:Nat) (a:Option Addr) (L:List TokE) (s:S8) (w:World) (h:PSt w p cap n a L s) :
  Calls Tryz.prog 104 #[.pointer (some ⟨p,0,none⟩)] w fun e w'=>e=.returned (tkA (nxT L n s.k))∧Below w.heap.size w w':=by
 obtain⟨W0,hW0⟩:∃ W0,W0=w.alloc (.cells #[.int .i64 0,.string ⟨#[]⟩,.int .i64 0,.float .f64 0,.int .i64 0,.int .i64 0] 158):=⟨_,rfl⟩
 have hx0:Bx W0 w.heap.size 158 zTk:=by rw[hW0];exact Bx.new w _ zTk
 have hb0:Below w.heap.size w W0:=by rw[hW0];exact(Below.refl _ w).alloc (Nat.le_refl _) _
 have h0:=h.below hb0;obtain⟨c0,c1,c2⟩:=h0.cells;have hlen:=h.len;have hat:=h.at_;have hlt:=h.lt;have sf:=qbQ;have z:=fun o=>hx0.fz o;have z0:=z 0;have z1:=z 1;have z2:=z 2;have z3:=z 3;have z4:=z 4;have z5:=z 5;have y0:=hx0.c 0 rfl;have y1:=hx0.c 1 rfl;have y2:=hx0.c 2 rfl;have y3:=hx0.c 3 rfl;have y4:=hx0.c 4 rfl;have y5:=hx0.c 5 rfl;have HX0:=hid hx0;have HB0:=hid hb0;have HW0:=hid hW0;unfold nxT;by_cases hk:s.k<L.length
 ·rw[if_pos hk];obtain⟨x,rfl,t0,t1,t2,t3,t4,t5⟩:=h0.toks s.k hk;have hre:(L.getD s.k default).rl<18446744073709551616:=h.real _;have d1:((s.k:Int)==(L.length:Int))=false:=beq_eq_false_iff_ne.2 (by omega);have e2:(0:Int)≤(s.k:Int):=by omega
  have e3:(s.k:Int)<(L.length:Int):=by omega
  unfold tkE;generalize L.getD s.k default=t at *
  clear h h0 hx0 hb0 hW0 z;generalize s.k=k at *
  generalize L.length=N at *
  go_enter Tryz.func104,Tryz.ntmps104;go_upto_region 1 with (fail);rw[← HW0.out];go_quiet (fail);go_upto_region 3 with (fail);go_region
  all_goals go_wp2
  exact bodyPost_ret (qzA rfl rfl (set6 t (qy1 _ HX0.out))) rfl ⟨rfl,bel6 t (ql7 _ HB0.out)⟩
 ·rw[if_neg hk];have hk2:s.k=L.length:=by omega
  rw[hk2] at c2;have d1:((L.length:Int)==(L.length:Int))=true:=beq_self_eq_true _;clear h h0 hx0 hb0 hW0 z hk hk2;generalize L.length=N at *
  go_enter Tryz.func104,Tryz.ntmps104;go_upto_region 1 with (fail);rw[← HW0.out];go_quiet (fail);go_wp2;exact bodyPost_ret (qzA rfl rfl (set6 ⟨0,⟨#[]⟩,0,0,n,0⟩ (qy1 _ HX0.out))) rfl ⟨rfl,bel6 ⟨0,⟨#[]⟩,0,0,n,0⟩ (ql7 _ HB0.out)⟩
theorem qe1 (p cap n:Nat) (a:Option Addr) (L:List TokE) (s:S8) (fault:Int) (w:World) (h:PSt w p cap n a L s) :
  Calls Tryz.prog 66 #[.pointer (some ⟨p,0,none⟩),.int .i64 fault] w fun e w'=>e=qb0 (qcB L n s s.k fault)∧Below w.heap.size w w':=by
 have HN:=hid (qiP p cap n a L s w h);unfold qb0 qcB;rw[if_pos h.ok,← jcO];obtain⟨T,hT⟩:∃ T,T=nxT L n s.k:=⟨_,rfl⟩
 rw[← hT] at HN ⊢;clear hT h;obtain⟨tk,ttx,tiv,trl,tpl,tsz⟩:=T;unfold tkA at HN;simp only at HN ⊢;have hfd:∀ W:World,(Instr.field 158 (.agg #[.int .i64 tk,.string ttx,.int .i64 tiv,.float .f64 trl,.int .i64 tpl,.int .i64 tsz]) 4).run Tryz.prog W=.ok (.int .i64 tpl) W:=fun _=>by kernel_rfl
 go_enter Tryz.func66,Tryz.ntmps66;go_wp2_with (go_at_call 104;(with_reducible refine HN.out.mono ?_);rintro e w1 ⟨rfl,hb⟩;have HB:=hid hb;clear hb);exact⟨rfl,rfl,HB.out⟩
abbrev Pt8 (p cap n:Nat) (a:Option Addr) (L:List TokE) (s:S8) (w:World) (w':World):Prop:=PSt w' p cap n a L s∧Eff p w w'
theorem jcU (L:List TokE) (n:Nat) (s:S8) (m:ByteArray) (hb:s.bad=0):isB L s m=((decide ((nxT L n s.k).kd=1) || decide ((nxT L n s.k).kd=5)) && decide ((nxT L n s.k).tx=m)):=by
 unfold isB nxT;rw[decide_eq_true hb,Bool.true_and];by_cases h:s.k<L.length
 ·rw[decide_eq_true h,if_pos h,Bool.true_and]
 ·rw[decide_eq_false h,if_neg h,Bool.false_and];rfl
theorem qqE (p cap n:Nat) (a:Option Addr) (L:List TokE) (s:S8) (m:ByteArray) (w:World) (h:PSt w p cap n a L s) :
  Calls Tryz.prog 67 #[.pointer (some ⟨p,0,none⟩),.string m] w fun e w'=>e=.returned (.bool (isB L s m))∧Pt8 p cap n a L (q3R L s m) w w':=by
 have HN:=hid (qiP p cap n a L s w h);have HH:=hid h;have hlen:=h.len;have his:=jcU L n s m h.ok;have HT:=hid (show isB L s m=true→s.k<L.length from fun hi=>(qi4 hi).2.1);have hud:undef=.tuple #[]:=rfl;have sf:=qbQ;unfold q3R;obtain⟨T,hT⟩:∃ T,T=nxT L n s.k:=⟨_,rfl⟩
 rw[← hT] at HN his;have e1:=bEq8 T.tx m;have e2:(T.tx.toList != m.toList)=!decide (T.tx=m):=by rw[bne,e1]
 obtain⟨tk,ttx,tiv,trl,tpl,tsz⟩:=T;unfold tkA at HN;simp only at HN his e1 e2;clear h hT;generalize decide (ttx=m)=q at his e1 e2;cases q with
 | false =>
  have hi:isB L s m=false:=by rw[his,Bool.and_false]
  rw[hi,if_neg (by decide)];clear his hi HT;go_enter Tryz.func67,Tryz.ntmps67;go_upto_region 2 with (go_at_call 104;(with_reducible refine HN.out.mono ?_);rintro e w1 ⟨rfl,hb⟩;have HS:=hid (HH.out.below hb);have HE:=hid (Eff.of_below hb HH.out.lt);clear hb);have hb2:Below w1.heap.size w1 (w1.alloc (.cells #[.int .i64 tk,.string ttx,.int .i64 tiv,.float .f64 trl,.int .i64 tpl,.int .i64 tsz] 158)):=(Below.refl _ _).alloc (Nat.le_refl _) _;have HX:Hid (Bx (w1.alloc (.cells #[.int .i64 tk,.string ttx,.int .i64 tiv,.float .f64 trl,.int .i64 tpl,.int .i64 tsz] 158)) w1.heap.size 158 [.int .i64 tk,.string ttx,.int .i64 tiv,.float .f64 trl,.int .i64 tpl,.int .i64 tsz]):=hid (Bx.new w1 _ _);have HS2:=hid (HS.out.below hb2);have HE2:=hid (HE.out.trans (Eff.of_below hb2 HS.out.lt));generalize w1.alloc (.cells #[.int .i64 tk,.string ttx,.int .i64 tiv,.float .f64 trl,.int .i64 tpl,.int .i64 tsz] 158)=W1 at HX HS2 HE2 ⊢;have x0:=HX.out.c 0 rfl;have x1:=HX.out.c 1 rfl;clear hb2 HS HE;go_wp2;go_ret;exact⟨rfl,HS2.out,HE2.out⟩
 | true =>
  rw[Bool.and_true] at his;by_cases h1:tk=1
  ·subst h1;have hi:isB L s m=true:=by rw[his];rfl
   rw[hi] at HT ⊢;rw[if_pos rfl];clear his hi;go_enter Tryz.func67,Tryz.ntmps67;go_upto_region 2 with (go_at_call 104;(with_reducible refine HN.out.mono ?_);rintro e w1 ⟨rfl,hb⟩;have HS:=hid (HH.out.below hb);have HE:=hid (Eff.of_below hb HH.out.lt);clear hb);have hb2:Below w1.heap.size w1 (w1.alloc (.cells #[.int .i64 1,.string ttx,.int .i64 tiv,.float .f64 trl,.int .i64 tpl,.int .i64 tsz] 158)):=(Below.refl _ _).alloc (Nat.le_refl _) _;have HX:Hid (Bx (w1.alloc (.cells #[.int .i64 1,.string ttx,.int .i64 tiv,.float .f64 trl,.int .i64 tpl,.int .i64 tsz] 158)) w1.heap.size 158 [.int .i64 1,.string ttx,.int .i64 tiv,.float .f64 trl,.int .i64 tpl,.int .i64 tsz]):=hid (Bx.new w1 _ _);have HS2:=hid (HS.out.below hb2);have HE2:=hid (HE.out.trans (Eff.of_below hb2 HS.out.lt));generalize w1.alloc (.cells #[.int .i64 1,.string ttx,.int .i64 tiv,.float .f64 trl,.int .i64 tpl,.int .i64 tsz] 158)=W1 at HX HS2 HE2 ⊢;have x0:=HX.out.c 0 rfl;have x1:=HX.out.c 1 rfl;clear hb2 HS HE;have c2:=HS2.out.cells.2.2;have f2:=HS2.out.box.fz 2;have HK:=hid (HS2.out.next (HT.out (by first|exact rfl|exact trivial)));have HE3:=hid (HE2.out.set 2 (.int .i64 ((s.k+1:Nat):Int)));have hkb:=HT.out (by first|exact rfl|exact trivial);generalize s.k=k at c2 hkb HK HE3;go_upto_region 5 with (fail);rw[show (k:Int)+1=((k+1:Nat):Int) from rfl];generalize W1.setCell ⟨p,2,none⟩ (.int .i64 ((k+1:Nat):Int))=WM at HK HE3 ⊢;go_wp2;go_ret;exact⟨rfl,HK.out,HE3.out⟩
  by_cases h5:tk=5
  ·subst h5;have hi:isB L s m=true:=by rw[his];rfl
   rw[hi] at HT ⊢;rw[if_pos rfl];clear his hi;go_enter Tryz.func67,Tryz.ntmps67;go_upto_region 2 with (go_at_call 104;(with_reducible refine HN.out.mono ?_);rintro e w1 ⟨rfl,hb⟩;have HS:=hid (HH.out.below hb);have HE:=hid (Eff.of_below hb HH.out.lt);clear hb);have hb2:Below w1.heap.size w1 (w1.alloc (.cells #[.int .i64 5,.string ttx,.int .i64 tiv,.float .f64 trl,.int .i64 tpl,.int .i64 tsz] 158)):=(Below.refl _ _).alloc (Nat.le_refl _) _;have HX:Hid (Bx (w1.alloc (.cells #[.int .i64 5,.string ttx,.int .i64 tiv,.float .f64 trl,.int .i64 tpl,.int .i64 tsz] 158)) w1.heap.size 158 [.int .i64 5,.string ttx,.int .i64 tiv,.float .f64 trl,.int .i64 tpl,.int .i64 tsz]):=hid (Bx.new w1 _ _);have HS2:=hid (HS.out.below hb2);have HE2:=hid (HE.out.trans (Eff.of_below hb2 HS.out.lt));generalize w1.alloc (.cells #[.int .i64 5,.string ttx,.int .i64 tiv,.float .f64 trl,.int .i64 tpl,.int .i64 tsz] 158)=W1 at HX HS2 HE2 ⊢;have x0:=HX.out.c 0 rfl;have x1:=HX.out.c 1 rfl;clear hb2 HS HE;have c2:=HS2.out.cells.2.2;have f2:=HS2.out.box.fz 2;have HK:=hid (HS2.out.next (HT.out (by first|exact rfl|exact trivial)));have HE3:=hid (HE2.out.set 2 (.int .i64 ((s.k+1:Nat):Int)));have hkb:=HT.out (by first|exact rfl|exact trivial);generalize s.k=k at c2 hkb HK HE3;go_upto_region 5 with (fail);rw[show (k:Int)+1=((k+1:Nat):Int) from rfl];generalize W1.setCell ⟨p,2,none⟩ (.int .i64 ((k+1:Nat):Int))=WM at HK HE3 ⊢;go_wp2;go_ret;exact⟨rfl,HK.out,HE3.out⟩
  have hi:isB L s m=false:=by rw[his,decide_eq_false h1,decide_eq_false h5];rfl
  rw[hi,if_neg (by decide)];have d1:(tk==1)=false:=beq_eq_false_iff_ne.2 h1;have d5:(tk==5)=false:=beq_eq_false_iff_ne.2 h5;have d1':(tk != 1)=true:=by rw[bne,d1];rfl
  have d5':(tk != 5)=true:=by rw[bne,d5];rfl
  clear his hi HT h1 h5;go_enter Tryz.func67,Tryz.ntmps67;go_upto_region 2 with (go_at_call 104;(with_reducible refine HN.out.mono ?_);rintro e w1 ⟨rfl,hb⟩;have HS:=hid (HH.out.below hb);have HE:=hid (Eff.of_below hb HH.out.lt);clear hb);have hb2:Below w1.heap.size w1 (w1.alloc (.cells #[.int .i64 tk,.string ttx,.int .i64 tiv,.float .f64 trl,.int .i64 tpl,.int .i64 tsz] 158)):=(Below.refl _ _).alloc (Nat.le_refl _) _;have HX:Hid (Bx (w1.alloc (.cells #[.int .i64 tk,.string ttx,.int .i64 tiv,.float .f64 trl,.int .i64 tpl,.int .i64 tsz] 158)) w1.heap.size 158 [.int .i64 tk,.string ttx,.int .i64 tiv,.float .f64 trl,.int .i64 tpl,.int .i64 tsz]):=hid (Bx.new w1 _ _);have HS2:=hid (HS.out.below hb2);have HE2:=hid (HE.out.trans (Eff.of_below hb2 HS.out.lt));generalize w1.alloc (.cells #[.int .i64 tk,.string ttx,.int .i64 tiv,.float .f64 trl,.int .i64 tpl,.int .i64 tsz] 158)=W1 at HX HS2 HE2 ⊢;have x0:=HX.out.c 0 rfl;have x1:=HX.out.c 1 rfl;clear hb2 HS HE;go_wp2;go_ret;exact⟨rfl,HS2.out,HE2.out⟩
theorem qbS {p cap n:Nat} {a:Option Addr} {L:List TokE} {s:S8} {m:ByteArray} {w:World} (h:PSt w p cap n a L s) (hi:isB L s m=true) :
  Calls Tryz.prog 67 #[.pointer (some ⟨p,0,none⟩),.string m] w fun e w'=>e=.returned (.bool true)∧Pt8 p cap n a L (qa6 s) w w':=by
 have:=qqE p cap n a L s m w h;unfold q3R at this;rw[hi,if_pos rfl] at this;exact this
theorem qbD {p cap n:Nat} {a:Option Addr} {L:List TokE} {s:S8} {m:ByteArray} {w:World} (h:PSt w p cap n a L s) (hi:isB L s m=false) :
  Calls Tryz.prog 67 #[.pointer (some ⟨p,0,none⟩),.string m] w fun e w'=>e=.returned (.bool false)∧Pt8 p cap n a L s w w':=by
 have:=qqE p cap n a L s m w h;unfold q3R at this;rw[hi,if_neg (by decide)] at this;exact this
theorem qaW (p cap n:Nat) (a:Option Addr) (L:List TokE) (s:S8) (m:ByteArray) (w:World) (h:PSt w p cap n a L s) :
  Calls Tryz.prog 69 #[.pointer (some ⟨p,0,none⟩),.string m] w (Go8 p cap n a L (qa7 L n s m) (fun e _=>e=.returned (.tuple #[])) w):=by
 have HH:=hid h;unfold Go8;cases hi:isB L s m with
 | true =>
  rw[qkO hi];have HI:=hid hi;clear h hi;go_enter Tryz.func69,Tryz.ntmps69;go_wp2_with (go_at_call 67;(with_reducible refine(qbS HH.out HI.out).mono ?_);rintro e w1 ⟨rfl,hs⟩;have HS:=hid hs;clear hs);go_end0;exact⟨.inl ⟨rfl,HS.out.1⟩,HS.out.2⟩
 | false =>
  rw[qo8 hi];have HI:=hid hi;have HB:Hid ((qcB L n s s.k 80).bad≠0):=hid (by rw[qe2 h.ok];decide);have HG:=hid (fun W (hW:PSt W p cap n a L s)=>qe1 p cap n a L s 80 W hW);generalize qcB L n s s.k 80=R at HB HG ⊢;clear h hi;go_enter Tryz.func69,Tryz.ntmps69;go_wp2_with (first
   | (go_at_call 67;(with_reducible refine(qbD HH.out HI.out).mono ?_);rintro e w1 ⟨rfl,hs⟩;have HS:=hid hs;clear hs)
   | (go_at_call 66;(with_reducible refine(HG.out w1 HS.out.1).mono ?_);rintro e w2 ⟨rfl,hb⟩;have HE:=hid (HS.out.2.trans (Eff.of_below hb HS.out.1.lt));clear hb;unfold qb0))
  exact⟨rfl,.inr ⟨HB.out,rfl⟩,HE.out⟩
end Go.Proofs.YtenlhcgpajphhaaGreatDoor
