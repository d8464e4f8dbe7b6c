import Derived.Test.YtenlhcgpajphhaaGreatDoorMDpKind
import Derived.Test.YtenlhcgpajphhaaGreatDoorMEpScan
import Derived.Test.YtenlhcgpajphhaaGreatDoorMDrBegun
import Derived.Recover
namespace Go.Proofs.YtenlhcgpajphhaaGreatDoor
open Go.RowKit Go.Shelf
open Lib(hid)
set_option maxRecDepth 100000
set_option linter.all false
set_option maxHeartbeats 8000000
theorem qyB {W:World} {g:Nat} {T:TypeId} {c:List Value} (h:Bx W g T c):Bx W.drew g T c:=h
def zProg:ProgE:=⟨[],[]⟩
noncomputable def qgO (l:List UInt8) (n:Nat):ProgE × Int × Int :=
 if (qdF l).2.2≠0 then (zProg,(((qdF l).2.1:Nat):Int),(((qdF l).2.2:Nat):Int))
 else if (qj1 (qb2 l) n (qcP (qb2 l) n (qaX (qb2 l)) ⟨0,0,0⟩ ⟨[],[]⟩).1).bad=0 then ((qcP (qb2 l) n (qaX (qb2 l)) ⟨0,0,0⟩ ⟨[],[]⟩).2,0,0)
 else (zProg,(qj1 (qb2 l) n (qcP (qb2 l) n (qaX (qb2 l)) ⟨0,0,0⟩ ⟨[],[]⟩).1).pl,(qj1 (qb2 l) n (qcP (qb2 l) n (qaX (qb2 l)) ⟨0,0,0⟩ ⟨[],[]⟩).1).bad)
theorem q66 (lo:Nat) (w:World):Itm qfR lo w [.slice none 0 0,.slice none 0 0] zProg :=
 ⟨[],⟨_,_,[],[],[],[],rfl,rfl,ListV.nil _ _ _ _,ListV.nil _ _ _ _⟩,Good.nil _ _⟩
theorem qgV {lo:Nat} {w:World} {tv kv:Value} {x:ProgE} (h:Itm qfR lo w [tv,kv] x):(∃ ad m c,tv=.slice ad m c)∧∃ ad m c,kv=.slice ad m c:=by
 obtain⟨F,⟨tv',kv',dt,dk,F1,F2,hc,_,h1,h2⟩,_⟩:=h;cases hc;refine⟨?_,?_⟩
 ·rcases h1.row.2 with ⟨rfl,_⟩|⟨g,cap,cur,rfl,_⟩
  ·exact⟨_,_,_,rfl⟩
  ·exact⟨_,_,_,rfl⟩
 ·rcases h2.row.2 with ⟨rfl,_⟩|⟨g,cap,cur,rfl,_⟩
  ·exact⟨_,_,_,rfl⟩
  ·exact⟨_,_,_,rfl⟩
def qiA (R:ProgE × Int × Int) (w:World) (e:Ending) (w':World):Prop :=
 ∃ tv kv,e=.returned (.tuple #[.agg #[tv,kv],.int .i64 R.2.1,.int .i64 R.2.2])∧Itm qfR w.heap.size w' [tv,kv] R.1∧Below w.heap.size w w'
def q60 (pa pf:Nat) (pl bad:Int) (w w':World):Prop :=
 Bx w' pa 3 [.int .i64 pl]∧Bx w' pf 30 [.int .i64 bad]∧(∀ B,B≤pa→B≤pf→B≤w.heap.size→Below B w w')∧∀ b,b<w.heap.size→b≠pa→b≠pf→w'.heap[b]?=w.heap[b]?
theorem qgP {fn:Func} {p q r:Tmp} {t1 t2 t3:TypeId} (h:fn.results=#[.cell p t1,.cell q t2,.cell r t3]) (tmps:Array Value) (P:Program) (w:World) :
  (results fn tmps).run P w =
   ((asAddr (tmps.getD p undef)).run P w).andThen fun a w₁=>((loadVar t1 a).run P w₁).andThen fun v w₂ =>
   ((asAddr (tmps.getD q undef)).run P w₂).andThen fun a w₃=>((loadVar t2 a).run P w₃).andThen fun v2 w₄ =>
   ((asAddr (tmps.getD r undef)).run P w₄).andThen fun a w₅=>((loadVar t3 a).run P w₅).andThen fun v3 w₆=>.ok (.tuple #[v,v2,v3]) w₆:=by
 simp only[results,h];simp[Sem.run_bind,Result.andThen]
theorem q0Q {fn:Func} {p q r:Tmp} {tmps:Array Value} {W:World} {g:Nat} {u v:Value} {x y:Int} (hf:fn.results=#[.cell p 26,.tmp q,.tmp r]) (hp:tmps.getD p undef=.pointer (some ⟨g,0,none⟩))
  (h2:tmps.getD q undef=.int .i64 x) (h3:tmps.getD r undef=.int .i64 y) (h:Bx W g 26 [u,v]) :
  (results fn tmps).run Tryz.prog W=.ok (.tuple #[.agg #[u,v],.int .i64 x,.int .i64 y]) W:=by
 have hl:=run_loadVar_row (P:=Tryz.prog) W g 26 26 [u,v].toArray (0,0) _ h Tryz.underlying26 rfl (by kernel_rfl);have hp':tmps[p]?.getD undef=.pointer (some ⟨g,0,none⟩):=by simpa using hp
 have h2':tmps[q]?.getD undef=.int .i64 x:=by simpa using h2
 have h3':tmps[r]?.getD undef=.int .i64 y:=by simpa using h3
 simp only[results,hf];simp[hp',h2',h3',asAddr,hl,Sem.run_bind,Result.andThen]
theorem qwY (args:Array Value) (hz:args.size=2) (w:World):CallsD Tryz.prog 65 args .returning w fun e u' w'=>e=.returned (.tuple #[])∧u'=.returning∧w'=w:=by
 refine callsD_of_wpS Tryz.func65 rfl fun c₀ cs hu=>?_;obtain⟨v0,v1,rfl⟩:∃ v0 v1,args=#[v0,v1]:=by
  obtain⟨l⟩:=args
  match l,hz with
  | [a,b],_=>exact⟨a,b,rfl⟩
 apply wpS_seq;apply wpS_region;simp[wpOpsS,go_sem,recoverD,hu,Tryz.ntmps65,Exit.thenS];refine wpS_of_wp (Code.wp_mono (Q:=fun e a' w'=>(e=.normal∨e=.ret)∧a'.defers=[]∧w'=w) ?_ ?_)
 ·rintro e a' w' ⟨he,hd,hs⟩;cases c₀;rcases he with rfl|rfl <;> simp_all [bodyPostS,results,Tryz.results65,Exit.thenS]
 refine Eq.mpr (congrArg (fun t:Array Value=>Code.wp Tryz.prog _ _ ⟨t,[]⟩ w) (show _=(#[v0,v1,.nilIface,undef,.nilIface,undef,undef,undef,undef,undef,undef,undef,undef]:Array Value) from rfl)) ?_;go_wp2
theorem qsJ (pa pf:Nat) (pl bad:Int) (va vf:Value) (w:World) (hxa:Bx w pa 3 [va]) (hxf:Bx w pf 30 [vf]) (haf:pa≠pf) :
  CallsD Tryz.prog 65 #[.pointer (some ⟨pa,0,none⟩),.pointer (some ⟨pf,0,none⟩)] (.panicking [{ v:=.iface 127 (.agg #[.int .i64 pl,.int .i64 bad]),recovered:=false }]) w fun e u' w' =>
   e=.returned (.tuple #[])∧u'=.panicking [{ v:=.iface 127 (.agg #[.int .i64 pl,.int .i64 bad]),recovered:=true }]∧q60 pa pf pl bad w w':=by
 refine callsD_of_wpS Tryz.func65 rfl fun c₀ cs hu=>?_;apply wpS_seq;apply wpS_region;simp[wpOpsS,go_sem,recoverD,hu,Tryz.ntmps65,Exit.thenS];refine wpS_of_wp (Code.wp_mono (Q:=fun e a' w'=>(e=.normal∨e=.ret)∧a'.defers=[]∧q60 pa pf pl bad w w') ?_ ?_)
 ·rintro e a' w' ⟨he,hd,hs⟩;rcases he with rfl|rfl <;> simp_all [bodyPostS,results,Tryz.results65,Exit.thenS]
 refine Eq.mpr (congrArg (fun t:Array Value=>Code.wp Tryz.prog _ _ ⟨t,[]⟩ w) (show _=(#[.pointer (some ⟨pa,0,none⟩),.pointer (some ⟨pf,0,none⟩),.iface 127 (.agg #[.int .i64 pl,.int .i64 bad]),undef,.iface 127 (.agg #[.int .i64 pl,.int .i64 bad]),undef,undef,undef,undef,undef,undef,undef,undef]:Array Value) from rfl)) ?_;have hass:∀ (v:Value) (W:World),(Instr.typeAssert (.iface 127 v) 20 127 false).run Tryz.prog W=.ok v W:=fun v W=>rfl;go_wp2_with (fail);obtain⟨W1,hW1⟩:∃ W1,W1=w.alloc (.cells #[.int .i64 pl,.int .i64 bad] 127):=⟨_,rfl⟩
 have hb1:Below w.heap.size w W1:=by rw[hW1];exact(Below.refl _ w).alloc (Nat.le_refl _) _
 have hg:Bx W1 w.heap.size 127 [.int .i64 pl,.int .i64 bad]:=by rw[hW1];exact Bx.new w _ _
 rw[← hW1];have g0:=hg.c 0 rfl;have g1:=hg.c 1 rfl;have ha1:=hxa.keep hb1 hxa.lt;have hf1:=hxf.keep hb1 hxf.lt;have a0:=ha1.c 0 rfl;have f0:=hf1.c 0 rfl;have az:=ha1.fz 0;have fz:=hf1.fz 0;have HA:=hid ha1;have HF:=hid hf1;have HB1:=hid hb1;have lta:=hxa.lt;have ltf:=hxf.lt;clear hxa hxf ha1 hf1 hg hW1 hb1;go_region;have X2:Bx (W1.setCell ⟨pa,0,none⟩ (.int .i64 pl)) pa 3 [.int .i64 pl]:=HA.out.set 0 _;have X3:Bx (W1.setCell ⟨pa,0,none⟩ (.int .i64 pl)) pf 30 [vf]:=HF.out.other (Ne.symm haf) _ _;exact⟨.inl rfl,rfl,X2.other haf _ _,X3.set 0 _,fun B h1 h2 h3=>(((HB1.out.mono h3).setCell h1 _).setCell h2 _).drew,fun b hb h1 h2=>(Below.heap_setCell _ _ _ _ h2).trans ((Below.heap_setCell _ _ _ _ h1).trans (HB1.out.block b hb))⟩
theorem qlD {fn:Func} {p q r:Tmp} {tmps:Array Value} {W:World} {b1 b2 b3:Nat} {u v:Value} {x y:Int} (hf:fn.results=#[.cell p 26,.cell q 3,.cell r 30])
  (h1:tmps.getD p undef=.pointer (some ⟨b1,0,none⟩)) (h2:tmps.getD q undef=.pointer (some ⟨b2,0,none⟩)) (h3:tmps.getD r undef=.pointer (some ⟨b3,0,none⟩))
  (x1:Bx W b1 26 [u,v]) (x2:Bx W b2 3 [.int .i64 x]) (x3:Bx W b3 30 [.int .i64 y]) :
  (results fn tmps).run Tryz.prog W=.ok (.tuple #[.agg #[u,v],.int .i64 x,.int .i64 y]) W:=by
 have k2:=x2.c 0 rfl;have k3:=x3.c 0 rfl;have hl:=run_loadVar_row (P:=Tryz.prog) W b1 26 26 [u,v].toArray (0,0) _ x1 Tryz.underlying26 rfl (by kernel_rfl);have hl2:(loadVar 3 ⟨b2,0,none⟩).run Tryz.prog W=.ok (.int .i64 x) W:=by simp[go_sem,k2]
 have hl3:(loadVar 30 ⟨b3,0,none⟩).run Tryz.prog W=.ok (.int .i64 y) W:=by simp[go_sem,k3]
 rw[qgP hf,h1,h2,h3];simp[asAddr,hl,hl2,hl3,Result.andThen]
theorem qwG (a:Option Addr) (n cap:Nat) (l:List UInt8) (w:World) (hT:Txt w a n cap l) (hG:qq3 w) (hTab:Tab w) (hgs:0<w.heap.size) :
  Calls Tryz.prog 37 #[.slice a n cap,.func (.func 38) #[] #[]] w (qiA (qgO l n) w):=by
 have hmf:∀ (fn:Fn) (first cap:Array Value) (w:World),(Instr.makeFunc fn first cap).run Tryz.prog w=.ok (.func fn first cap) w:=fun _ _ _ _=>rfl;obtain⟨W0,hW0,x2,x3,x4,hb0,hs0⟩:=jcP w 26 3 30 [.slice none 0 0,.slice none 0 0] [.int .i64 0] [.int .i64 0];have HS:=hid (qrU a n cap l W0 (hT.below hb0 (Nat.le_refl _)) (hG.below hb0 (Nat.le_refl _)));have HTab:=hid (hTab.of_block (hb0.block _ hgs));have HGS:=hid hgs;have HW0:=hid hW0;have HX2:=hid x2;have HX3:=hid x3;have HX4:=hid x4;have HB0:=hid hb0;have HS0:=hid hs0;obtain⟨R,hR⟩:∃ R,R=qgO l n:=⟨_,rfl⟩
 rw[← hR];have HR:=hid hR;unfold q9U at HS;clear hW0 x2 x3 x4 hb0 hs0 hT hG hTab hgs hR
 go_enter_defers Tryz.func37,Tryz.ntmps37
 go_upto_region 1 with (fail);rw[← HW0.out];go_upto_region 2 with (go_at_call 64;(with_reducible refine HS.out.mono ?_);rintro e w1 ⟨hsc,hb1⟩;have HB1:=hid hb1;have HY2:=hid (HX2.out.keep hb1 HX2.out.lt);have HY3:=hid (HX3.out.keep hb1 HX3.out.lt);have HY4:=hid (HX4.out.keep hb1 HX4.out.lt);have c2:=HY2.out.c 0 rfl;have c3:=HY3.out.c 0 rfl;have c4:=HY4.out.c 0 rfl;have f3:=HY3.out.fz 0;have f4:=HY4.out.fz 0;clear hb1;rcases hsc with ⟨he,v,rfl,ho⟩|⟨he,rfl⟩)
 ·obtain⟨av,vc,rfl,htoks,hblk⟩:=qu9 rfl ho;have hq:R=(if (qj1 (qb2 l) n (qcP (qb2 l) n (qaX (qb2 l)) ⟨0,0,0⟩ ⟨[],[]⟩).1).bad=0 then ((qcP (qb2 l) n (qaX (qb2 l)) ⟨0,0,0⟩ ⟨[],[]⟩).2,0,0) else (zProg,(qj1 (qb2 l) n (qcP (qb2 l) n (qaX (qb2 l)) ⟨0,0,0⟩ ⟨[],[]⟩).1).pl,(qj1 (qb2 l) n (qcP (qb2 l) n (qaX (qb2 l)) ⟨0,0,0⟩ ⟨[],[]⟩).1).bad)):=by
   rw[HR.out];unfold qgO;rw[if_neg (by omega)]
  have HTK:=hid htoks;have HBK:=hid hblk;have hlen:=qqF l;have HRL:=hid (qn0 l);have HSL:=hid (qmZ l);clear he ho htoks hblk HR;generalize qb2 l=L at *
  have HLEN:=hid hlen;have HZ:=hid (show w.heap.size+3≤w1.heap.size by have:=HB1.out.size;have:=HS0.out;omega);obtain⟨W3,hW3⟩:∃ W3,W3=(w1.setCell ⟨w.heap.size+1,0,none⟩ (.int .i64 0)).setCell ⟨w.heap.size+1+1,0,none⟩ (.int .i64 0):=⟨_,rfl⟩
  have hz3:W3.heap.size=w1.heap.size:=by rw[hW3];simp
  have z2:Bx W3 w.heap.size 26 [.slice none 0 0,.slice none 0 0]:=by rw[hW3];exact(HY2.out.other (by omega) _ _).other (by omega) _ _
  have z3:Bx W3 (w.heap.size+1) 3 [.int .i64 0]:=by rw[hW3];exact(HY3.out.set 0 _).other (by omega) _ _
  have z4:Bx W3 (w.heap.size+1+1) 30 [.int .i64 0]:=by rw[hW3];exact(HY4.out.other (by omega) _ _).set 0 _
  have hb3:Below w.heap.size w W3:=by rw[hW3];exact((HB0.out.trans (HB1.out.mono HB0.out.size)).setCell (by show w.heap.size≤w.heap.size+1;omega) _).setCell (by show w.heap.size≤w.heap.size+1+1;omega) _
  have htk:qw7 W3 av L:=qfW HTK.out (fun x hx k=>by
   have hk:=HBK.out x hx k;have:=HS0.out;rw[hW3];exact(Below.heap_setCell _ _ _ _ (by show (x.add k).block≠w.heap.size+1+1;omega)).trans (Below.heap_setCell _ _ _ _ (by show (x.add k).block≠w.heap.size+1;omega)))
  have htb:Tab W3:=(HTab.out.of_block (HB1.out.block _ (Nat.lt_of_lt_of_le HGS.out HB0.out.size))).of_block (by
   have:=HGS.out;rw[hW3];exact(Below.heap_setCell _ _ _ _ (by show 0≠w.heap.size+1+1;omega)).trans (Below.heap_setCell _ _ _ _ (by show 0≠w.heap.size+1;omega)))
  obtain⟨W4,hW4⟩:∃ W4,W4=W3.alloc (.cells #[.slice av L.length vc,.int .i64 (n:Nat),.int .i64 0] 129):=⟨_,rfl⟩
  have hb34:Below W3.heap.size W3 W4:=by rw[hW4];exact(Below.refl _ W3).alloc (Nat.le_refl _) _
  have hst:PSt W4 W3.heap.size vc n av L ⟨0,0,0⟩:=by
   refine⟨?_,qfW htk (fun x hx k=>hb34.block _ ?_),fun x hx k=>?_,by omega,Nat.zero_le _,HSL.out,HRL.out,rfl,htb.of_block (hb34.block _ ?_),?_⟩
   ·rw[hW4];exact heap_alloc_new _ _
   ·have:=HBK.out x hx k;omega
   ·have:=HBK.out x hx k;omega
   ·have:=HGS.out;have:=HZ.out;omega
   ·have:=HGS.out;have:=HZ.out;omega
  have HP:=hid (qxD W3.heap.size vc n av L ⟨0,0,0⟩ W4 hst);unfold Go8 at HP;generalize qcP L n (qaX L) ⟨0,0,0⟩ ⟨[],[]⟩=pr at HP hq;obtain⟨s2,x⟩:=pr;simp only at HP hq;have HQ:=hid hq;have HZ2:=hid z2;have HZ3:=hid z3;have HZ4:=hid z4;have HB3:=hid hb3;have HW3:=hid hW3;have HW4:=hid hW4;have HB34:=hid hb34;have HL3:=hid (show w.heap.size+3≤W3.heap.size by have:=HZ.out;omega);have HW:Hid (∀ W,Below W3.heap.size W4 W→Bx W w.heap.size 26 [.slice none 0 0,.slice none 0 0]∧Bx W (w.heap.size+1) 3 [.int .i64 0]∧Bx W (w.heap.size+1+1) 30 [.int .i64 0]∧Below w.heap.size w W):=hid (fun W hW=>by
   have hb:=HB34.out.trans hW;have:=HL3.out;exact⟨HZ2.out.keep hb (by omega),HZ3.out.keep hb (by omega),HZ4.out.keep hb (by omega),HB3.out.trans (hb.mono (by omega))⟩)
  have HD:Hid (∀ (W:World) (pl bad:Int) (tmps:Array Value),Below W3.heap.size W4 W→R=(zProg,pl,bad)→tmps.getD 4 undef=.pointer (some ⟨w.heap.size,0,none⟩)→tmps.getD 5 undef=.pointer (some ⟨w.heap.size+1,0,none⟩)→tmps.getD 6 undef=.pointer (some ⟨w.heap.size+1+1,0,none⟩) →
   Leaves Tryz.prog Tryz.f37 tmps (qiA R w) [{ target:=.fn (.func 65) #[.pointer (some ⟨w.heap.size+1,0,none⟩),.pointer (some ⟨w.heap.size+1+1,0,none⟩)],args:=#[] }]
    (.panicking [{ v:=.iface 127 (.agg #[.int .i64 pl,.int .i64 bad]),recovered:=false }]) W):=hid (fun W pl bad tmps hW hr h2 h3 h4=>by
   obtain⟨k1,k2,k3,k4⟩:=HW.out W hW;have l1:=k1.lt;have l3:=k3.lt;refine leaves_cons (f:=65) (args:=#[.pointer (some ⟨w.heap.size+1,0,none⟩),.pointer (some ⟨w.heap.size+1+1,0,none⟩)]) (by simp) (by simp[go_sem]) ?_;refine(qsJ (w.heap.size+1) (w.heap.size+1+1) pl bad _ _ W k2 k3 (by omega)).mono ?_;rintro e u' w' ⟨rfl,rfl,s1,s2,s3,s4⟩;rw[hr];exact⟨_,qlD rfl h2 h3 h4 (show Bx w' w.heap.size 26 [.slice none 0 0,.slice none 0 0] from (s4 _ l1 (by omega) (by omega)).trans k1) s1 s2,_,_,rfl,q66 _ _,k4.trans (s3 _ (by omega) (by omega) (by omega))⟩)
  clear hW3 hz3 z2 z3 z4 hb3 htk htb hW4 hb34 hst hq HTK HBK HRL HSL HTab HY2 HB1 hlen HS0 HZ;go_upto_region 5 with (fail);rw[← HW3.out];go_upto_region 6 with (fail);rw[← HW4.out];clear c2 c3 c4 f3 f4 HY3 HY4;generalize hp:W3.heap.size=p at *
  go_upto_region 7 with (go_at_call 38;(with_reducible refine HP.out.mono ?_);rintro e w5 ⟨hg,he⟩;have HE5:=hid he;clear he;replace hg:=Or.symm hg;rcases hg with ⟨hg,rfl⟩|⟨⟨tv,kv,rfl,hit⟩,hg⟩ <;> first|(obtain⟨⟨ua,ma,ka,rfl⟩,⟨ub,mb,kb,rfl⟩⟩:=qgV hit;have HIT:=hid hit;have HST5:=hid (show PSt w5 p vc n av L s2 from hg);clear hg hit)|(have HBD:=hid hg;clear hg;try unfold qb0))
  ·refine HD.out w5 s2.pl s2.bad _ HE5.out.1 ?_ rfl rfl rfl;have hes:qj1 L n s2=s2:=by unfold qj1;rw[if_neg (fun h=>HBD.out h.1)]
   rw[HQ.out,hes,if_neg HBD.out]
  obtain⟨W6,hW6⟩:∃ W6,W6=w5.alloc (.cells #[.slice ua ma ka,.slice ub mb kb] 26):=⟨_,rfl⟩
  have hb6:Below w5.heap.size w5 W6:=by rw[hW6];exact(Below.refl _ w5).alloc (Nat.le_refl _) _
  have HC6:=hid (show Bx W6 w5.heap.size 26 [.slice ua ma ka,.slice ub mb kb] by rw[hW6];exact Bx.new w5 _ _);have HST6:=hid (HST5.out.below hb6);have hlt5:=HST5.out.lt;have HB6:=hid (HE5.out.1.trans (hb6.mono (Nat.le_of_lt hlt5)));have HPW:=hid (show w.heap.size+3≤p∧p<W4.heap.size by have:=HL3.out;have:W4.heap.size=W3.heap.size+1:=(by rw[HW4.out];simp);omega);have HI6:=hid (HIT.out.same (w':=W6) qhM (fun b _ hb2=>hb6.block b hb2) hb6.size);rw[← hW6];have hwX:w.heap.size+3≤w5.heap.size:=by have:=HPW.out;omega
  generalize w5.heap.size=X at HC6 hwX ⊢;have c0:=HST6.out.cells.1;have c2:=HST6.out.cells.2.2;clear hW6 hb6 HIT HST5 HE5 hlt5;by_cases hk:s2.k<L.length
  ·have d1:decide ((s2.k:Int)<(L.length:Int))=true:=decide_eq_true (by omega);have d1n:decide (s2.k<L.length)=true:=decide_eq_true hk;have HGV:=hid (qe1 p vc n av L s2 80 W6 HST6.out);have HR3:Hid (R=(zProg,(qcB L n s2 s2.k 80).pl,(qcB L n s2 s2.k 80).bad)):=hid (by
    have hes:qj1 L n s2=qcB L n s2 s2.k 80:=by unfold qj1;rw[if_pos ⟨HST6.out.ok,hk⟩]
    rw[HQ.out,hes,if_neg (by rw[qe2 HST6.out.ok];decide)])
   clear hk HQ;go_wp2_with (go_at_call 66;(with_reducible refine HGV.out.mono ?_);rintro e w7 ⟨rfl,hb⟩;have HB7:=hid (HB6.out.trans (hb.mono (Nat.le_of_lt HST6.out.lt)));clear hb;unfold qb0);exact HD.out w7 _ _ _ HB7.out HR3.out rfl rfl rfl
  ·have d1:decide ((s2.k:Int)<(L.length:Int))=false:=decide_eq_false (by omega);have d1n:decide (s2.k<L.length)=false:=decide_eq_false hk;have HR3:Hid (R=(x,0,0)):=hid (by
    have hes:qj1 L n s2=s2:=by unfold qj1;rw[if_neg (fun h=>hk h.2)]
    rw[HQ.out,hes,if_pos HST6.out.ok])
   obtain⟨k1,k2,k3,k4⟩:=HW.out W6 HB6.out;have x0:=HC6.out.c 0 rfl;have x1:=HC6.out.c 1 rfl;have r0:=k1.c 0 rfl;have z0:=k1.fz 0;have r1:=k1.c 1 rfl;have z1:=k1.fz 1;have q2:=k2.c 0 rfl;have q3:=k3.c 0 rfl;have y2:=k2.fz 0;have y3:=k3.fz 0;have K1:=hid k1;have K2:=hid k2;have K3:=hid k3;have K4:=hid k4;clear hk HQ k1 k2 k3 k4 HD HW;go_wp2;have X1:Bx ((((W6.setCell ⟨w.heap.size,0,none⟩ (.slice ua ma ka)).setCell ⟨w.heap.size,1,none⟩ (.slice ub mb kb)).setCell ⟨w.heap.size+1,0,none⟩ (.int .i64 0)).setCell ⟨w.heap.size+1+1,0,none⟩ (.int .i64 0)) w.heap.size 26 [.slice ua ma ka,.slice ub mb kb]:=(((K1.out.set 0 _).set 1 _).other (by omega) _ _).other (by omega) _ _;have X2:Bx ((((W6.setCell ⟨w.heap.size,0,none⟩ (.slice ua ma ka)).setCell ⟨w.heap.size,1,none⟩ (.slice ub mb kb)).setCell ⟨w.heap.size+1,0,none⟩ (.int .i64 0)).setCell ⟨w.heap.size+1+1,0,none⟩ (.int .i64 0)) (w.heap.size+1) 3 [.int .i64 0]:=(((K2.out.other (by omega) _ _).other (by omega) _ _).set 0 _).other (by omega) _ _;have X3:Bx ((((W6.setCell ⟨w.heap.size,0,none⟩ (.slice ua ma ka)).setCell ⟨w.heap.size,1,none⟩ (.slice ub mb kb)).setCell ⟨w.heap.size+1,0,none⟩ (.int .i64 0)).setCell ⟨w.heap.size+1+1,0,none⟩ (.int .i64 0)) (w.heap.size+1+1) 30 [.int .i64 0]:=(((K3.out.other (by omega) _ _).other (by omega) _ _).other (by omega) _ _).set 0 _;refine leaves_cons (f:=65) (args:=#[.pointer (some ⟨w.heap.size+1,0,none⟩),.pointer (some ⟨w.heap.size+1+1,0,none⟩)]) (by simp) (by simp[go_sem]) ?_;refine(qwY _ rfl _).mono ?_;rintro e u' w' ⟨rfl,rfl,rfl⟩;rw[HR3.out];have hkeep:∀ b,w.heap.size+3≤b→((((W6.setCell ⟨w.heap.size,0,none⟩ (.slice ua ma ka)).setCell ⟨w.heap.size,1,none⟩ (.slice ub mb kb)).setCell ⟨w.heap.size+1,0,none⟩ (.int .i64 0)).setCell ⟨w.heap.size+1+1,0,none⟩ (.int .i64 0)).heap[b]?=W6.heap[b]?:=fun b hb=>by
    refine(Below.heap_setCell _ _ _ _ (by show b≠w.heap.size+1+1;omega)).trans ((Below.heap_setCell _ _ _ _ (by show b≠w.heap.size+1;omega)).trans ?_);exact(Below.heap_setCell _ _ _ _ (by show b≠w.heap.size;omega)).trans ((Below.heap_setCell _ _ _ _ (by show b≠w.heap.size;omega)))
   refine⟨_,qlD rfl rfl rfl rfl X1 X2 X3,_,_,rfl,(HI6.out.same qhM (fun b hb1 _=>hkeep b (by have:=HPW.out;omega)) (by simp)).wide (by have:=HPW.out;omega),?_⟩;exact(((K4.out.setCell (Nat.le_refl _) _).setCell (Nat.le_refl _) _).setCell (by show w.heap.size≤w.heap.size+1;omega) _).setCell (by show w.heap.size≤w.heap.size+1+1;omega) _
 ·have hq:R=(zProg,(((qdF l).2.1:Nat):Int),(((qdF l).2.2:Nat):Int)):=by rw[HR.out];unfold qgO;rw[if_pos he]
  obtain⟨P,hP⟩:∃ P,P=(qdF l).2.1:=⟨_,rfl⟩
  obtain⟨E,hE⟩:∃ E,E=(qdF l).2.2:=⟨_,rfl⟩
  rw[← hP,← hE] at hq ⊢;rw[← hE] at he;have d1:((E:Int)==0)=false:=beq_eq_false_iff_ne.2 (by omega);have d2:((E:Int) != 0)=true:=bne_iff_ne.2 (by omega);have HQ:=hid hq;clear hP hE he hq HR;go_upto_region 3 with (fail);obtain⟨W3,hW3⟩:∃ W3,W3=(w1.setCell ⟨w.heap.size+1,0,none⟩ (.int .i64 (P:Nat))).setCell ⟨w.heap.size+1+1,0,none⟩ (.int .i64 (E:Nat)):=⟨_,rfl⟩
  rw[← hW3];have z2:Bx W3 w.heap.size 26 [.slice none 0 0,.slice none 0 0]:=by rw[hW3];exact(HY2.out.other (by omega) _ _).other (by omega) _ _
  have z3:Bx W3 (w.heap.size+1) 3 [.int .i64 P]:=by rw[hW3];exact(HY3.out.set 0 _).other (by omega) _ _
  have z4:Bx W3 (w.heap.size+1+1) 30 [.int .i64 E]:=by rw[hW3];exact(HY4.out.other (by omega) _ _).set 0 _
  have hb3:Below w.heap.size w W3:=by rw[hW3];exact((HB0.out.trans (HB1.out.mono HB0.out.size)).setCell (by show w.heap.size≤w.heap.size+1;omega) _).setCell (by show w.heap.size≤w.heap.size+1+1;omega) _
  have HB3:=hid hb3;have HZ2:=hid z2;have HZ3:=hid z3;have HZ4:=hid z4;have a10:=z2.c 0 rfl;have e10:=z2.fz 0;have a11:=z2.c 1 rfl;have e11:=z2.fz 1;have a3:=z3.c 0 rfl;have a4:=z4.c 0 rfl;have e3:=z3.fz 0;have e4:=z4.fz 0;clear hW3 z2 z3 z4 hb3 c2 c3 c4 f3 f4 HY2 HY3 HY4;go_region;have X1:Bx ((((W3.setCell ⟨w.heap.size,0,none⟩ (.slice none 0 0)).setCell ⟨w.heap.size,1,none⟩ (.slice none 0 0)).setCell ⟨w.heap.size+1,0,none⟩ (.int .i64 (P:Nat))).setCell ⟨w.heap.size+1+1,0,none⟩ (.int .i64 (E:Nat))).drew w.heap.size 26 [.slice none 0 0,.slice none 0 0]:=qyB ((((HZ2.out.set 0 _).set 1 _).other (by omega) _ _).other (by omega) _ _);have X2:Bx ((((W3.setCell ⟨w.heap.size,0,none⟩ (.slice none 0 0)).setCell ⟨w.heap.size,1,none⟩ (.slice none 0 0)).setCell ⟨w.heap.size+1,0,none⟩ (.int .i64 (P:Nat))).setCell ⟨w.heap.size+1+1,0,none⟩ (.int .i64 (E:Nat))).drew (w.heap.size+1) 3 [.int .i64 P]:=qyB ((((HZ3.out.other (by omega) _ _).other (by omega) _ _).set 0 _).other (by omega) _ _);have X3:Bx ((((W3.setCell ⟨w.heap.size,0,none⟩ (.slice none 0 0)).setCell ⟨w.heap.size,1,none⟩ (.slice none 0 0)).setCell ⟨w.heap.size+1,0,none⟩ (.int .i64 (P:Nat))).setCell ⟨w.heap.size+1+1,0,none⟩ (.int .i64 (E:Nat))).drew (w.heap.size+1+1) 30 [.int .i64 E]:=qyB ((((HZ4.out.other (by omega) _ _).other (by omega) _ _).other (by omega) _ _).set 0 _);have X4:Below w.heap.size w ((((W3.setCell ⟨w.heap.size,0,none⟩ (.slice none 0 0)).setCell ⟨w.heap.size,1,none⟩ (.slice none 0 0)).setCell ⟨w.heap.size+1,0,none⟩ (.int .i64 (P:Nat))).setCell ⟨w.heap.size+1+1,0,none⟩ (.int .i64 (E:Nat))).drew:=((((HB3.out.setCell (Nat.le_refl _) _).setCell (Nat.le_refl _) _).setCell (by show w.heap.size≤w.heap.size+1;omega) _).setCell (by show w.heap.size≤w.heap.size+1+1;omega) _).drew;go_wp2;rw[HQ.out];generalize ((((W3.setCell ⟨w.heap.size,0,none⟩ (.slice none 0 0)).setCell ⟨w.heap.size,1,none⟩ (.slice none 0 0)).setCell ⟨w.heap.size+1,0,none⟩ (.int .i64 (P:Nat))).setCell ⟨w.heap.size+1+1,0,none⟩ (.int .i64 (E:Nat))).drew=WE at X1 X2 X3 X4 ⊢;exact⟨_,qlD rfl rfl rfl rfl X1 X2 X3,_,_,rfl,q66 _ _,X4⟩
theorem qjL (a:Option Addr) (n cap:Nat) (l:List UInt8) (w:World) (hT:Txt w a n cap l) (hG:qq3 w) (hTab:Tab w) (hgs:0<w.heap.size) :
  Calls Tryz.prog 11 #[.slice a n cap] w (qiA (qgO l n) w):=by
 obtain⟨W0,hW0,hx0,hb0⟩:∃ W0,W0=w.alloc (.cells #[.slice none 0 0,.slice none 0 0] 26)∧Bx W0 w.heap.size 26 [.slice none 0 0,.slice none 0 0]∧Below w.heap.size w W0:=⟨_,rfl,Bx.new w 26 [.slice none 0 0,.slice none 0 0],(Below.refl _ w).alloc (Nat.le_refl _) _⟩
 have HS:=hid (qwG a n cap l W0 (hT.below hb0 (Nat.le_refl _)) (hG.below hb0 (Nat.le_refl _)) (hTab.of_block (hb0.block _ hgs)) (Nat.lt_of_lt_of_le hgs hb0.size));have HZ:Hid (W0.heap.size=w.heap.size+1):=hid (by rw[hW0];simp);have HW0:=hid hW0;have HX0:=hid hx0;have HB0:=hid hb0;unfold qiA at HS ⊢;generalize qgO l n=R at HS ⊢;obtain⟨x,at_,fl⟩:=R;simp only at HS ⊢;clear hT hG hTab hgs hW0 hx0 hb0;go_enter Tryz.func11,Tryz.ntmps11;go_upto_region 1 with (fail);rw[← HW0.out];go_wp2_with (go_at_call 37;(with_reducible refine HS.out.mono ?_);rintro e w1 ⟨tv,kv,rfl,hit,hb⟩;obtain⟨⟨ua,ma,ka,rfl⟩,⟨ub,mb,kb,rfl⟩⟩:=qgV hit;have HIT:=hid hit;have HB1:=hid (HB0.out.trans (hb.mono HB0.out.size));have HX1:=hid (HX0.out.keep hb HX0.out.lt);clear hit hb;have c0:=HX1.out.c 0 rfl;have f0:=HX1.out.fz 0;have c1:=HX1.out.c 1 rfl;have f1:=HX1.out.fz 1);refine bodyPost_ret (q0Q rfl rfl rfl rfl ((HX1.out.set 0 _).set 1 _)) rfl ⟨_,_,rfl,?_,((HB1.out.setCell (Nat.le_refl _) _).setCell (Nat.le_refl _) _)⟩;exact(HIT.out.same qhM (fun b hb1 _=>by
  have:=HZ.out;exact(Below.heap_setCell _ _ _ _ (by show b≠w.heap.size;omega)).trans ((Below.heap_setCell _ _ _ _ (by show b≠w.heap.size;omega)))) (by simp)).wide (by have:=HZ.out;omega)
theorem qwZ (args:Array Value) (hz:args.size=2) (w:World):CallsD Tryz.prog 72 args .returning w fun e u' w'=>e=.returned (.tuple #[])∧u'=.returning∧w'=w:=by
 refine callsD_of_wpS Tryz.func72 rfl fun c₀ cs hu=>?_;obtain⟨v0,v1,rfl⟩:∃ v0 v1,args=#[v0,v1]:=by
  obtain⟨l⟩:=args
  match l,hz with
  | [a,b],_=>exact⟨a,b,rfl⟩
 apply wpS_seq;apply wpS_region;simp[wpOpsS,go_sem,recoverD,hu,Tryz.ntmps72,Exit.thenS];refine wpS_of_wp (Code.wp_mono (Q:=fun e a' w'=>(e=.normal∨e=.ret)∧a'.defers=[]∧w'=w) ?_ ?_)
 ·rintro e a' w' ⟨he,hd,hs⟩;cases c₀;rcases he with rfl|rfl <;> simp_all [bodyPostS,results,Tryz.results72,Exit.thenS]
 refine Eq.mpr (congrArg (fun t:Array Value=>Code.wp Tryz.prog _ _ ⟨t,[]⟩ w) (show _=(#[v0,v1,.nilIface,undef,.nilIface,undef,undef,undef,undef,undef,undef,undef,undef]:Array Value) from rfl)) ?_;go_wp2
theorem qsK (pa pf:Nat) (pl bad:Int) (va vf:Value) (w:World) (hxa:Bx w pa 3 [va]) (hxf:Bx w pf 30 [vf]) (haf:pa≠pf) :
  CallsD Tryz.prog 72 #[.pointer (some ⟨pa,0,none⟩),.pointer (some ⟨pf,0,none⟩)] (.panicking [{ v:=.iface 127 (.agg #[.int .i64 pl,.int .i64 bad]),recovered:=false }]) w fun e u' w' =>
   e=.returned (.tuple #[])∧u'=.panicking [{ v:=.iface 127 (.agg #[.int .i64 pl,.int .i64 bad]),recovered:=true }]∧q60 pa pf pl bad w w':=by
 refine callsD_of_wpS Tryz.func72 rfl fun c₀ cs hu=>?_;apply wpS_seq;apply wpS_region;simp[wpOpsS,go_sem,recoverD,hu,Tryz.ntmps72,Exit.thenS];refine wpS_of_wp (Code.wp_mono (Q:=fun e a' w'=>(e=.normal∨e=.ret)∧a'.defers=[]∧q60 pa pf pl bad w w') ?_ ?_)
 ·rintro e a' w' ⟨he,hd,hs⟩;rcases he with rfl|rfl <;> simp_all [bodyPostS,results,Tryz.results72,Exit.thenS]
 refine Eq.mpr (congrArg (fun t:Array Value=>Code.wp Tryz.prog _ _ ⟨t,[]⟩ w) (show _=(#[.pointer (some ⟨pa,0,none⟩),.pointer (some ⟨pf,0,none⟩),.iface 127 (.agg #[.int .i64 pl,.int .i64 bad]),undef,.iface 127 (.agg #[.int .i64 pl,.int .i64 bad]),undef,undef,undef,undef,undef,undef,undef,undef]:Array Value) from rfl)) ?_;have hass:∀ (v:Value) (W:World),(Instr.typeAssert (.iface 127 v) 20 127 false).run Tryz.prog W=.ok v W:=fun v W=>rfl;go_wp2_with (fail);obtain⟨W1,hW1⟩:∃ W1,W1=w.alloc (.cells #[.int .i64 pl,.int .i64 bad] 127):=⟨_,rfl⟩
 have hb1:Below w.heap.size w W1:=by rw[hW1];exact(Below.refl _ w).alloc (Nat.le_refl _) _
 have hg:Bx W1 w.heap.size 127 [.int .i64 pl,.int .i64 bad]:=by rw[hW1];exact Bx.new w _ _
 rw[← hW1];have g0:=hg.c 0 rfl;have g1:=hg.c 1 rfl;have ha1:=hxa.keep hb1 hxa.lt;have hf1:=hxf.keep hb1 hxf.lt;have a0:=ha1.c 0 rfl;have f0:=hf1.c 0 rfl;have az:=ha1.fz 0;have fz:=hf1.fz 0;have HA:=hid ha1;have HF:=hid hf1;have HB1:=hid hb1;have lta:=hxa.lt;have ltf:=hxf.lt;clear hxa hxf ha1 hf1 hg hW1 hb1;go_region;have X2:Bx (W1.setCell ⟨pa,0,none⟩ (.int .i64 pl)) pa 3 [.int .i64 pl]:=HA.out.set 0 _;have X3:Bx (W1.setCell ⟨pa,0,none⟩ (.int .i64 pl)) pf 30 [vf]:=HF.out.other (Ne.symm haf) _ _;exact⟨.inl rfl,rfl,X2.other haf _ _,X3.set 0 _,fun B h1 h2 h3=>(((HB1.out.mono h3).setCell h1 _).setCell h2 _).drew,fun b hb h1 h2=>(Below.heap_setCell _ _ _ _ h2).trans ((Below.heap_setCell _ _ _ _ h1).trans (HB1.out.block b hb))⟩
theorem qlE {fn:Func} {p q r:Tmp} {tmps:Array Value} {W:World} {b1 b2 b3:Nat} {c0 c1 c2 c3:Value} {x y:Int} (hf:fn.results=#[.cell p 44,.cell q 3,.cell r 30])
  (h1:tmps.getD p undef=.pointer (some ⟨b1,0,none⟩)) (h2:tmps.getD q undef=.pointer (some ⟨b2,0,none⟩)) (h3:tmps.getD r undef=.pointer (some ⟨b3,0,none⟩))
  (x1:Bx W b1 44 [c0,c1,c2,c3]) (x2:Bx W b2 3 [.int .i64 x]) (x3:Bx W b3 30 [.int .i64 y]) :
  (results fn tmps).run Tryz.prog W=.ok (.tuple #[.agg #[c0,c1,c2,c3],.int .i64 x,.int .i64 y]) W:=by
 have k2:=x2.c 0 rfl;have k3:=x3.c 0 rfl;have hl:=run_loadVar_row (P:=Tryz.prog) W b1 44 44 [c0,c1,c2,c3].toArray (0,0) _ x1 Tryz.underlying44 rfl (by kernel_rfl);have hl2:(loadVar 3 ⟨b2,0,none⟩).run Tryz.prog W=.ok (.int .i64 x) W:=by simp[go_sem,k2]
 have hl3:(loadVar 30 ⟨b3,0,none⟩).run Tryz.prog W=.ok (.int .i64 y) W:=by simp[go_sem,k3]
 rw[qgP hf,h1,h2,h3];simp[asAddr,hl,hl2,hl3,Result.andThen]
theorem qwH (a:Option Addr) (n cap:Nat) (l:List UInt8) (w:World) (hT:Txt w a n cap l) (hG:qq3 w) (hTab:Tab w) (hgs:0<w.heap.size) :
  Calls Tryz.prog 43 #[.slice a n cap,.func (.func 44) #[] #[]] w (qk2 (qh2 l n) w):=by
 have hmf:∀ (fn:Fn) (first cap:Array Value) (w:World),(Instr.makeFunc fn first cap).run Tryz.prog w=.ok (.func fn first cap) w:=fun _ _ _ _=>rfl;obtain⟨W0,hW0,x2,x3,x4,hb0,hs0⟩:=jcP w 44 3 30 [.string ⟨#[]⟩,.slice none 0 0,.slice none 0 0,.slice none 0 0] [.int .i64 0] [.int .i64 0];have HS:=hid (qrU a n cap l W0 (hT.below hb0 (Nat.le_refl _)) (hG.below hb0 (Nat.le_refl _)));have HTab:=hid (hTab.of_block (hb0.block _ hgs));have HGS:=hid hgs;have HW0:=hid hW0;have HX2:=hid x2;have HX3:=hid x3;have HX4:=hid x4;have HB0:=hid hb0;have HS0:=hid hs0;obtain⟨R,hR⟩:∃ R,R=qh2 l n:=⟨_,rfl⟩
 rw[← hR];have HR:=hid hR;unfold q9U at HS;clear hW0 x2 x3 x4 hb0 hs0 hT hG hTab hgs hR
 go_enter_defers Tryz.func43,Tryz.ntmps43
 go_upto_region 1 with (fail);rw[← HW0.out];go_upto_region 2 with (go_at_call 64;(with_reducible refine HS.out.mono ?_);rintro e w1 ⟨hsc,hb1⟩;have HB1:=hid hb1;have HY2:=hid (HX2.out.keep hb1 HX2.out.lt);have HY3:=hid (HX3.out.keep hb1 HX3.out.lt);have HY4:=hid (HX4.out.keep hb1 HX4.out.lt);have c2:=HY2.out.c 0 rfl;have c3:=HY3.out.c 0 rfl;have c4:=HY4.out.c 0 rfl;have f3:=HY3.out.fz 0;have f4:=HY4.out.fz 0;clear hb1;rcases hsc with ⟨he,v,rfl,ho⟩|⟨he,rfl⟩)
 ·obtain⟨av,vc,rfl,htoks,hblk⟩:=qu9 rfl ho;have hq:R=(if (qj1 (qb2 l) n (qbP (qb2 l) n ⟨0,0,0⟩).1).bad=0 then ((qbP (qb2 l) n ⟨0,0,0⟩).2,0,0) else (zChord,(qj1 (qb2 l) n (qbP (qb2 l) n ⟨0,0,0⟩).1).pl,(qj1 (qb2 l) n (qbP (qb2 l) n ⟨0,0,0⟩).1).bad)):=by
   rw[HR.out];unfold qh2;rw[if_neg (by omega)]
  have HTK:=hid htoks;have HBK:=hid hblk;have hlen:=qqF l;have HRL:=hid (qn0 l);have HSL:=hid (qmZ l);clear he ho htoks hblk HR;generalize qb2 l=L at *
  have HLEN:=hid hlen;have HZ:=hid (show w.heap.size+3≤w1.heap.size by have:=HB1.out.size;have:=HS0.out;omega);obtain⟨W3,hW3⟩:∃ W3,W3=(w1.setCell ⟨w.heap.size+1,0,none⟩ (.int .i64 0)).setCell ⟨w.heap.size+1+1,0,none⟩ (.int .i64 0):=⟨_,rfl⟩
  have hz3:W3.heap.size=w1.heap.size:=by rw[hW3];simp
  have z2:Bx W3 w.heap.size 44 [.string ⟨#[]⟩,.slice none 0 0,.slice none 0 0,.slice none 0 0]:=by rw[hW3];exact(HY2.out.other (by omega) _ _).other (by omega) _ _
  have z3:Bx W3 (w.heap.size+1) 3 [.int .i64 0]:=by rw[hW3];exact(HY3.out.set 0 _).other (by omega) _ _
  have z4:Bx W3 (w.heap.size+1+1) 30 [.int .i64 0]:=by rw[hW3];exact(HY4.out.other (by omega) _ _).set 0 _
  have hb3:Below w.heap.size w W3:=by rw[hW3];exact((HB0.out.trans (HB1.out.mono HB0.out.size)).setCell (by show w.heap.size≤w.heap.size+1;omega) _).setCell (by show w.heap.size≤w.heap.size+1+1;omega) _
  have htk:qw7 W3 av L:=qfW HTK.out (fun x hx k=>by
   have hk:=HBK.out x hx k;have:=HS0.out;rw[hW3];exact(Below.heap_setCell _ _ _ _ (by show (x.add k).block≠w.heap.size+1+1;omega)).trans (Below.heap_setCell _ _ _ _ (by show (x.add k).block≠w.heap.size+1;omega)))
  have htb:Tab W3:=(HTab.out.of_block (HB1.out.block _ (Nat.lt_of_lt_of_le HGS.out HB0.out.size))).of_block (by
   have:=HGS.out;rw[hW3];exact(Below.heap_setCell _ _ _ _ (by show 0≠w.heap.size+1+1;omega)).trans (Below.heap_setCell _ _ _ _ (by show 0≠w.heap.size+1;omega)))
  obtain⟨W4,hW4⟩:∃ W4,W4=W3.alloc (.cells #[.slice av L.length vc,.int .i64 (n:Nat),.int .i64 0] 129):=⟨_,rfl⟩
  have hb34:Below W3.heap.size W3 W4:=by rw[hW4];exact(Below.refl _ W3).alloc (Nat.le_refl _) _
  have hst:PSt W4 W3.heap.size vc n av L ⟨0,0,0⟩:=by
   refine⟨?_,qfW htk (fun x hx k=>hb34.block _ ?_),fun x hx k=>?_,by omega,Nat.zero_le _,HSL.out,HRL.out,rfl,htb.of_block (hb34.block _ ?_),?_⟩
   ·rw[hW4];exact heap_alloc_new _ _
   ·have:=HBK.out x hx k;omega
   ·have:=HBK.out x hx k;omega
   ·have:=HGS.out;have:=HZ.out;omega
   ·have:=HGS.out;have:=HZ.out;omega
  have HP:=hid (qlR W3.heap.size vc n av L ⟨0,0,0⟩ W4 hst);unfold Go8 at HP;generalize qbP L n ⟨0,0,0⟩=pr at HP hq;obtain⟨s2,x⟩:=pr;simp only at HP hq;have HQ:=hid hq;have HZ2:=hid z2;have HZ3:=hid z3;have HZ4:=hid z4;have HB3:=hid hb3;have HW3:=hid hW3;have HW4:=hid hW4;have HB34:=hid hb34;have HL3:=hid (show w.heap.size+3≤W3.heap.size by have:=HZ.out;omega);have HW:Hid (∀ W,Below W3.heap.size W4 W→Bx W w.heap.size 44 [.string ⟨#[]⟩,.slice none 0 0,.slice none 0 0,.slice none 0 0]∧Bx W (w.heap.size+1) 3 [.int .i64 0]∧Bx W (w.heap.size+1+1) 30 [.int .i64 0]∧Below w.heap.size w W):=hid (fun W hW=>by
   have hb:=HB34.out.trans hW;have:=HL3.out;exact⟨HZ2.out.keep hb (by omega),HZ3.out.keep hb (by omega),HZ4.out.keep hb (by omega),HB3.out.trans (hb.mono (by omega))⟩)
  have HD:Hid (∀ (W:World) (pl bad:Int) (tmps:Array Value),Below W3.heap.size W4 W→R=(zChord,pl,bad)→tmps.getD 4 undef=.pointer (some ⟨w.heap.size,0,none⟩)→tmps.getD 5 undef=.pointer (some ⟨w.heap.size+1,0,none⟩)→tmps.getD 6 undef=.pointer (some ⟨w.heap.size+1+1,0,none⟩) →
   Leaves Tryz.prog Tryz.f43 tmps (qk2 R w) [{ target:=.fn (.func 72) #[.pointer (some ⟨w.heap.size+1,0,none⟩),.pointer (some ⟨w.heap.size+1+1,0,none⟩)],args:=#[] }]
    (.panicking [{ v:=.iface 127 (.agg #[.int .i64 pl,.int .i64 bad]),recovered:=false }]) W):=hid (fun W pl bad tmps hW hr h2 h3 h4=>by
   obtain⟨k1,k2,k3,k4⟩:=HW.out W hW;have l1:=k1.lt;have l3:=k3.lt;refine leaves_cons (f:=72) (args:=#[.pointer (some ⟨w.heap.size+1,0,none⟩),.pointer (some ⟨w.heap.size+1+1,0,none⟩)]) (by simp) (by simp[go_sem]) ?_;refine(qsK (w.heap.size+1) (w.heap.size+1+1) pl bad _ _ W k2 k3 (by omega)).mono ?_;rintro e u' w' ⟨rfl,rfl,s1,s2,s3,s4⟩;rw[hr];exact⟨_,qlE rfl h2 h3 h4 (show Bx w' w.heap.size 44 [.string ⟨#[]⟩,.slice none 0 0,.slice none 0 0,.slice none 0 0] from (s4 _ l1 (by omega) (by omega)).trans k1) s1 s2,_,_,_,rfl,q67 _ _,k4.trans (s3 _ (by omega) (by omega) (by omega))⟩)
  clear hW3 hz3 z2 z3 z4 hb3 htk htb hW4 hb34 hst hq HTK HBK HRL HSL HTab HY2 HB1 hlen HS0 HZ;go_upto_region 5 with (fail);rw[← HW3.out];go_upto_region 6 with (fail);rw[← HW4.out];clear c2 c3 c4 f3 f4 HY3 HY4;generalize hp:W3.heap.size=p at *
  go_upto_region 7 with (go_at_call 44;(with_reducible refine HP.out.mono ?_);rintro e w5 ⟨hg,he⟩;have HE5:=hid he;clear he;replace hg:=Or.symm hg;rcases hg with ⟨hg,rfl⟩|⟨⟨pv,gv,bv,rfl,hit⟩,hg⟩ <;> first|(obtain⟨⟨ua,ma,ka,rfl⟩,⟨ub,mb,kb,rfl⟩,⟨uc,mc,kc,rfl⟩⟩:=qhJ hit;have HIT:=hid hit;have HST5:=hid (show PSt w5 p vc n av L s2 from hg);clear hg hit)|(have HBD:=hid hg;clear hg;try unfold qb0))
  ·refine HD.out w5 s2.pl s2.bad _ HE5.out.1 ?_ rfl rfl rfl;have hes:qj1 L n s2=s2:=by unfold qj1;rw[if_neg (fun h=>HBD.out h.1)]
   rw[HQ.out,hes,if_neg HBD.out]
  obtain⟨W6,hW6⟩:∃ W6,W6=w5.alloc (.cells #[.string x.nm,.slice ua ma ka,.slice ub mb kb,.slice uc mc kc] 44):=⟨_,rfl⟩
  have hb6:Below w5.heap.size w5 W6:=by rw[hW6];exact(Below.refl _ w5).alloc (Nat.le_refl _) _
  have HC6:=hid (show Bx W6 w5.heap.size 44 [.string x.nm,.slice ua ma ka,.slice ub mb kb,.slice uc mc kc] by rw[hW6];exact Bx.new w5 _ _);have HST6:=hid (HST5.out.below hb6);have hlt5:=HST5.out.lt;have HB6:=hid (HE5.out.1.trans (hb6.mono (Nat.le_of_lt hlt5)));have HPW:=hid (show w.heap.size+3≤p∧p<W4.heap.size by have:=HL3.out;have:W4.heap.size=W3.heap.size+1:=(by rw[HW4.out];simp);omega);have HI6:=hid (HIT.out.same (w':=W6) qaM (fun b _ hb2=>hb6.block b hb2) hb6.size);rw[← hW6];have hwX:w.heap.size+3≤w5.heap.size:=by have:=HPW.out;omega
  generalize w5.heap.size=X at HC6 hwX ⊢;have c0:=HST6.out.cells.1;have c2:=HST6.out.cells.2.2;clear hW6 hb6 HIT HST5 HE5 hlt5;by_cases hk:s2.k<L.length
  ·have d1:decide ((s2.k:Int)<(L.length:Int))=true:=decide_eq_true (by omega);have d1n:decide (s2.k<L.length)=true:=decide_eq_true hk;have HGV:=hid (qe1 p vc n av L s2 80 W6 HST6.out);have HR3:Hid (R=(zChord,(qcB L n s2 s2.k 80).pl,(qcB L n s2 s2.k 80).bad)):=hid (by
    have hes:qj1 L n s2=qcB L n s2 s2.k 80:=by unfold qj1;rw[if_pos ⟨HST6.out.ok,hk⟩]
    rw[HQ.out,hes,if_neg (by rw[qe2 HST6.out.ok];decide)])
   clear hk HQ;go_wp2_with (go_at_call 66;(with_reducible refine HGV.out.mono ?_);rintro e w7 ⟨rfl,hb⟩;have HB7:=hid (HB6.out.trans (hb.mono (Nat.le_of_lt HST6.out.lt)));clear hb;unfold qb0);exact HD.out w7 _ _ _ HB7.out HR3.out rfl rfl rfl
  ·have d1:decide ((s2.k:Int)<(L.length:Int))=false:=decide_eq_false (by omega);have d1n:decide (s2.k<L.length)=false:=decide_eq_false hk;have HR3:Hid (R=(x,0,0)):=hid (by
    have hes:qj1 L n s2=s2:=by unfold qj1;rw[if_neg (fun h=>hk h.2)]
    rw[HQ.out,hes,if_pos HST6.out.ok])
   obtain⟨k1,k2,k3,k4⟩:=HW.out W6 HB6.out;have x0:=HC6.out.c 0 rfl;have x1:=HC6.out.c 1 rfl;have x2:=HC6.out.c 2 rfl;have x3:=HC6.out.c 3 rfl;have r0:=k1.c 0 rfl;have z0:=k1.fz 0;have r1:=k1.c 1 rfl;have z1:=k1.fz 1;have r2:=k1.c 2 rfl;have z2:=k1.fz 2;have r3:=k1.c 3 rfl;have z3:=k1.fz 3;have q2:=k2.c 0 rfl;have q3:=k3.c 0 rfl;have y2:=k2.fz 0;have y3:=k3.fz 0;have K1:=hid k1;have K2:=hid k2;have K3:=hid k3;have K4:=hid k4;clear hk HQ k1 k2 k3 k4 HD HW;go_wp2;have X1:Bx ((((((W6.setCell ⟨w.heap.size,0,none⟩ (.string x.nm)).setCell ⟨w.heap.size,1,none⟩ (.slice ua ma ka)).setCell ⟨w.heap.size,2,none⟩ (.slice ub mb kb)).setCell ⟨w.heap.size,3,none⟩ (.slice uc mc kc)).setCell ⟨w.heap.size+1,0,none⟩ (.int .i64 0)).setCell ⟨w.heap.size+1+1,0,none⟩ (.int .i64 0)) w.heap.size 44 [.string x.nm,.slice ua ma ka,.slice ub mb kb,.slice uc mc kc]:=((qi6 K1.out).other (by omega) _ _).other (by omega) _ _;have X2:Bx ((((((W6.setCell ⟨w.heap.size,0,none⟩ (.string x.nm)).setCell ⟨w.heap.size,1,none⟩ (.slice ua ma ka)).setCell ⟨w.heap.size,2,none⟩ (.slice ub mb kb)).setCell ⟨w.heap.size,3,none⟩ (.slice uc mc kc)).setCell ⟨w.heap.size+1,0,none⟩ (.int .i64 0)).setCell ⟨w.heap.size+1+1,0,none⟩ (.int .i64 0)) (w.heap.size+1) 3 [.int .i64 0]:=(((((K2.out.other (by omega) _ _).other (by omega) _ _).other (by omega) _ _).other (by omega) _ _).set 0 _).other (by omega) _ _;have X3:Bx ((((((W6.setCell ⟨w.heap.size,0,none⟩ (.string x.nm)).setCell ⟨w.heap.size,1,none⟩ (.slice ua ma ka)).setCell ⟨w.heap.size,2,none⟩ (.slice ub mb kb)).setCell ⟨w.heap.size,3,none⟩ (.slice uc mc kc)).setCell ⟨w.heap.size+1,0,none⟩ (.int .i64 0)).setCell ⟨w.heap.size+1+1,0,none⟩ (.int .i64 0)) (w.heap.size+1+1) 30 [.int .i64 0]:=(((((K3.out.other (by omega) _ _).other (by omega) _ _).other (by omega) _ _).other (by omega) _ _).other (by omega) _ _).set 0 _;refine leaves_cons (f:=72) (args:=#[.pointer (some ⟨w.heap.size+1,0,none⟩),.pointer (some ⟨w.heap.size+1+1,0,none⟩)]) (by simp) (by simp[go_sem]) ?_;refine(qwZ _ rfl _).mono ?_;rintro e u' w' ⟨rfl,rfl,rfl⟩;rw[HR3.out];have hkeep:∀ b,w.heap.size+3≤b→((((((W6.setCell ⟨w.heap.size,0,none⟩ (.string x.nm)).setCell ⟨w.heap.size,1,none⟩ (.slice ua ma ka)).setCell ⟨w.heap.size,2,none⟩ (.slice ub mb kb)).setCell ⟨w.heap.size,3,none⟩ (.slice uc mc kc)).setCell ⟨w.heap.size+1,0,none⟩ (.int .i64 0)).setCell ⟨w.heap.size+1+1,0,none⟩ (.int .i64 0)).heap[b]?=W6.heap[b]?:=fun b hb=>by
    refine(Below.heap_setCell _ _ _ _ (by show b≠w.heap.size+1+1;omega)).trans ((Below.heap_setCell _ _ _ _ (by show b≠w.heap.size+1;omega)).trans ?_);exact(Below.heap_setCell _ _ _ _ (by show b≠w.heap.size;omega)).trans ((Below.heap_setCell _ _ _ _ (by show b≠w.heap.size;omega)).trans ((Below.heap_setCell _ _ _ _ (by show b≠w.heap.size;omega)).trans ((Below.heap_setCell _ _ _ _ (by show b≠w.heap.size;omega)))))
   refine⟨_,qlE rfl rfl rfl rfl X1 X2 X3,_,_,_,rfl,(HI6.out.same qaM (fun b hb1 _=>hkeep b (by have:=HPW.out;omega)) (by simp)).wide (by have:=HPW.out;omega),?_⟩;exact(((((K4.out.setCell (Nat.le_refl _) _).setCell (Nat.le_refl _) _).setCell (Nat.le_refl _) _).setCell (Nat.le_refl _) _).setCell (by show w.heap.size≤w.heap.size+1;omega) _).setCell (by show w.heap.size≤w.heap.size+1+1;omega) _
 ·have hq:R=(zChord,(((qdF l).2.1:Nat):Int),(((qdF l).2.2:Nat):Int)):=by rw[HR.out];unfold qh2;rw[if_pos he]
  obtain⟨P,hP⟩:∃ P,P=(qdF l).2.1:=⟨_,rfl⟩
  obtain⟨E,hE⟩:∃ E,E=(qdF l).2.2:=⟨_,rfl⟩
  rw[← hP,← hE] at hq ⊢;rw[← hE] at he;have d1:((E:Int)==0)=false:=beq_eq_false_iff_ne.2 (by omega);have d2:((E:Int) != 0)=true:=bne_iff_ne.2 (by omega);have HQ:=hid hq;clear hP hE he hq HR;go_upto_region 3 with (fail);obtain⟨W3,hW3⟩:∃ W3,W3=(w1.setCell ⟨w.heap.size+1,0,none⟩ (.int .i64 (P:Nat))).setCell ⟨w.heap.size+1+1,0,none⟩ (.int .i64 (E:Nat)):=⟨_,rfl⟩
  rw[← hW3];have z2:Bx W3 w.heap.size 44 [.string ⟨#[]⟩,.slice none 0 0,.slice none 0 0,.slice none 0 0]:=by rw[hW3];exact(HY2.out.other (by omega) _ _).other (by omega) _ _
  have z3:Bx W3 (w.heap.size+1) 3 [.int .i64 P]:=by rw[hW3];exact(HY3.out.set 0 _).other (by omega) _ _
  have z4:Bx W3 (w.heap.size+1+1) 30 [.int .i64 E]:=by rw[hW3];exact(HY4.out.other (by omega) _ _).set 0 _
  have hb3:Below w.heap.size w W3:=by rw[hW3];exact((HB0.out.trans (HB1.out.mono HB0.out.size)).setCell (by show w.heap.size≤w.heap.size+1;omega) _).setCell (by show w.heap.size≤w.heap.size+1+1;omega) _
  have HB3:=hid hb3;have HZ2:=hid z2;have HZ3:=hid z3;have HZ4:=hid z4;have a10:=z2.c 0 rfl;have e10:=z2.fz 0;have a11:=z2.c 1 rfl;have e11:=z2.fz 1;have a12:=z2.c 2 rfl;have e12:=z2.fz 2;have a13:=z2.c 3 rfl;have e13:=z2.fz 3;have a3:=z3.c 0 rfl;have a4:=z4.c 0 rfl;have e3:=z3.fz 0;have e4:=z4.fz 0;clear hW3 z2 z3 z4 hb3 c2 c3 c4 f3 f4 HY2 HY3 HY4;go_region;have X1:Bx ((((((W3.setCell ⟨w.heap.size,0,none⟩ (.string ⟨#[]⟩)).setCell ⟨w.heap.size,1,none⟩ (.slice none 0 0)).setCell ⟨w.heap.size,2,none⟩ (.slice none 0 0)).setCell ⟨w.heap.size,3,none⟩ (.slice none 0 0)).setCell ⟨w.heap.size+1,0,none⟩ (.int .i64 (P:Nat))).setCell ⟨w.heap.size+1+1,0,none⟩ (.int .i64 (E:Nat))).drew w.heap.size 44 [.string ⟨#[]⟩,.slice none 0 0,.slice none 0 0,.slice none 0 0]:=qyB (((qi6 HZ2.out).other (by omega) _ _).other (by omega) _ _);have X2:Bx ((((((W3.setCell ⟨w.heap.size,0,none⟩ (.string ⟨#[]⟩)).setCell ⟨w.heap.size,1,none⟩ (.slice none 0 0)).setCell ⟨w.heap.size,2,none⟩ (.slice none 0 0)).setCell ⟨w.heap.size,3,none⟩ (.slice none 0 0)).setCell ⟨w.heap.size+1,0,none⟩ (.int .i64 (P:Nat))).setCell ⟨w.heap.size+1+1,0,none⟩ (.int .i64 (E:Nat))).drew (w.heap.size+1) 3 [.int .i64 P]:=qyB ((((((HZ3.out.other (by omega) _ _).other (by omega) _ _).other (by omega) _ _).other (by omega) _ _).set 0 _).other (by omega) _ _);have X3:Bx ((((((W3.setCell ⟨w.heap.size,0,none⟩ (.string ⟨#[]⟩)).setCell ⟨w.heap.size,1,none⟩ (.slice none 0 0)).setCell ⟨w.heap.size,2,none⟩ (.slice none 0 0)).setCell ⟨w.heap.size,3,none⟩ (.slice none 0 0)).setCell ⟨w.heap.size+1,0,none⟩ (.int .i64 (P:Nat))).setCell ⟨w.heap.size+1+1,0,none⟩ (.int .i64 (E:Nat))).drew (w.heap.size+1+1) 30 [.int .i64 E]:=qyB ((((((HZ4.out.other (by omega) _ _).other (by omega) _ _).other (by omega) _ _).other (by omega) _ _).other (by omega) _ _).set 0 _);have X4:Below w.heap.size w ((((((W3.setCell ⟨w.heap.size,0,none⟩ (.string ⟨#[]⟩)).setCell ⟨w.heap.size,1,none⟩ (.slice none 0 0)).setCell ⟨w.heap.size,2,none⟩ (.slice none 0 0)).setCell ⟨w.heap.size,3,none⟩ (.slice none 0 0)).setCell ⟨w.heap.size+1,0,none⟩ (.int .i64 (P:Nat))).setCell ⟨w.heap.size+1+1,0,none⟩ (.int .i64 (E:Nat))).drew:=((((((HB3.out.setCell (Nat.le_refl _) _).setCell (Nat.le_refl _) _).setCell (Nat.le_refl _) _).setCell (Nat.le_refl _) _).setCell (by show w.heap.size≤w.heap.size+1;omega) _).setCell (by show w.heap.size≤w.heap.size+1+1;omega) _).drew;go_wp2;rw[HQ.out];generalize ((((((W3.setCell ⟨w.heap.size,0,none⟩ (.string ⟨#[]⟩)).setCell ⟨w.heap.size,1,none⟩ (.slice none 0 0)).setCell ⟨w.heap.size,2,none⟩ (.slice none 0 0)).setCell ⟨w.heap.size,3,none⟩ (.slice none 0 0)).setCell ⟨w.heap.size+1,0,none⟩ (.int .i64 (P:Nat))).setCell ⟨w.heap.size+1+1,0,none⟩ (.int .i64 (E:Nat))).drew=WE at X1 X2 X3 X4 ⊢;exact⟨_,qlE rfl rfl rfl rfl X1 X2 X3,_,_,_,rfl,q67 _ _,X4⟩
theorem qnK (a:Option Addr) (n cap:Nat) (l:List UInt8) (w:World) (hT:Txt w a n cap l) (hG:qq3 w) (hTab:Tab w) (hgs:0<w.heap.size) :
  Calls Tryz.prog 17 #[.slice a n cap] w (qk2 (qh2 l n) w):=by
 obtain⟨W0,hW0,hx0,hb0⟩:∃ W0,W0=w.alloc (.cells #[.string ⟨#[]⟩,.slice none 0 0,.slice none 0 0,.slice none 0 0] 44)∧Bx W0 w.heap.size 44 [.string ⟨#[]⟩,.slice none 0 0,.slice none 0 0,.slice none 0 0]∧Below w.heap.size w W0:=⟨_,rfl,Bx.new w 44 [.string ⟨#[]⟩,.slice none 0 0,.slice none 0 0,.slice none 0 0],(Below.refl _ w).alloc (Nat.le_refl _) _⟩
 have HS:=hid (qwH a n cap l W0 (hT.below hb0 (Nat.le_refl _)) (hG.below hb0 (Nat.le_refl _)) (hTab.of_block (hb0.block _ hgs)) (Nat.lt_of_lt_of_le hgs hb0.size));have HZ:Hid (W0.heap.size=w.heap.size+1):=hid (by rw[hW0];simp);have HW0:=hid hW0;have HX0:=hid hx0;have HB0:=hid hb0;unfold qk2 at HS ⊢;generalize qh2 l n=R at HS ⊢;obtain⟨x,at_,fl⟩:=R;simp only at HS ⊢;clear hT hG hTab hgs hW0 hx0 hb0;go_enter Tryz.func17,Tryz.ntmps17;go_upto_region 1 with (fail);rw[← HW0.out];go_wp2_with (go_at_call 43;(with_reducible refine HS.out.mono ?_);rintro e w1 ⟨pv,gv,bv,rfl,hit,hb⟩;obtain⟨⟨ua,ma,ka,rfl⟩,⟨ub,mb,kb,rfl⟩,⟨uc,mc,kc,rfl⟩⟩:=qhJ hit;have HIT:=hid hit;have HB1:=hid (HB0.out.trans (hb.mono HB0.out.size));have HX1:=hid (HX0.out.keep hb HX0.out.lt);clear hit hb;have c0:=HX1.out.c 0 rfl;have f0:=HX1.out.fz 0;have c1:=HX1.out.c 1 rfl;have f1:=HX1.out.fz 1;have c2:=HX1.out.c 2 rfl;have f2:=HX1.out.fz 2;have c3:=HX1.out.c 3 rfl;have f3:=HX1.out.fz 3);refine bodyPost_ret (q0R rfl rfl rfl rfl (qi6 HX1.out)) rfl ⟨_,_,_,rfl,?_,((((HB1.out.setCell (Nat.le_refl _) _).setCell (Nat.le_refl _) _).setCell (Nat.le_refl _) _).setCell (Nat.le_refl _) _)⟩;exact(HIT.out.same qaM (fun b hb1 _=>by
  have:=HZ.out;exact(Below.heap_setCell _ _ _ _ (by show b≠w.heap.size;omega)).trans ((Below.heap_setCell _ _ _ _ (by show b≠w.heap.size;omega)).trans ((Below.heap_setCell _ _ _ _ (by show b≠w.heap.size;omega)).trans ((Below.heap_setCell _ _ _ _ (by show b≠w.heap.size;omega)))))) (by simp)).wide (by have:=HZ.out;omega)
end Go.Proofs.YtenlhcgpajphhaaGreatDoor
