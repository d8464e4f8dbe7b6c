import Derived.Test.YtenlhcgpajphhaaGreatDoorMDpKind
import Derived.Test.YtenlhcgpajphhaaGreatDoorMErRead
import Derived.Test.YtenlhcgpajphhaaGreatDoorMDrBegun
import Derived.Recover
import Derived.Test.YtenlhcgpajphhaaGreatDoorMDcPlain
import Derived.Test.YtenlhcgpajphhaaGreatDoorMDwAll
import Derived.Lib.SlBytesConst
namespace Go.Proofs.YtenlhcgpajphhaaGreatDoor
open Go.RowKit Go.Shelf
open Lib(hid)
set_option maxRecDepth 100000
set_option linter.all false
set_option maxHeartbeats 8000000
theorem bx_dr {W:World} {g:Nat} {T:TypeId} {c:List Value} (h:Bx W g T c):Bx W.drew g T c:=h
def zProg:ProgE:=⟨[],[]⟩
noncomputable def progT (l:List UInt8) (n:Nat):ProgE × Int × Int :=
 if (allR l).2.2≠0 then (zProg,(((allR l).2.1:Nat):Int),(((allR l).2.2:Nat):Int))
 else if (endS (toksL l) n (progS (toksL l) n (fuel8 (toksL l)) ⟨0,0,0⟩ ⟨[],[]⟩).1).bad=0 then ((progS (toksL l) n (fuel8 (toksL l)) ⟨0,0,0⟩ ⟨[],[]⟩).2,0,0)
 else (zProg,(endS (toksL l) n (progS (toksL l) n (fuel8 (toksL l)) ⟨0,0,0⟩ ⟨[],[]⟩).1).pl,(endS (toksL l) n (progS (toksL l) n (fuel8 (toksL l)) ⟨0,0,0⟩ ⟨[],[]⟩).1).bad)
theorem zpr_it (lo:Nat) (w:World):Itm progE lo w [.slice none 0 0,.slice none 0 0] zProg :=
 ⟨[],⟨_,_,[],[],[],[],rfl,rfl,ListV.nil _ _ _ _,ListV.nil _ _ _ _⟩,Good.nil _ _⟩
theorem prog_form {lo:Nat} {w:World} {tv kv:Value} {x:ProgE} (h:Itm progE lo w [tv,kv] x):(∃ ad m c,tv=.slice ad m c)∧∃ ad m c,kv=.slice ad m c:=by
 obtain⟨F,⟨tv',kv',dt,dk,F1,F2,hc,_,h1,h2⟩,_⟩:=h;cases hc;refine⟨?_,?_⟩
 ·rcases h1.row.2 with ⟨rfl,_⟩|⟨g,cap,cur,rfl,_⟩
  ·exact⟨_,_,_,rfl⟩
  ·exact⟨_,_,_,rfl⟩
 ·rcases h2.row.2 with ⟨rfl,_⟩|⟨g,cap,cur,rfl,_⟩
  ·exact⟨_,_,_,rfl⟩
  ·exact⟨_,_,_,rfl⟩
def ParsePP (R:ProgE × Int × Int) (w:World) (e:Ending) (w':World):Prop :=
 ∃ tv kv,e=.returned (.tuple #[.agg #[tv,kv],.int .i64 R.2.1,.int .i64 R.2.2])∧Itm progE w.heap.size w' [tv,kv] R.1∧Below w.heap.size w w'
def ShutD (pa pf:Nat) (pl bad:Int) (w w':World):Prop :=
 Bx w' pa 3 [.int .i64 pl]∧Bx w' pf 30 [.int .i64 bad]∧(∀ B,B≤pa→B≤pf→B≤w.heap.size→Below B w w')∧∀ b,b<w.heap.size→b≠pa→b≠pf→w'.heap[b]?=w.heap[b]?
theorem wresults_cells3 {fn:Func} {p q r:Tmp} {t1 t2 t3:TypeId} (h:fn.results=#[.cell p t1,.cell q t2,.cell r t3]) (tmps:Array Value) (P:Program) (w:World) :
  (results fn tmps).run P w =
   ((asAddr (tmps.getD p undef)).run P w).andThen fun a w₁=>((loadVar t1 a).run P w₁).andThen fun v w₂ =>
   ((asAddr (tmps.getD q undef)).run P w₂).andThen fun a w₃=>((loadVar t2 a).run P w₃).andThen fun v2 w₄ =>
   ((asAddr (tmps.getD r undef)).run P w₄).andThen fun a w₅=>((loadVar t3 a).run P w₅).andThen fun v3 w₆=>.ok (.tuple #[v,v2,v3]) w₆:=by
 simp only[results,h];simp[Sem.run_bind,Result.andThen]
theorem parsePRes {fn:Func} {p q r:Tmp} {tmps:Array Value} {W:World} {g:Nat} {u v:Value} {x y:Int} (hf:fn.results=#[.cell p 26,.tmp q,.tmp r]) (hp:tmps.getD p undef=.pointer (some ⟨g,0,none⟩))
  (h2:tmps.getD q undef=.int .i64 x) (h3:tmps.getD r undef=.int .i64 y) (h:Bx W g 26 [u,v]) :
  (results fn tmps).run Tryz.prog W=.ok (.tuple #[.agg #[u,v],.int .i64 x,.int .i64 y]) W:=by
 have hl:=run_loadVar_row (P:=Tryz.prog) W g 26 26 [u,v].toArray (0,0) _ h Tryz.underlying26 rfl (by kernel_rfl);have hp':tmps[p]?.getD undef=.pointer (some ⟨g,0,none⟩):=by simpa using hp
 have h2':tmps[q]?.getD undef=.int .i64 x:=by simpa using h2
 have h3':tmps[r]?.getD undef=.int .i64 y:=by simpa using h3
 simp only[results,hf];simp[hp',h2',h3',asAddr,hl,Sem.run_bind,Result.andThen]
theorem shutP_idle (args:Array Value) (hz:args.size=2) (w:World):CallsD Tryz.prog 65 args .returning w fun e u' w'=>e=.returned (.tuple #[])∧u'=.returning∧w'=w:=by
 refine callsD_of_wpS Tryz.func65 rfl fun c₀ cs hu=>?_;obtain⟨v0,v1,rfl⟩:∃ v0 v1,args=#[v0,v1]:=by
  obtain⟨l⟩:=args
  match l,hz with
  | [a,b],_=>exact⟨a,b,rfl⟩
 apply wpS_seq;apply wpS_region;simp[wpOpsS,go_sem,recoverD,hu,Tryz.ntmps65,Exit.thenS];refine wpS_of_wp (Code.wp_mono (Q:=fun e a' w'=>(e=.normal∨e=.ret)∧a'.defers=[]∧w'=w) ?_ ?_)
 ·rintro e a' w' ⟨he,hd,hs⟩;cases c₀;rcases he with rfl|rfl <;> simp_all [bodyPostS,results,Tryz.results65,Exit.thenS]
 refine Eq.mpr (congrArg (fun t:Array Value=>Code.wp Tryz.prog _ _ ⟨t,[]⟩ w) (show _=(#[v0,v1,.nilIface,undef,.nilIface,undef,undef,undef,undef,undef,undef,undef,undef]:Array Value) from rfl)) ?_;go_wp2
theorem shutP_panic (pa pf:Nat) (pl bad:Int) (va vf:Value) (w:World) (hxa:Bx w pa 3 [va]) (hxf:Bx w pf 30 [vf]) (haf:pa≠pf) :
  CallsD Tryz.prog 65 #[.pointer (some ⟨pa,0,none⟩),.pointer (some ⟨pf,0,none⟩)] (.panicking [{ v:=.iface 127 (.agg #[.int .i64 pl,.int .i64 bad]),recovered:=false }]) w fun e u' w' =>
   e=.returned (.tuple #[])∧u'=.panicking [{ v:=.iface 127 (.agg #[.int .i64 pl,.int .i64 bad]),recovered:=true }]∧ShutD pa pf pl bad w w':=by
 refine callsD_of_wpS Tryz.func65 rfl fun c₀ cs hu=>?_;apply wpS_seq;apply wpS_region;simp[wpOpsS,go_sem,recoverD,hu,Tryz.ntmps65,Exit.thenS];refine wpS_of_wp (Code.wp_mono (Q:=fun e a' w'=>(e=.normal∨e=.ret)∧a'.defers=[]∧ShutD pa pf pl bad w w') ?_ ?_)
 ·rintro e a' w' ⟨he,hd,hs⟩;rcases he with rfl|rfl <;> simp_all [bodyPostS,results,Tryz.results65,Exit.thenS]
 refine Eq.mpr (congrArg (fun t:Array Value=>Code.wp Tryz.prog _ _ ⟨t,[]⟩ w) (show _=(#[.pointer (some ⟨pa,0,none⟩),.pointer (some ⟨pf,0,none⟩),.iface 127 (.agg #[.int .i64 pl,.int .i64 bad]),undef,.iface 127 (.agg #[.int .i64 pl,.int .i64 bad]),undef,undef,undef,undef,undef,undef,undef,undef]:Array Value) from rfl)) ?_;have hass:∀ (v:Value) (W:World),(Instr.typeAssert (.iface 127 v) 20 127 false).run Tryz.prog W=.ok v W:=fun v W=>rfl;go_wp2_with (fail);obtain⟨W1,hW1⟩:∃ W1,W1=w.alloc (.cells #[.int .i64 pl,.int .i64 bad] 127):=⟨_,rfl⟩
 have hb1:Below w.heap.size w W1:=by rw[hW1];exact(Below.refl _ w).alloc (Nat.le_refl _) _
 have hg:Bx W1 w.heap.size 127 [.int .i64 pl,.int .i64 bad]:=by rw[hW1];exact Bx.new w _ _
 rw[← hW1];have g0:=hg.c 0 rfl;have g1:=hg.c 1 rfl;have ha1:=hxa.keep hb1 hxa.lt;have hf1:=hxf.keep hb1 hxf.lt;have a0:=ha1.c 0 rfl;have f0:=hf1.c 0 rfl;have az:=ha1.fz 0;have fz:=hf1.fz 0;have HA:=hid ha1;have HF:=hid hf1;have HB1:=hid hb1;have lta:=hxa.lt;have ltf:=hxf.lt;clear hxa hxf ha1 hf1 hg hW1 hb1;go_region;have X2:Bx (W1.setCell ⟨pa,0,none⟩ (.int .i64 pl)) pa 3 [.int .i64 pl]:=HA.out.set 0 _;have X3:Bx (W1.setCell ⟨pa,0,none⟩ (.int .i64 pl)) pf 30 [vf]:=HF.out.other (Ne.symm haf) _ _;exact⟨.inl rfl,rfl,X2.other haf _ _,X3.set 0 _,fun B h1 h2 h3=>(((HB1.out.mono h3).setCell h1 _).setCell h2 _).drew,fun b hb h1 h2=>(Below.heap_setCell _ _ _ _ h2).trans ((Below.heap_setCell _ _ _ _ h1).trans (HB1.out.block b hb))⟩
theorem wholePRes {fn:Func} {p q r:Tmp} {tmps:Array Value} {W:World} {b1 b2 b3:Nat} {u v:Value} {x y:Int} (hf:fn.results=#[.cell p 26,.cell q 3,.cell r 30])
  (h1:tmps.getD p undef=.pointer (some ⟨b1,0,none⟩)) (h2:tmps.getD q undef=.pointer (some ⟨b2,0,none⟩)) (h3:tmps.getD r undef=.pointer (some ⟨b3,0,none⟩))
  (x1:Bx W b1 26 [u,v]) (x2:Bx W b2 3 [.int .i64 x]) (x3:Bx W b3 30 [.int .i64 y]) :
  (results fn tmps).run Tryz.prog W=.ok (.tuple #[.agg #[u,v],.int .i64 x,.int .i64 y]) W:=by
 have k2:=x2.c 0 rfl;have k3:=x3.c 0 rfl;have hl:=run_loadVar_row (P:=Tryz.prog) W b1 26 26 [u,v].toArray (0,0) _ x1 Tryz.underlying26 rfl (by kernel_rfl);have hl2:(loadVar 3 ⟨b2,0,none⟩).run Tryz.prog W=.ok (.int .i64 x) W:=by simp[go_sem,k2]
 have hl3:(loadVar 30 ⟨b3,0,none⟩).run Tryz.prog W=.ok (.int .i64 y) W:=by simp[go_sem,k3]
 rw[wresults_cells3 hf,h1,h2,h3];simp[asAddr,hl,hl2,hl3,Result.andThen]
theorem wholeP_any (a:Option Addr) (n cap:Nat) (l:List UInt8) (w:World) (hT:Txt w a n cap l) (hG:Glob w) (hTab:Tab w) (hgs:0<w.heap.size) :
  Calls Tryz.prog 37 #[.slice a n cap,.func (.func 38) #[] #[]] w (ParsePP (progT l n) w):=by
 have hmf:∀ (fn:Fn) (first cap:Array Value) (w:World),(Instr.makeFunc fn first cap).run Tryz.prog w=.ok (.func fn first cap) w:=fun _ _ _ _=>rfl;obtain⟨W0,hW0,x2,x3,x4,hb0,hs0⟩:=new3 w 26 3 30 [.slice none 0 0,.slice none 0 0] [.int .i64 0] [.int .i64 0];have HS:=hid (escan_any a n cap l W0 (hT.below hb0 (Nat.le_refl _)) (hG.below hb0 (Nat.le_refl _)));have HTab:=hid (hTab.of_block (hb0.block _ hgs));have HGS:=hid hgs;have HW0:=hid hW0;have HX2:=hid x2;have HX3:=hid x3;have HX4:=hid x4;have HB0:=hid hb0;have HS0:=hid hs0;obtain⟨R,hR⟩:∃ R,R=progT l n:=⟨_,rfl⟩
 rw[← hR];have HR:=hid hR;unfold EScan at HS;clear hW0 x2 x3 x4 hb0 hs0 hT hG hTab hgs hR
 go_enter_defers Tryz.func37,Tryz.ntmps37
 go_upto_region 1 with (fail);rw[← HW0.out];go_upto_region 2 with (go_at_call 64;(with_reducible refine HS.out.mono ?_);rintro e w1 ⟨hsc,hb1⟩;have HB1:=hid hb1;have HY2:=hid (HX2.out.keep hb1 HX2.out.lt);have HY3:=hid (HX3.out.keep hb1 HX3.out.lt);have HY4:=hid (HX4.out.keep hb1 HX4.out.lt);have c2:=HY2.out.c 0 rfl;have c3:=HY3.out.c 0 rfl;have c4:=HY4.out.c 0 rfl;have f3:=HY3.out.fz 0;have f4:=HY4.out.fz 0;clear hb1;rcases hsc with ⟨he,v,rfl,ho⟩|⟨he,rfl⟩)
 ·obtain⟨av,vc,rfl,htoks,hblk⟩:=toks_own rfl ho;have hq:R=(if (endS (toksL l) n (progS (toksL l) n (fuel8 (toksL l)) ⟨0,0,0⟩ ⟨[],[]⟩).1).bad=0 then ((progS (toksL l) n (fuel8 (toksL l)) ⟨0,0,0⟩ ⟨[],[]⟩).2,0,0) else (zProg,(endS (toksL l) n (progS (toksL l) n (fuel8 (toksL l)) ⟨0,0,0⟩ ⟨[],[]⟩).1).pl,(endS (toksL l) n (progS (toksL l) n (fuel8 (toksL l)) ⟨0,0,0⟩ ⟨[],[]⟩).1).bad)):=by
   rw[HR.out];unfold progT;rw[if_neg (by omega)]
  have HTK:=hid htoks;have HBK:=hid hblk;have hlen:=toksL_few l;have HRL:=hid (toksL_real l);have HSL:=hid (toksL_size l);clear he ho htoks hblk HR;generalize toksL l=L at *
  have HLEN:=hid hlen;have HZ:=hid (show w.heap.size+3≤w1.heap.size by have:=HB1.out.size;have:=HS0.out;omega);obtain⟨W3,hW3⟩:∃ W3,W3=(w1.setCell ⟨w.heap.size+1,0,none⟩ (.int .i64 0)).setCell ⟨w.heap.size+1+1,0,none⟩ (.int .i64 0):=⟨_,rfl⟩
  have hz3:W3.heap.size=w1.heap.size:=by rw[hW3];simp
  have z2:Bx W3 w.heap.size 26 [.slice none 0 0,.slice none 0 0]:=by rw[hW3];exact(HY2.out.other (by omega) _ _).other (by omega) _ _
  have z3:Bx W3 (w.heap.size+1) 3 [.int .i64 0]:=by rw[hW3];exact(HY3.out.set 0 _).other (by omega) _ _
  have z4:Bx W3 (w.heap.size+1+1) 30 [.int .i64 0]:=by rw[hW3];exact(HY4.out.other (by omega) _ _).set 0 _
  have hb3:Below w.heap.size w W3:=by rw[hW3];exact((HB0.out.trans (HB1.out.mono HB0.out.size)).setCell (by show w.heap.size≤w.heap.size+1;omega) _).setCell (by show w.heap.size≤w.heap.size+1+1;omega) _
  have htk:Toks W3 av L:=rtoks_blk HTK.out (fun x hx k=>by
   have hk:=HBK.out x hx k;have:=HS0.out;rw[hW3];exact(Below.heap_setCell _ _ _ _ (by show (x.add k).block≠w.heap.size+1+1;omega)).trans (Below.heap_setCell _ _ _ _ (by show (x.add k).block≠w.heap.size+1;omega)))
  have htb:Tab W3:=(HTab.out.of_block (HB1.out.block _ (Nat.lt_of_lt_of_le HGS.out HB0.out.size))).of_block (by
   have:=HGS.out;rw[hW3];exact(Below.heap_setCell _ _ _ _ (by show 0≠w.heap.size+1+1;omega)).trans (Below.heap_setCell _ _ _ _ (by show 0≠w.heap.size+1;omega)))
  obtain⟨W4,hW4⟩:∃ W4,W4=W3.alloc (.cells #[.slice av L.length vc,.int .i64 (n:Nat),.int .i64 0] 129):=⟨_,rfl⟩
  have hb34:Below W3.heap.size W3 W4:=by rw[hW4];exact(Below.refl _ W3).alloc (Nat.le_refl _) _
  have hst:PSt W4 W3.heap.size vc n av L ⟨0,0,0⟩:=by
   refine⟨?_,rtoks_blk htk (fun x hx k=>hb34.block _ ?_),fun x hx k=>?_,by omega,Nat.zero_le _,HSL.out,HRL.out,rfl,htb.of_block (hb34.block _ ?_),?_⟩
   ·rw[hW4];exact heap_alloc_new _ _
   ·have:=HBK.out x hx k;omega
   ·have:=HBK.out x hx k;omega
   ·have:=HGS.out;have:=HZ.out;omega
   ·have:=HGS.out;have:=HZ.out;omega
  have HP:=hid (pprog8_any W3.heap.size vc n av L ⟨0,0,0⟩ W4 hst);unfold Go8 at HP;generalize progS L n (fuel8 L) ⟨0,0,0⟩ ⟨[],[]⟩=pr at HP hq;obtain⟨s2,x⟩:=pr;simp only at HP hq;have HQ:=hid hq;have HZ2:=hid z2;have HZ3:=hid z3;have HZ4:=hid z4;have HB3:=hid hb3;have HW3:=hid hW3;have HW4:=hid hW4;have HB34:=hid hb34;have HL3:=hid (show w.heap.size+3≤W3.heap.size by have:=HZ.out;omega);have HW:Hid (∀ W,Below W3.heap.size W4 W→Bx W w.heap.size 26 [.slice none 0 0,.slice none 0 0]∧Bx W (w.heap.size+1) 3 [.int .i64 0]∧Bx W (w.heap.size+1+1) 30 [.int .i64 0]∧Below w.heap.size w W):=hid (fun W hW=>by
   have hb:=HB34.out.trans hW;have:=HL3.out;exact⟨HZ2.out.keep hb (by omega),HZ3.out.keep hb (by omega),HZ4.out.keep hb (by omega),HB3.out.trans (hb.mono (by omega))⟩)
  have HD:Hid (∀ (W:World) (pl bad:Int) (tmps:Array Value),Below W3.heap.size W4 W→R=(zProg,pl,bad)→tmps.getD 4 undef=.pointer (some ⟨w.heap.size,0,none⟩)→tmps.getD 5 undef=.pointer (some ⟨w.heap.size+1,0,none⟩)→tmps.getD 6 undef=.pointer (some ⟨w.heap.size+1+1,0,none⟩) →
   Leaves Tryz.prog Tryz.f37 tmps (ParsePP R w) [{ target:=.fn (.func 65) #[.pointer (some ⟨w.heap.size+1,0,none⟩),.pointer (some ⟨w.heap.size+1+1,0,none⟩)],args:=#[] }]
    (.panicking [{ v:=.iface 127 (.agg #[.int .i64 pl,.int .i64 bad]),recovered:=false }]) W):=hid (fun W pl bad tmps hW hr h2 h3 h4=>by
   obtain⟨k1,k2,k3,k4⟩:=HW.out W hW;have l1:=k1.lt;have l3:=k3.lt;refine leaves_cons (f:=65) (args:=#[.pointer (some ⟨w.heap.size+1,0,none⟩),.pointer (some ⟨w.heap.size+1+1,0,none⟩)]) (by simp) (by simp[go_sem]) ?_;refine(shutP_panic (w.heap.size+1) (w.heap.size+1+1) pl bad _ _ W k2 k3 (by omega)).mono ?_;rintro e u' w' ⟨rfl,rfl,s1,s2,s3,s4⟩;rw[hr];exact⟨_,wholePRes rfl h2 h3 h4 (show Bx w' w.heap.size 26 [.slice none 0 0,.slice none 0 0] from (s4 _ l1 (by omega) (by omega)).trans k1) s1 s2,_,_,rfl,zpr_it _ _,k4.trans (s3 _ (by omega) (by omega) (by omega))⟩)
  clear hW3 hz3 z2 z3 z4 hb3 htk htb hW4 hb34 hst hq HTK HBK HRL HSL HTab HY2 HB1 hlen HS0 HZ;go_upto_region 5 with (fail);rw[← HW3.out];go_upto_region 6 with (fail);rw[← HW4.out];clear c2 c3 c4 f3 f4 HY3 HY4;generalize hp:W3.heap.size=p at *
  go_upto_region 7 with (go_at_call 38;(with_reducible refine HP.out.mono ?_);rintro e w5 ⟨hg,he⟩;have HE5:=hid he;clear he;replace hg:=Or.symm hg;rcases hg with ⟨hg,rfl⟩|⟨⟨tv,kv,rfl,hit⟩,hg⟩ <;> first|(obtain⟨⟨ua,ma,ka,rfl⟩,⟨ub,mb,kb,rfl⟩⟩:=prog_form hit;have HIT:=hid hit;have HST5:=hid (show PSt w5 p vc n av L s2 from hg);clear hg hit)|(have HBD:=hid hg;clear hg;try unfold gave8))
  ·refine HD.out w5 s2.pl s2.bad _ HE5.out.1 ?_ rfl rfl rfl;have hes:endS L n s2=s2:=by unfold endS;rw[if_neg (fun h=>HBD.out h.1)]
   rw[HQ.out,hes,if_neg HBD.out]
  obtain⟨W6,hW6⟩:∃ W6,W6=w5.alloc (.cells #[.slice ua ma ka,.slice ub mb kb] 26):=⟨_,rfl⟩
  have hb6:Below w5.heap.size w5 W6:=by rw[hW6];exact(Below.refl _ w5).alloc (Nat.le_refl _) _
  have HC6:=hid (show Bx W6 w5.heap.size 26 [.slice ua ma ka,.slice ub mb kb] by rw[hW6];exact Bx.new w5 _ _);have HST6:=hid (HST5.out.below hb6);have hlt5:=HST5.out.lt;have HB6:=hid (HE5.out.1.trans (hb6.mono (Nat.le_of_lt hlt5)));have HPW:=hid (show w.heap.size+3≤p∧p<W4.heap.size by have:=HL3.out;have:W4.heap.size=W3.heap.size+1:=(by rw[HW4.out];simp);omega);have HI6:=hid (HIT.out.same (w':=W6) progK (fun b _ hb2=>hb6.block b hb2) hb6.size);rw[← hW6];have hwX:w.heap.size+3≤w5.heap.size:=by have:=HPW.out;omega
  generalize w5.heap.size=X at HC6 hwX ⊢;have c0:=HST6.out.cells.1;have c2:=HST6.out.cells.2.2;clear hW6 hb6 HIT HST5 HE5 hlt5;by_cases hk:s2.k<L.length
  ·have d1:decide ((s2.k:Int)<(L.length:Int))=true:=decide_eq_true (by omega);have d1n:decide (s2.k<L.length)=true:=decide_eq_true hk;have HGV:=hid (give8_any p vc n av L s2 80 W6 HST6.out);have HR3:Hid (R=(zProg,(failS L n s2 s2.k 80).pl,(failS L n s2 s2.k 80).bad)):=hid (by
    have hes:endS L n s2=failS L n s2 s2.k 80:=by unfold endS;rw[if_pos ⟨HST6.out.ok,hk⟩]
    rw[HQ.out,hes,if_neg (by rw[fail_bad HST6.out.ok];decide)])
   clear hk HQ;go_wp2_with (go_at_call 66;(with_reducible refine HGV.out.mono ?_);rintro e w7 ⟨rfl,hb⟩;have HB7:=hid (HB6.out.trans (hb.mono (Nat.le_of_lt HST6.out.lt)));clear hb;unfold gave8);exact HD.out w7 _ _ _ HB7.out HR3.out rfl rfl rfl
  ·have d1:decide ((s2.k:Int)<(L.length:Int))=false:=decide_eq_false (by omega);have d1n:decide (s2.k<L.length)=false:=decide_eq_false hk;have HR3:Hid (R=(x,0,0)):=hid (by
    have hes:endS L n s2=s2:=by unfold endS;rw[if_neg (fun h=>hk h.2)]
    rw[HQ.out,hes,if_pos HST6.out.ok])
   obtain⟨k1,k2,k3,k4⟩:=HW.out W6 HB6.out;have x0:=HC6.out.c 0 rfl;have x1:=HC6.out.c 1 rfl;have r0:=k1.c 0 rfl;have z0:=k1.fz 0;have r1:=k1.c 1 rfl;have z1:=k1.fz 1;have q2:=k2.c 0 rfl;have q3:=k3.c 0 rfl;have y2:=k2.fz 0;have y3:=k3.fz 0;have K1:=hid k1;have K2:=hid k2;have K3:=hid k3;have K4:=hid k4;clear hk HQ k1 k2 k3 k4 HD HW;go_wp2;have X1:Bx ((((W6.setCell ⟨w.heap.size,0,none⟩ (.slice ua ma ka)).setCell ⟨w.heap.size,1,none⟩ (.slice ub mb kb)).setCell ⟨w.heap.size+1,0,none⟩ (.int .i64 0)).setCell ⟨w.heap.size+1+1,0,none⟩ (.int .i64 0)) w.heap.size 26 [.slice ua ma ka,.slice ub mb kb]:=(((K1.out.set 0 _).set 1 _).other (by omega) _ _).other (by omega) _ _;have X2:Bx ((((W6.setCell ⟨w.heap.size,0,none⟩ (.slice ua ma ka)).setCell ⟨w.heap.size,1,none⟩ (.slice ub mb kb)).setCell ⟨w.heap.size+1,0,none⟩ (.int .i64 0)).setCell ⟨w.heap.size+1+1,0,none⟩ (.int .i64 0)) (w.heap.size+1) 3 [.int .i64 0]:=(((K2.out.other (by omega) _ _).other (by omega) _ _).set 0 _).other (by omega) _ _;have X3:Bx ((((W6.setCell ⟨w.heap.size,0,none⟩ (.slice ua ma ka)).setCell ⟨w.heap.size,1,none⟩ (.slice ub mb kb)).setCell ⟨w.heap.size+1,0,none⟩ (.int .i64 0)).setCell ⟨w.heap.size+1+1,0,none⟩ (.int .i64 0)) (w.heap.size+1+1) 30 [.int .i64 0]:=(((K3.out.other (by omega) _ _).other (by omega) _ _).other (by omega) _ _).set 0 _;refine leaves_cons (f:=65) (args:=#[.pointer (some ⟨w.heap.size+1,0,none⟩),.pointer (some ⟨w.heap.size+1+1,0,none⟩)]) (by simp) (by simp[go_sem]) ?_;refine(shutP_idle _ rfl _).mono ?_;rintro e u' w' ⟨rfl,rfl,rfl⟩;rw[HR3.out];have hkeep:∀ b,w.heap.size+3≤b→((((W6.setCell ⟨w.heap.size,0,none⟩ (.slice ua ma ka)).setCell ⟨w.heap.size,1,none⟩ (.slice ub mb kb)).setCell ⟨w.heap.size+1,0,none⟩ (.int .i64 0)).setCell ⟨w.heap.size+1+1,0,none⟩ (.int .i64 0)).heap[b]?=W6.heap[b]?:=fun b hb=>by
    refine(Below.heap_setCell _ _ _ _ (by show b≠w.heap.size+1+1;omega)).trans ((Below.heap_setCell _ _ _ _ (by show b≠w.heap.size+1;omega)).trans ?_);exact(Below.heap_setCell _ _ _ _ (by show b≠w.heap.size;omega)).trans ((Below.heap_setCell _ _ _ _ (by show b≠w.heap.size;omega)))
   refine⟨_,wholePRes rfl rfl rfl rfl X1 X2 X3,_,_,rfl,(HI6.out.same progK (fun b hb1 _=>hkeep b (by have:=HPW.out;omega)) (by simp)).wide (by have:=HPW.out;omega),?_⟩;exact(((K4.out.setCell (Nat.le_refl _) _).setCell (Nat.le_refl _) _).setCell (by show w.heap.size≤w.heap.size+1;omega) _).setCell (by show w.heap.size≤w.heap.size+1+1;omega) _
 ·have hq:R=(zProg,(((allR l).2.1:Nat):Int),(((allR l).2.2:Nat):Int)):=by rw[HR.out];unfold progT;rw[if_pos he]
  obtain⟨P,hP⟩:∃ P,P=(allR l).2.1:=⟨_,rfl⟩
  obtain⟨E,hE⟩:∃ E,E=(allR l).2.2:=⟨_,rfl⟩
  rw[← hP,← hE] at hq ⊢;rw[← hE] at he;have d1:((E:Int)==0)=false:=beq_eq_false_iff_ne.2 (by omega);have d2:((E:Int) != 0)=true:=bne_iff_ne.2 (by omega);have HQ:=hid hq;clear hP hE he hq HR;go_upto_region 3 with (fail);obtain⟨W3,hW3⟩:∃ W3,W3=(w1.setCell ⟨w.heap.size+1,0,none⟩ (.int .i64 (P:Nat))).setCell ⟨w.heap.size+1+1,0,none⟩ (.int .i64 (E:Nat)):=⟨_,rfl⟩
  rw[← hW3];have z2:Bx W3 w.heap.size 26 [.slice none 0 0,.slice none 0 0]:=by rw[hW3];exact(HY2.out.other (by omega) _ _).other (by omega) _ _
  have z3:Bx W3 (w.heap.size+1) 3 [.int .i64 P]:=by rw[hW3];exact(HY3.out.set 0 _).other (by omega) _ _
  have z4:Bx W3 (w.heap.size+1+1) 30 [.int .i64 E]:=by rw[hW3];exact(HY4.out.other (by omega) _ _).set 0 _
  have hb3:Below w.heap.size w W3:=by rw[hW3];exact((HB0.out.trans (HB1.out.mono HB0.out.size)).setCell (by show w.heap.size≤w.heap.size+1;omega) _).setCell (by show w.heap.size≤w.heap.size+1+1;omega) _
  have HB3:=hid hb3;have HZ2:=hid z2;have HZ3:=hid z3;have HZ4:=hid z4;have a10:=z2.c 0 rfl;have e10:=z2.fz 0;have a11:=z2.c 1 rfl;have e11:=z2.fz 1;have a3:=z3.c 0 rfl;have a4:=z4.c 0 rfl;have e3:=z3.fz 0;have e4:=z4.fz 0;clear hW3 z2 z3 z4 hb3 c2 c3 c4 f3 f4 HY2 HY3 HY4;go_region;have X1:Bx ((((W3.setCell ⟨w.heap.size,0,none⟩ (.slice none 0 0)).setCell ⟨w.heap.size,1,none⟩ (.slice none 0 0)).setCell ⟨w.heap.size+1,0,none⟩ (.int .i64 (P:Nat))).setCell ⟨w.heap.size+1+1,0,none⟩ (.int .i64 (E:Nat))).drew w.heap.size 26 [.slice none 0 0,.slice none 0 0]:=bx_dr ((((HZ2.out.set 0 _).set 1 _).other (by omega) _ _).other (by omega) _ _);have X2:Bx ((((W3.setCell ⟨w.heap.size,0,none⟩ (.slice none 0 0)).setCell ⟨w.heap.size,1,none⟩ (.slice none 0 0)).setCell ⟨w.heap.size+1,0,none⟩ (.int .i64 (P:Nat))).setCell ⟨w.heap.size+1+1,0,none⟩ (.int .i64 (E:Nat))).drew (w.heap.size+1) 3 [.int .i64 P]:=bx_dr ((((HZ3.out.other (by omega) _ _).other (by omega) _ _).set 0 _).other (by omega) _ _);have X3:Bx ((((W3.setCell ⟨w.heap.size,0,none⟩ (.slice none 0 0)).setCell ⟨w.heap.size,1,none⟩ (.slice none 0 0)).setCell ⟨w.heap.size+1,0,none⟩ (.int .i64 (P:Nat))).setCell ⟨w.heap.size+1+1,0,none⟩ (.int .i64 (E:Nat))).drew (w.heap.size+1+1) 30 [.int .i64 E]:=bx_dr ((((HZ4.out.other (by omega) _ _).other (by omega) _ _).other (by omega) _ _).set 0 _);have X4:Below w.heap.size w ((((W3.setCell ⟨w.heap.size,0,none⟩ (.slice none 0 0)).setCell ⟨w.heap.size,1,none⟩ (.slice none 0 0)).setCell ⟨w.heap.size+1,0,none⟩ (.int .i64 (P:Nat))).setCell ⟨w.heap.size+1+1,0,none⟩ (.int .i64 (E:Nat))).drew:=((((HB3.out.setCell (Nat.le_refl _) _).setCell (Nat.le_refl _) _).setCell (by show w.heap.size≤w.heap.size+1;omega) _).setCell (by show w.heap.size≤w.heap.size+1+1;omega) _).drew;go_wp2;rw[HQ.out];generalize ((((W3.setCell ⟨w.heap.size,0,none⟩ (.slice none 0 0)).setCell ⟨w.heap.size,1,none⟩ (.slice none 0 0)).setCell ⟨w.heap.size+1,0,none⟩ (.int .i64 (P:Nat))).setCell ⟨w.heap.size+1+1,0,none⟩ (.int .i64 (E:Nat))).drew=WE at X1 X2 X3 X4 ⊢;exact⟨_,wholePRes rfl rfl rfl rfl X1 X2 X3,_,_,rfl,zpr_it _ _,X4⟩
end Go.Proofs.YtenlhcgpajphhaaGreatDoor
namespace Go.Proofs.YtenlhcgpajphhaaGreatDoor
open Go.RowKit
set_option maxRecDepth 100000
set_option linter.all false
def awk1:List UInt8:=[116,97,103,32,97,40,105,110,116,41,59,32,107,105,110,100,32,107,32,123,32,99,104,111,114,100,32,99,58,32,97,40,110,41,32,119,104,101,110,32,110,32,60,32,50,32,123,32,98,101,99,111,109,101,32,107,59,32,125,32,125]
def awk2:List UInt8:=[116,97,103,32,97,40,98,111,111,108,41,59]
def awkT:List Tok:=[⟨1,[116,97,103],0,0,0,3⟩,⟨1,[97],0,0,4,1⟩,⟨5,[40],0,0,5,1⟩,⟨1,[105,110,116],0,0,6,3⟩,⟨5,[41],0,0,9,1⟩,⟨5,[59],0,0,10,1⟩,
 ⟨1,[107,105,110,100],0,0,12,4⟩,⟨1,[107],0,0,17,1⟩,⟨5,[123],0,0,19,1⟩,⟨1,[99,104,111,114,100],0,0,21,5⟩,⟨1,[99],0,0,27,1⟩,⟨5,[58],0,0,28,1⟩,
 ⟨1,[97],0,0,30,1⟩,⟨5,[40],0,0,31,1⟩,⟨1,[110],0,0,32,1⟩,⟨5,[41],0,0,33,1⟩,⟨1,[119,104,101,110],0,0,35,4⟩,⟨1,[110],0,0,40,1⟩,⟨5,[60],0,0,42,1⟩,⟨2,[],2,0,44,1⟩,
 ⟨5,[123],0,0,46,1⟩,⟨1,[98,101,99,111,109,101],0,0,48,6⟩,⟨1,[107],0,0,55,1⟩,⟨5,[59],0,0,56,1⟩,⟨5,[125],0,0,58,1⟩,⟨5,[125],0,0,60,1⟩]
def awkU:List Tok:=[⟨1,[116,97,103],0,0,0,3⟩,⟨1,[97],0,0,4,1⟩,⟨5,[40],0,0,5,1⟩,⟨1,[98,111,111,108],0,0,6,4⟩,⟨5,[41],0,0,10,1⟩,⟨5,[59],0,0,11,1⟩]
theorem awk1_all:allR awk1=(awkT,0,0):=by decide +kernel
theorem awk2_all:allR awk2=(awkU,0,0):=by decide +kernel
def awkL:List TokE:=awkT.map tokE
def awkM:List TokE:=awkU.map tokE
def awkE:Ex:=.bi 12 (.lf (.var ⟨#[110]⟩)) (.lf (.int 2))
def awkP:PartE:=⟨⟨#[97]⟩,[⟨#[110]⟩]⟩
def awkA:ActE:=⟨4,none,⟨#[107]⟩,eB,[]⟩
def awkC:ChordE:=⟨⟨#[99]⟩,[awkP],some awkE,[awkA]⟩
def awkR:ProgE:=⟨[⟨⟨#[97]⟩,[1]⟩],[⟨⟨#[107]⟩,[awkC]⟩]⟩
theorem awk_expr:exprS awkL 61 ⟨17,0,0⟩=(⟨20,0,0⟩,some awkE):=by
 have h:RdR awkL 17 (some awkE) 20 0:=.inr (.inr ⟨awkE,20,⟨14,by kernel_rfl⟩,by kernel_rfl,rfl,rfl,rfl⟩);unfold exprS;rw[if_pos rfl,show ({ k:=17,bad:=0,pl:=0 }:S8).k=17 from rfl,rdX_of h];rfl
theorem awk_chord:chordS awkL 61 ⟨9,0,0⟩=(⟨25,0,0⟩,awkC):=by
 have e1:wordS awkL 61 (wantS awkL 61 ⟨9,0,0⟩ ⟨#[99,104,111,114,100]⟩)=(⟨11,0,0⟩,⟨#[99]⟩):=by kernel_rfl
 have e2:partS awkL 61 (wantS awkL 61 ⟨11,0,0⟩ ⟨#[58]⟩)=(⟨16,0,0⟩,awkP):=by kernel_rfl
 have e3:ampS awkL 61 (fuel8 awkL) ⟨16,0,0⟩ [awkP]=(⟨16,0,0⟩,[awkP]):=by kernel_rfl
 have e4:isB awkL ⟨16,0,0⟩ ⟨#[119,104,101,110]⟩=true:=by kernel_rfl
 have e5:upS awkL (actS awkL 61) (fuel8 awkL) (wantS awkL 61 ⟨20,0,0⟩ ⟨#[123]⟩) []=(⟨25,0,0⟩,[awkA]):=by kernel_rfl
 have e6:nextS ⟨16,0,0⟩=⟨17,0,0⟩:=rfl;unfold chordS;simp only[e1,e2,e3,e4,if_true,e6,awk_expr,e5];rfl
theorem awk_kind:kindDS awkL 61 ⟨6,0,0⟩=(⟨26,0,0⟩,⟨⟨#[107]⟩,[awkC]⟩):=by
 have e1:wordS awkL 61 (wantS awkL 61 ⟨6,0,0⟩ ⟨#[107,105,110,100]⟩)=(⟨8,0,0⟩,⟨#[107]⟩):=by kernel_rfl
 have e2:wantS awkL 61 ⟨8,0,0⟩ ⟨#[123]⟩=⟨9,0,0⟩:=by kernel_rfl
 have e3:upS awkL (chordS awkL 61) (fuel8 awkL) ⟨9,0,0⟩ []=(⟨26,0,0⟩,[awkC]):=by
  have f:fuel8 awkL=26+1+1:=by kernel_rfl
  rw[f,upS,if_pos rfl,if_neg (by rw[show isB awkL ⟨9,0,0⟩ ⟨#[125]⟩=false by kernel_rfl];decide),awk_chord,upS,if_pos rfl,if_pos (by kernel_rfl)];rfl
 unfold kindDS;simp only[e1,e2,e3]
theorem awk_prog:progS awkL 61 (fuel8 awkL) ⟨0,0,0⟩ ⟨[],[]⟩=(⟨26,0,0⟩,awkR):=by
 have f:fuel8 awkL=25+1+1+1:=by kernel_rfl
 have l:awkL.length=26:=by kernel_rfl
 have e1:tagS awkL 61 (nextS ⟨0,0,0⟩)=(⟨6,0,0⟩,⟨⟨#[97]⟩,[1]⟩):=by kernel_rfl
 rw[f,progS,l,if_pos (by decide),if_pos (by kernel_rfl),e1,progS,l,if_pos (by decide),if_neg (by rw[show isB awkL ⟨6,0,0⟩ ⟨#[116,97,103]⟩=false by kernel_rfl];decide),awk_kind,progS,l,if_neg (by decide)];rfl
theorem awk1_said:progT awk1 61=(awkR,0,0):=by
 have h:toksL awk1=awkL:=by unfold toksL;rw[awk1_all];rfl
 unfold progT;rw[if_neg (by rw[awk1_all];decide),h,awk_prog];rw[show endS awkL 61 ⟨26,0,0⟩=⟨26,0,0⟩ by kernel_rfl,if_pos rfl]
theorem awk2_said:progT awk2 12=(zProg,6,80):=by
 have h:toksL awk2=awkM:=by unfold toksL;rw[awk2_all];rfl
 have e:(progS awkM 12 (fuel8 awkM) ⟨0,0,0⟩ ⟨[],[]⟩).1=⟨3,80,6⟩:=by
  have f:fuel8 awkM=6+1+1:=by kernel_rfl
  have l:awkM.length=6:=by kernel_rfl
  have e1:(tagS awkM 12 (nextS ⟨0,0,0⟩)).1=⟨3,80,6⟩:=by kernel_rfl
  rw[f,progS,l,if_pos (by decide),if_pos (by kernel_rfl),e1,progS,if_neg (by decide)]
 unfold progT;rw[if_neg (by rw[awk2_all];decide),h,e];rw[show endS awkM 12 ⟨3,80,6⟩=⟨3,80,6⟩ by kernel_rfl,if_neg (by decide)]
open Go.Shelf
open Lib(hid)
set_option maxHeartbeats 4000000
theorem parseP_any (a:Option Addr) (n cap:Nat) (l:List UInt8) (w:World) (hT:Txt w a n cap l) (hG:Glob w) (hTab:Tab w) (hgs:0<w.heap.size) :
  Calls Tryz.prog 11 #[.slice a n cap] w (ParsePP (progT l n) w):=by
 obtain⟨W0,hW0,hx0,hb0⟩:∃ W0,W0=w.alloc (.cells #[.slice none 0 0,.slice none 0 0] 26)∧Bx W0 w.heap.size 26 [.slice none 0 0,.slice none 0 0]∧Below w.heap.size w W0:=⟨_,rfl,Bx.new w 26 [.slice none 0 0,.slice none 0 0],(Below.refl _ w).alloc (Nat.le_refl _) _⟩
 have HS:=hid (wholeP_any a n cap l W0 (hT.below hb0 (Nat.le_refl _)) (hG.below hb0 (Nat.le_refl _)) (hTab.of_block (hb0.block _ hgs)) (Nat.lt_of_lt_of_le hgs hb0.size));have HZ:Hid (W0.heap.size=w.heap.size+1):=hid (by rw[hW0];simp);have HW0:=hid hW0;have HX0:=hid hx0;have HB0:=hid hb0;unfold ParsePP at HS ⊢;generalize progT l n=R at HS ⊢;obtain⟨x,at_,fl⟩:=R;simp only at HS ⊢;clear hT hG hTab hgs hW0 hx0 hb0;go_enter Tryz.func11,Tryz.ntmps11;go_upto_region 1 with (fail);rw[← HW0.out];go_wp2_with (go_at_call 37;(with_reducible refine HS.out.mono ?_);rintro e w1 ⟨tv,kv,rfl,hit,hb⟩;obtain⟨⟨ua,ma,ka,rfl⟩,⟨ub,mb,kb,rfl⟩⟩:=prog_form hit;have HIT:=hid hit;have HB1:=hid (HB0.out.trans (hb.mono HB0.out.size));have HX1:=hid (HX0.out.keep hb HX0.out.lt);clear hit hb;have c0:=HX1.out.c 0 rfl;have f0:=HX1.out.fz 0;have c1:=HX1.out.c 1 rfl;have f1:=HX1.out.fz 1);refine bodyPost_ret (parsePRes rfl rfl rfl rfl ((HX1.out.set 0 _).set 1 _)) rfl ⟨_,_,rfl,?_,((HB1.out.setCell (Nat.le_refl _) _).setCell (Nat.le_refl _) _)⟩;exact(HIT.out.same progK (fun b hb1 _=>by
  have:=HZ.out;exact(Below.heap_setCell _ _ _ _ (by show b≠w.heap.size;omega)).trans ((Below.heap_setCell _ _ _ _ (by show b≠w.heap.size;omega)))) (by simp)).wide (by have:=HZ.out;omega)
def bytes8 (l:List UInt8):List Value:=l.map fun b=>Value.int .u8 (b.toNat:Int)
theorem txt_marked8 (w:World) (l:List UInt8) (t:TypeId) (fr:Nat × Nat) (hl:l.length≤maxLen):Txt (w.alloc (.cells (bytes8 l).toArray t fr)) (some ⟨w.heap.size,0,none⟩) l.length l.length l:=by
 refine⟨rfl,Nat.le_refl _,hl,.inr ⟨_,rfl,fun i hi=>?_⟩⟩;have:(w.alloc (.cells (bytes8 l).toArray t fr)).heap[w.heap.size]?=some (.cells (bytes8 l).toArray t fr):=heap_alloc_new w _;have e1:(⟨w.heap.size,0,none⟩:Addr).add i=⟨w.heap.size,i,none⟩:=by unfold Addr.add;simp;intro h;exact h.symm
 rw[e1];unfold World.cell?;simp only[this];simp[bytes8,hi]
theorem awake8_any (w:World) (hG:Glob w) (hTab:Tab w) (hgs:0<w.heap.size):Calls Tryz.prog 21 #[] w (WTrue w):=by
 have kc:=fun (w:World) (C:Array Value) (n c:Nat)=>Lib.run_convert_bytes_const (P:=Tryz.prog) w 22 5 C n c Tryz.underlying22 Tryz.underlying5;obtain⟨w1,hw1⟩:∃ w1,w1=w.alloc (.cells (bytes8 awk1).toArray 5 (61,62)):=⟨_,rfl⟩
 have hT1:Txt w1 (some ⟨w.heap.size,0,none⟩) 61 61 awk1:=by rw[hw1];exact txt_marked8 w awk1 _ _ (by decide)
 have hB1:Below w.heap.size w w1:=by rw[hw1];exact(Below.refl _ w).alloc (Nat.le_refl _) _
 have hs1:=parseP_any _ 61 61 awk1 w1 hT1 (hG.below hB1 (Nat.le_refl _)) (hTab.of_block (hB1.block _ hgs)) (Nat.lt_of_lt_of_le hgs hB1.size);have he1:w.alloc (.cells #[.int .u8 116,.int .u8 97,.int .u8 103,.int .u8 32,.int .u8 97,.int .u8 40,.int .u8 105,.int .u8 110,.int .u8 116,.int .u8 41,.int .u8 59,.int .u8 32,.int .u8 107,.int .u8 105,.int .u8 110,.int .u8 100,.int .u8 32,.int .u8 107,.int .u8 32,.int .u8 123,.int .u8 32,.int .u8 99,.int .u8 104,.int .u8 111,.int .u8 114,.int .u8 100,.int .u8 32,.int .u8 99,.int .u8 58,.int .u8 32,.int .u8 97,.int .u8 40,.int .u8 110,.int .u8 41,.int .u8 32,.int .u8 119,.int .u8 104,.int .u8 101,.int .u8 110,.int .u8 32,.int .u8 110,.int .u8 32,.int .u8 60,.int .u8 32,.int .u8 50,.int .u8 32,.int .u8 123,.int .u8 32,.int .u8 98,.int .u8 101,.int .u8 99,.int .u8 111,.int .u8 109,.int .u8 101,.int .u8 32,.int .u8 107,.int .u8 59,.int .u8 32,.int .u8 125,.int .u8 32,.int .u8 125] 5 (61,62))=w1:=by rw[hw1];rfl
 unfold ParsePP at hs1;rw[awk1_said] at hs1;simp only at hs1;have HS1:=hid hs1;have HB1:=hid hB1;have HE1:=hid he1;have HG:=hid hG;have HTab:=hid hTab;clear hs1 hw1 hT1 hB1 he1 hG hTab;unfold WTrue;go_enter Tryz.func21,Tryz.ntmps21;go_wp2_with fail;rw[HE1.out];refine HS1.out.mono ?_;rintro e w2 ⟨tv,kv,rfl,hit,hb⟩;obtain⟨at1,pt1,ak1,pk1,hc,ht1,hk1⟩:=held_prog (held_of hit);cases hc;have HK1:=hid hk1;have HB2:=hid (HB1.out.trans (hb.mono HB1.out.size));clear hit hb hk1 ht1;obtain⟨W2,hW2⟩:∃ W2,W2=w2.alloc (.cells #[.slice at1 awkR.tags.length pt1,.slice ak1 awkR.kinds.length pk1] 26):=⟨_,rfl⟩
 have hb2:Below w2.heap.size w2 W2:=by rw[hW2];exact(Below.refl _ w2).alloc (Nat.le_refl _) _
 have HX2:=hid (show Bx W2 w2.heap.size 26 [.slice at1 1 pt1,.slice ak1 1 pk1] by rw[hW2];exact Bx.new w2 _ _);have HK2:=hid (HK1.out.keep kindK hb2 (Nat.le_refl _));have HB3:=hid (HB2.out.trans (hb2.mono HB2.out.size));have HZ2:=hid (show w2.heap.size<W2.heap.size by rw[hW2];simp);clear hb2 HK1 HS1;obtain⟨w3,hw3⟩:∃ w3,w3=W2.alloc (.cells (bytes8 awk2).toArray 5 (12,13)):=⟨_,rfl⟩
 have hT3:Txt w3 (some ⟨W2.heap.size,0,none⟩) 12 12 awk2:=by rw[hw3];exact txt_marked8 W2 awk2 _ _ (by decide)
 have hB3:Below W2.heap.size W2 w3:=by rw[hw3];exact(Below.refl _ W2).alloc (Nat.le_refl _) _
 have hB4:=HB3.out.trans (hB3.mono HB3.out.size);have hs3:=parseP_any _ 12 12 awk2 w3 hT3 (HG.out.below hB4 (Nat.le_refl _)) (HTab.out.of_block (hB4.block _ hgs)) (Nat.lt_of_lt_of_le hgs hB4.size);have he3:W2.alloc (.cells #[.int .u8 116,.int .u8 97,.int .u8 103,.int .u8 32,.int .u8 97,.int .u8 40,.int .u8 98,.int .u8 111,.int .u8 111,.int .u8 108,.int .u8 41,.int .u8 59] 5 (12,13))=w3:=by rw[hw3];rfl
 unfold ParsePP at hs3;rw[awk2_said] at hs3;simp only at hs3;have hsz:W2.heap.size=w2.heap.size+1:=by rw[hW2];simp
 have kc2:=kc W2;rw[hsz] at hs3 kc2;rw[hW2] at kc2;clear hsz;have HS3:=hid hs3;have HE3:=hid he3;have HB4:=hid hB4;have HK3:=hid (HK2.out.keep kindK hB3 (Nat.le_refl _));have HX3:=hid (HX2.out.keep hB3 HX2.out.lt);have HW2:=hid hW2;clear hs3 hw3 hT3 hB3 he3 hB4 hW2 HK2 HX2 kc;go_wp2_with fail;rw[← HW2.out,HE3.out];refine HS3.out.mono ?_;rintro e w4 ⟨tv,kv,rfl,hit,hb⟩;obtain⟨at2,pt2,ak2,pk2,hc,ht2,hk2⟩:=held_prog (held_of hit);cases hc;clear ht2 hk2 hit;have HB5:=hid (HB4.out.trans (hb.mono HB4.out.size));have hK4:=HK3.out.keep kindK hb (Nat.le_refl _);have hX4:=HX3.out.keep hb HX3.out.lt;obtain⟨W4,hW4⟩:∃ W4,W4=w4.alloc (.cells #[.slice at2 zProg.tags.length pt2,.slice ak2 zProg.kinds.length pk2] 26):=⟨_,rfl⟩
 have hb4:Below w4.heap.size w4 W4:=by rw[hW4];exact(Below.refl _ w4).alloc (Nat.le_refl _) _
 have hK5:=hK4.keep kindK hb4 (Nat.le_refl _);have hX5:=hX4.keep hb4 hX4.lt;have HB6:=hid (HB5.out.trans (hb4.mono HB5.out.size));obtain⟨g,c1,rfl,hh,hcc⟩:=hK5.at kindK 0 ⟨⟨#[107]⟩,[awkC]⟩ rfl;obtain⟨ac,pc,rfl,_⟩:=held_kind hh;have x0:=hX5.c 0 rfl;have x1:=hX5.c 1 rfl;have y1:W4.cell? ⟨g,1,none⟩=some (.slice ac 1 pc):=by have:=hcc 1 _ rfl;simpa using this
 have HW4:=hid hW4;clear hb hK4 hX4 hW4 hb4 hK5 hX5 hh hcc HS3 HK3 HX3;go_upto_region 3 with (fail);rw[← HW4.out];go_wp2;go_ret;exact⟨rfl,HB6.out⟩
end Go.Proofs.YtenlhcgpajphhaaGreatDoor
