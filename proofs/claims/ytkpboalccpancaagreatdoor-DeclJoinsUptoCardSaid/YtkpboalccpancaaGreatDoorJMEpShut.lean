import Derived.Test.YtkpboalccpancaaGreatDoorJMEbPlace
import Derived.Recover
import Derived.Test.YtkpboalccpancaaGreatDoorJMVReal
import Derived.Deep.RegionHeld3
import Derived.Test.YtkpboalccpancaaGreatDoorJMTextWalks
import Derived.Lib.AppendStr
import Derived.Laws.OwnMore
namespace Go.Proofs.YtkpboalccpancaaGreatDoor
open Go.RowKit Go.Shelf
set_option maxRecDepth 100000
set_option linter.all false
def placeOf (L:List TokE) (n q:Nat):Int:=if q=L.length then n else (L.getD q default).pl
theorem cell_set_far {W:World} {b c:Nat} {i j:Nat} {v:Value} {x:Option Value} (h:b≠c) (h2:W.cell? ⟨c,j,none⟩=x):(W.setCell ⟨b,i,none⟩ v).cell? ⟨c,j,none⟩=x :=
 (World.cell?_setCell_other _ _ _ _ (fun e=>h (congrArg Addr.block e))).trans h2
def ShutP (B pe pa pf:Nat) (at_ fl:Int) (w w':World):Prop :=
 Bx w' pe 41 [.slice none 0 0]∧Bx w' pa 3 [.int .i64 at_]∧Bx w' pf 30 [.int .i64 fl]∧Below B w w'
open Lib(hid)
set_option maxHeartbeats 2000000
theorem qshut_idle (args:Array Value) (hz:args.size=3) (w:World):CallsD Tryz.prog 96 args .returning w fun e u' w'=>e=.returned (.tuple #[])∧u'=.returning∧w'=w:=by
 refine callsD_of_wpS Tryz.func96 rfl fun c₀ cs hu=>?_;obtain⟨v0,v1,v2,rfl⟩:∃ v0 v1 v2,args=#[v0,v1,v2]:=by
  obtain⟨l⟩:=args
  match l,hz with
  | [a,b,c],_=>exact⟨a,b,c,rfl⟩
 apply wpS_seq;apply wpS_region;simp[wpOpsS,go_sem,recoverD,hu,Tryz.ntmps96,Exit.thenS];refine wpS_of_wp (Code.wp_mono (Q:=fun e a' w'=>(e=.normal∨e=.ret)∧a'.defers=[]∧w'=w) ?_ ?_)
 ·rintro e a' w' ⟨he,hd,hs⟩;cases c₀;rcases he with rfl|rfl <;> simp_all [bodyPostS,results,Tryz.results96,Exit.thenS]
 refine Eq.mpr (congrArg (fun t:Array Value=>Code.wp Tryz.prog _ _ ⟨t,[]⟩ w) (show _=(#[v0,v1,v2,.nilIface,undef,.nilIface,undef,undef,undef,undef,undef,undef,undef,undef,undef]:Array Value) from rfl)) ?_;go_wp2
theorem qshut_panic (B pe pa pf q:Nat) (fl:Int) (ve va vf:Value) (w:World) (hxe:Bx w pe 41 [ve]) (hxa:Bx w pa 3 [va]) (hxf:Bx w pf 30 [vf])
  (hea:pe≠pa) (hef:pe≠pf) (haf:pa≠pf) (hBe:B≤pe) (hBa:B≤pa) (hBf:B≤pf) :
  CallsD Tryz.prog 96 #[.pointer (some ⟨pe,0,none⟩),.pointer (some ⟨pa,0,none⟩),.pointer (some ⟨pf,0,none⟩)] (.panicking [{ v:=.iface 159 (.agg #[.int .i64 q,.int .i64 fl]),recovered:=false }]) w fun e u' w' =>
   e=.returned (.tuple #[])∧u'=.panicking [{ v:=.iface 159 (.agg #[.int .i64 q,.int .i64 fl]),recovered:=true }]∧ShutP B pe pa pf q fl w w':=by
 refine callsD_of_wpS Tryz.func96 rfl fun c₀ cs hu=>?_;apply wpS_seq;apply wpS_region;simp[wpOpsS,go_sem,recoverD,hu,Tryz.ntmps96,Exit.thenS];refine wpS_of_wp (Code.wp_mono (Q:=fun e a' w'=>(e=.normal∨e=.ret)∧a'.defers=[]∧ShutP B pe pa pf q fl w w') ?_ ?_)
 ·rintro e a' w' ⟨he,hd,hs⟩;rcases he with rfl|rfl <;> simp_all [bodyPostS,results,Tryz.results96,Exit.thenS]
 refine Eq.mpr (congrArg (fun t:Array Value=>Code.wp Tryz.prog _ _ ⟨t,[]⟩ w) (show _=(#[.pointer (some ⟨pe,0,none⟩),.pointer (some ⟨pa,0,none⟩),.pointer (some ⟨pf,0,none⟩),.iface 159 (.agg #[.int .i64 q,.int .i64 fl]),undef,.iface 159 (.agg #[.int .i64 q,.int .i64 fl]),undef,undef,undef,undef,undef,undef,undef,undef,undef]:Array Value) from rfl)) ?_;have hass:∀ (v:Value) (W:World),(Instr.typeAssert (.iface 159 v) 20 159 false).run Tryz.prog W=.ok v W:=fun v W=>rfl;go_wp2_with (fail);obtain⟨W1,hW1⟩:∃ W1,W1=w.alloc (.cells #[.int .i64 q,.int .i64 fl] 159):=⟨_,rfl⟩
 have hb1:Below w.heap.size w W1:=by rw[hW1];exact(Below.refl _ w).alloc (Nat.le_refl _) _
 have hg:Bx W1 w.heap.size 159 [.int .i64 q,.int .i64 fl]:=by rw[hW1];exact Bx.new w _ _
 rw[← hW1];have g0:=hg.c 0 rfl;have g1:=hg.c 1 rfl;have he1:=hxe.keep hb1 hxe.lt;have ha1:=hxa.keep hb1 hxa.lt;have hf1:=hxf.keep hb1 hxf.lt;have e0:=he1.c 0 rfl;have a0:=ha1.c 0 rfl;have f0:=hf1.c 0 rfl;have ez:=he1.fz 0;have az:=ha1.fz 0;have fz:=hf1.fz 0;have HE:=hid he1;have HA:=hid ha1;have HF:=hid hf1;have HB1:=hid hb1;have lte:=hxe.lt;have lta:=hxa.lt;have ltf:=hxf.lt;clear hxe hxa hxf he1 ha1 hf1 hg hW1 hb1;go_region;have X1:Bx ((W1.setCell ⟨pe,0,none⟩ (.slice none 0 0)).setCell ⟨pa,0,none⟩ (.int .i64 q)) pe 41 [.slice none 0 0]:=(HE.out.set 0 _).other hea _ _;have X2:Bx ((W1.setCell ⟨pe,0,none⟩ (.slice none 0 0)).setCell ⟨pa,0,none⟩ (.int .i64 q)) pa 3 [.int .i64 q]:=(HA.out.other (Ne.symm hea) _ _).set 0 _;have X3:Bx ((W1.setCell ⟨pe,0,none⟩ (.slice none 0 0)).setCell ⟨pa,0,none⟩ (.int .i64 q)) pf 30 [vf]:=(HF.out.other (Ne.symm hef) _ _).other (Ne.symm haf) _ _;exact⟨.inl rfl,rfl,X1.other hef _ _,X2.other haf _ _,X3.set 0 _,((((HB1.out.mono (by omega)).setCell hBe _).setCell hBa _).setCell hBf _).drew⟩
def RdR (L:List TokE) (k:Nat) (o:Option Ex) (at_ f:Int):Prop :=
 (∃ q,Rd (gL L) (.lvl 1) k (.bad q)∧o=none∧at_=(q:Nat)∧f=50) ∨
 (∃ t q,Rd (gL L) (.lvl 1) k (.ok t q)∧faultT t≠0∧o=none∧at_=(k:Nat)∧f=faultT t) ∨
 (∃ t q,Rd (gL L) (.lvl 1) k (.ok t q)∧faultT t=0∧o=some t∧at_=(q:Nat)∧f=0)
def ReadD (L:List TokE) (k:Nat) (w:World) (e:Ending) (w':World):Prop :=
 ((∃ at_ f:Int,RdR L k none at_ f∧e=.returned (.tuple #[.agg #[.slice none 0 0],.int .i64 at_,.int .i64 f])) ∨
  (∃ t g c,∃ at_:Int,RdR L k (some t) at_ 0∧e=.returned (.tuple #[.agg #[.slice (some ⟨g,0,none⟩) (cnt t) c],.int .i64 at_,.int .i64 0])∧w.heap.size≤g∧g<w'.heap.size∧NodesAt w' g (lay 0 t)))∧Below w.heap.size w w'
theorem new3 (w:World) (T1 T2 T3:TypeId) (c1 c2 c3:List Value):∃ W,W=((w.alloc (.cells c1.toArray T1)).alloc (.cells c2.toArray T2)).alloc (.cells c3.toArray T3) ∧
  Bx W w.heap.size T1 c1∧Bx W (w.heap.size+1) T2 c2∧Bx W (w.heap.size+1+1) T3 c3∧Below w.heap.size w W∧W.heap.size=w.heap.size+3:=by
 have s1:(w.alloc (.cells c1.toArray T1)).heap.size=w.heap.size+1:=by simp
 have s2:((w.alloc (.cells c1.toArray T1)).alloc (.cells c2.toArray T2)).heap.size=w.heap.size+1+1:=by simp
 have x1:=Bx.new w T1 c1;have x2:=Bx.new (w.alloc (.cells c1.toArray T1)) T2 c2;have x3:=Bx.new ((w.alloc (.cells c1.toArray T1)).alloc (.cells c2.toArray T2)) T3 c3;rw[s1] at x2;rw[s2] at x3;have b2:Below (w.heap.size+1) (w.alloc (.cells c1.toArray T1)) ((w.alloc (.cells c1.toArray T1)).alloc (.cells c2.toArray T2)):=(Below.refl _ _).alloc (by omega) _;have b3:Below (w.heap.size+1+1) ((w.alloc (.cells c1.toArray T1)).alloc (.cells c2.toArray T2)) (((w.alloc (.cells c1.toArray T1)).alloc (.cells c2.toArray T2)).alloc (.cells c3.toArray T3)):=(Below.refl _ _).alloc (by omega) _;refine⟨_,rfl,(x1.keep b2 (by omega)).keep b3 (by omega),x2.keep b3 (by omega),x3,?_,by simp⟩;exact(((Below.refl _ w).alloc (Nat.le_refl _) _).trans (b2.mono (by omega))).trans (b3.mono (by omega))
theorem rtoks_blk {w w':World} {a:Option Addr} {L:List TokE} (h:Toks w a L) (hb:∀ x,a=some x→∀ n,w'.heap[(x.add n).block]?=w.heap[(x.add n).block]?):Toks w' a L:=fun i hi=>by
 obtain⟨x,hx,h0,h1,h2,h3,h4,h5⟩:=h i hi;have hl:=hb x hx (i * 6);exact⟨x,hx,(World.cell?_of_block hl).trans h0,(World.cell?_of_block (a:=⟨(x.add (i * 6)).block,_,none⟩) hl).trans h1,(World.cell?_of_block (a:=⟨(x.add (i * 6)).block,_,none⟩) hl).trans h2,(World.cell?_of_block (a:=⟨(x.add (i * 6)).block,_,none⟩) hl).trans h3,(World.cell?_of_block (a:=⟨(x.add (i * 6)).block,_,none⟩) hl).trans h4,(World.cell?_of_block (a:=⟨(x.add (i * 6)).block,_,none⟩) hl).trans h5⟩
theorem qresults_cells3 {fn:Func} {p q r:Tmp} {t1 t2 t3:TypeId} (h:fn.results=#[.cell p t1,.cell q t2,.cell r t3]) (tmps:Array Value) (P:Program) (w:World) :
  (results fn tmps).run P w =
   ((asAddr (tmps.getD p undef)).run P w).andThen fun a w₁=>((loadVar t1 a).run P w₁).andThen fun v w₂ =>
   ((asAddr (tmps.getD q undef)).run P w₂).andThen fun a w₃=>((loadVar t2 a).run P w₃).andThen fun v2 w₄ =>
   ((asAddr (tmps.getD r undef)).run P w₄).andThen fun a w₅=>((loadVar t3 a).run P w₅).andThen fun v3 w₆=>.ok (.tuple #[v,v2,v3]) w₆:=by
 simp only[results,h];simp[Sem.run_bind,Result.andThen]
theorem qreadRes {fn:Func} {p q r:Tmp} {tmps:Array Value} {W:World} {b1 b2 b3:Nat} {v:Value} {x y:Int} (hf:fn.results=#[.cell p 41,.cell q 3,.cell r 30])
  (h1:tmps.getD p undef=.pointer (some ⟨b1,0,none⟩)) (h2:tmps.getD q undef=.pointer (some ⟨b2,0,none⟩)) (h3:tmps.getD r undef=.pointer (some ⟨b3,0,none⟩))
  (x1:Bx W b1 41 [v]) (x2:Bx W b2 3 [.int .i64 x]) (x3:Bx W b3 30 [.int .i64 y]) :
  (results fn tmps).run Tryz.prog W=.ok (.tuple #[.agg #[v],.int .i64 x,.int .i64 y]) W:=by
 have c1:=x1.c 0 rfl;have c2:=x2.c 0 rfl;have c3:=x3.c 0 rfl;rw[qresults_cells3 hf,h1,h2,h3];simp[asAddr,go_sem,c1,c2,c3,Result.andThen]
end Go.Proofs.YtkpboalccpancaaGreatDoor
namespace Go.Proofs.YtkpboalccpancaaGreatDoor
open Go.RowKit
set_option linter.all false
theorem wpList_append_txt {w:World} {ops:Array Oper} {rest:List Oper} {o:Oper} {a:Act} {Q:Exit→Act→World→Prop} (hgd:o.guard=none) (s x:Operand)
  (ho:o.op=.call { callee:=.builtin .append,args:=#[s,x],argTypes:=#[22,22] }) (base:Nat) (v:Value) (n:Nat) (xs:List UInt8) (hs:a.eval s=v) (hown:w.ownsRow base 5 1 v n (u8s xs))
  (ad:Option Addr) (m c:Nat) (l:List UInt8) (hx:a.eval x=.slice ad m c) (hT:Txt w ad m c l) (hnm:n+m≤140737488355328) (hbase:base≤w.heap.size)
  (h:∀ g2 c2 w',w'.ownsRow base 5 1 (.slice g2 (n+m) c2) (n+m) (u8s (xs++l))→Below base w w'→wpList Tryz.prog ops Q rest (a.put o.dst (.slice g2 (n+m) c2)) w'):wpList Tryz.prog ops Q (o :: rest) a w:=by
 obtain⟨i0,hi,hz0,hz1,hz2⟩:=info_parts info5';obtain⟨hl,hnc,hm,h4⟩:=hT;rcases h4 with ⟨rfl,rfl,rfl⟩|⟨y,rfl,hy⟩
 ·obtain rfl:l=[]:=List.eq_nil_of_length_eq_zero hl;refine wpList_append_own_none hgd s x 22 ho base 5 i0 1 Tryz.underlying22 hi v n (u8s xs) hs hown hx ?_;rcases hown.2 with ⟨rfl,h0⟩|⟨g,cap,cur,rfl,_⟩
  ·subst h0;exact h none 0 w (by rw[List.append_nil];exact hown) (Below.refl _ w)
  ·exact h _ _ w (by rw[List.append_nil];exact hown) (Below.refl _ w)
 ·refine wpList_append_own w hgd s x 22 ho base 5 i0 (.int .u8 0) 1 1 Tryz.underlying22 hi hz0 hz1 hz2 rfl (by decide) v n (u8s xs) hs hown y m c (u8s l) hx (by simp[u8s_length,hl]) hy.cells (u8s_one _) (by unfold maxLen;omega) (by omega) hbase ?_;intro v' w' hown' hgrow _;rw[← u8s_append] at hown';have hb:Below base w w':=(Below.refl _ w).grown hgrow hbase (fun b hb=>(hown.lt b hb).1);rcases hown'.2 with ⟨rfl,h0⟩|⟨g,cap,cur,rfl,_⟩
  ·have e:n+m=0:=h0;have:=h none 0 w';rw[e] at this hown';exact this hown' hb
  ·exact h _ _ w' hown' hb
theorem own_empty (w:World):(w.alloc (.cells #[] 5)).ownsRow w.heap.size 5 1 (.slice (some ⟨w.heap.size,0,none⟩) 0 0) 0 (u8s []):=World.ownsRow_lit w #[] 0 (Nat.le_refl _) (Nat.zero_le _) rfl
end Go.Proofs.YtkpboalccpancaaGreatDoor
