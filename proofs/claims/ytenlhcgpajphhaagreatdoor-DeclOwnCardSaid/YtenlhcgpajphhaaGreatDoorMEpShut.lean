import Derived.Test.YtenlhcgpajphhaaGreatDoorMEbPlace
import Derived.Recover
import Derived.Test.YtenlhcgpajphhaaGreatDoorMExPlain
import Derived.Test.YtenlhcgpajphhaaGreatDoorMNextPlain
import Derived.Deep.RegionHeld3
namespace Go.Proofs.YtenlhcgpajphhaaGreatDoor
open Go.RowKit Go.Shelf
set_option maxRecDepth 100000
set_option linter.all false
def placeOf (L:List TokE) (n q:Nat):Int:=if q=L.length then n else (L.getD q default).pl
theorem cell_set_far {W:World} {b c:Nat} {i j:Nat} {v:Value} {x:Option Value} (h:b≠c) (h2:W.cell? ⟨c,j,none⟩=x):(W.setCell ⟨b,i,none⟩ v).cell? ⟨c,j,none⟩=x :=
 (World.cell?_setCell_other _ _ _ _ (fun e=>h (congrArg Addr.block e))).trans h2
def ShutP (B pe pa pf:Nat) (at_ fl:Int) (w w':World):Prop :=
 Bx w' pe 41 [.slice none 0 0]∧Bx w' pa 3 [.int .i64 at_]∧Bx w' pf 30 [.int .i64 fl]∧Below B w w'
end Go.Proofs.YtenlhcgpajphhaaGreatDoor
namespace Go.Proofs.YtenlhcgpajphhaaGreatDoor
open Go.RowKit
set_option linter.all false
def inR (N:Nat):Rs→Prop
 | .ok _ q=>q≤N
 | .bad q=>q≤N
theorem gL_no {L:List TokE} {k:Nat} (h:¬ k<L.length):gL L k=.no:=by unfold gL;rw[if_neg h]
theorem isM_lt {L:List TokE} {k:Nat} {s:List UInt8} (h:isM (gL L k) s=true):k<L.length:=by
 rcases Nat.lt_or_ge k L.length with h'|h'
 ·exact h'
 ·rw[gL_no (by omega)] at h;cases h
theorem thenR_in {N:Nat} {o:Option Rs} {k:Ex→Nat→Option Rs} {r:Rs} (h:thenR o k=some r) (h1:∀ x,o=some x→inR N x) (h2:∀ a q,q≤N→k a q=some r→inR N r):inR N r:=by
 unfold thenR at h;cases ho:o with
 | none=>rw[ho] at h;cases h
 | some x =>
  rw[ho] at h;have hx:=h1 x ho;cases x with
  | ok a e=>exact h2 a e hx h
  | bad e=>cases h;exact hx
theorem rd_in (L:List TokE):∀ (f:Nat) (X:Nt) (p:Nat) (r:Rs),(∀ n a,X=.loop n a→1≤n)→(∀ n,X=.lvl n→1≤n)→p≤L.length→rd (gL L) f X p=some r→inR L.length r:=by
 intro f
 induction f with
 | zero=>intro X p r _ _ _ h;unfold rd at h;cases h
 | succ f ih =>
  intro X p r hl hv hp h;have ih1:∀ n p r,1≤n→p≤L.length→rd (gL L) f (.lvl n) p=some r→inR L.length r:=fun n p r hn hp h=>ih _ _ _ (fun _ _ e=>by cases e) (fun _ e=>by cases e;exact hn) hp h;cases X with
  | lvl n =>
   have hn:=hv n rfl;rw[rd] at h;split at h
   ·cases hg:gL L p with
    | leaf l =>
     rw[hg] at h;have hlt:p<L.length:=by
      rcases Nat.lt_or_ge p L.length with h'|h'
      ·exact h'
      ·rw[gL_no (by omega)] at hg;cases hg
     cases h;exact hlt
    | mark s =>
     rw[hg] at h;have hlt:p<L.length:=by
      rcases Nat.lt_or_ge p L.length with h'|h'
      ·exact h'
      ·rw[gL_no (by omega)] at hg;cases hg
     simp only at h;split at h
     ·refine thenR_in h (fun x hx=>ih1 1 _ _ (by omega) hlt hx) (fun a q hq hk=>?_);split at hk
      ·rename_i hm;cases hk;exact isM_lt hm
      ·cases hk;exact hq
     ·cases h;exact hp
    | word k =>
     rw[hg] at h;have hlt:p<L.length:=by
      rcases Nat.lt_or_ge p L.length with h'|h'
      ·exact h'
      ·rw[gL_no (by omega)] at hg;cases hg
     simp only at h;split at h
     ·rename_i hb;have hlt2:=isM_lt hb;refine thenR_in h (fun x hx=>ih1 1 _ _ (by omega) hlt2 hx) (fun a q hq hk=>?_);split at hk
      ·split at hk
       ·rename_i hm;cases hk;exact isM_lt hm
       ·cases hk;exact hq
      ·split at hk
       ·rename_i hm;have hlt3:=isM_lt hm;refine thenR_in hk (fun x hx=>ih1 1 _ _ (by omega) hlt3 hx) (fun b q2 hq2 hk2=>?_);split at hk2
        ·rename_i hm2;cases hk2;exact isM_lt hm2
        ·cases hk2;exact hq2
       ·cases hk;exact hq
     ·cases h;exact hlt
    | no=>rw[hg] at h;cases h;exact hp
   ·split at h
    ·split at h
     ·exact ih1 _ _ _ (by omega) hp h
     ·rename_i hs;have hlt:p<L.length:=by
       rcases Nat.lt_or_ge p L.length with h'|h'
       ·exact h'
       ·rw[gL_no (by omega)] at hs;exact absurd rfl hs
      exact thenR_in h (fun x hx=>ih1 6 _ _ (by omega) hlt hx) (fun a q hq hk=>by cases hk;exact hq)
    ·exact thenR_in h (fun x hx=>ih1 _ _ _ (by omega) hp hx) (fun a q hq hk=>ih _ _ _ (fun _ _ e=>by cases e;exact hn) (fun _ e=>by cases e) hq hk)
  | loop n a =>
   have hn:=hl n a rfl;rw[rd] at h;split at h
   ·rename_i hop;have hlt:p<L.length:=by
     rcases Nat.lt_or_ge p L.length with h'|h'
     ·exact h'
     ·rw[gL_no (by omega)] at hop;have e0:opL (clK .no)=0:=rfl;omega
    refine thenR_in h (fun x hx=>ih1 _ _ _ (by omega) hlt hx) (fun b q hq hk=>?_);split at hk
    ·cases hk;exact hq
    ·exact ih _ _ _ (fun _ _ e=>by cases e;exact hn) (fun _ e=>by cases e) hq hk
   ·cases h;exact hp
theorem Rd.bad_le {L:List TokE} {n p q:Nat} (hn:1≤n) (hp:p≤L.length) (h:Rd (gL L) (.lvl n) p (.bad q)):q≤L.length:=by
 obtain⟨f,hf⟩:=h;exact rd_in L f _ _ _ (fun _ _ e=>by cases e) (fun _ e=>by cases e;exact hn) hp hf
theorem Rd.ok_le {L:List TokE} {n p q:Nat} {t:Ex} (hn:1≤n) (hp:p≤L.length) (h:Rd (gL L) (.lvl n) p (.ok t q)):q≤L.length:=by
 obtain⟨f,hf⟩:=h;exact rd_in L f _ _ _ (fun _ _ e=>by cases e) (fun _ e=>by cases e;exact hn) hp hf
def tokE (t:Tok):TokE:=⟨t.kind,⟨t.text.toArray⟩,t.int,t.real,t.at_,t.size⟩
open Go.Shelf
open Lib(hid)
set_option maxRecDepth 100000
set_option maxHeartbeats 2000000
theorem qshut_idle (args:Array Value) (hz:args.size=3) (w:World):CallsD Tryz.prog 133 args .returning w fun e u' w'=>e=.returned (.tuple #[])∧u'=.returning∧w'=w:=by
 refine callsD_of_wpS Tryz.func133 rfl fun c₀ cs hu=>?_;obtain⟨v0,v1,v2,rfl⟩:∃ v0 v1 v2,args=#[v0,v1,v2]:=by
  obtain⟨l⟩:=args
  match l,hz with
  | [a,b,c],_=>exact⟨a,b,c,rfl⟩
 apply wpS_seq;apply wpS_region;simp[wpOpsS,go_sem,recoverD,hu,Tryz.ntmps133,Exit.thenS];refine wpS_of_wp (Code.wp_mono (Q:=fun e a' w'=>(e=.normal∨e=.ret)∧a'.defers=[]∧w'=w) ?_ ?_)
 ·rintro e a' w' ⟨he,hd,hs⟩;cases c₀;rcases he with rfl|rfl <;> simp_all [bodyPostS,results,Tryz.results133,Exit.thenS]
 refine Eq.mpr (congrArg (fun t:Array Value=>Code.wp Tryz.prog _ _ ⟨t,[]⟩ w) (show _=(#[v0,v1,v2,.nilIface,undef,.nilIface,undef,undef,undef,undef,undef,undef,undef,undef,undef]:Array Value) from rfl)) ?_;go_wp2
theorem qshut_panic (B pe pa pf q:Nat) (fl:Int) (ve va vf:Value) (w:World) (hxe:Bx w pe 41 [ve]) (hxa:Bx w pa 3 [va]) (hxf:Bx w pf 30 [vf])
  (hea:pe≠pa) (hef:pe≠pf) (haf:pa≠pf) (hBe:B≤pe) (hBa:B≤pa) (hBf:B≤pf) :
  CallsD Tryz.prog 133 #[.pointer (some ⟨pe,0,none⟩),.pointer (some ⟨pa,0,none⟩),.pointer (some ⟨pf,0,none⟩)] (.panicking [{ v:=.iface 190 (.agg #[.int .i64 q,.int .i64 fl]),recovered:=false }]) w fun e u' w' =>
   e=.returned (.tuple #[])∧u'=.panicking [{ v:=.iface 190 (.agg #[.int .i64 q,.int .i64 fl]),recovered:=true }]∧ShutP B pe pa pf q fl w w':=by
 refine callsD_of_wpS Tryz.func133 rfl fun c₀ cs hu=>?_;apply wpS_seq;apply wpS_region;simp[wpOpsS,go_sem,recoverD,hu,Tryz.ntmps133,Exit.thenS];refine wpS_of_wp (Code.wp_mono (Q:=fun e a' w'=>(e=.normal∨e=.ret)∧a'.defers=[]∧ShutP B pe pa pf q fl w w') ?_ ?_)
 ·rintro e a' w' ⟨he,hd,hs⟩;rcases he with rfl|rfl <;> simp_all [bodyPostS,results,Tryz.results133,Exit.thenS]
 refine Eq.mpr (congrArg (fun t:Array Value=>Code.wp Tryz.prog _ _ ⟨t,[]⟩ w) (show _=(#[.pointer (some ⟨pe,0,none⟩),.pointer (some ⟨pa,0,none⟩),.pointer (some ⟨pf,0,none⟩),.iface 190 (.agg #[.int .i64 q,.int .i64 fl]),undef,.iface 190 (.agg #[.int .i64 q,.int .i64 fl]),undef,undef,undef,undef,undef,undef,undef,undef,undef]:Array Value) from rfl)) ?_;have hass:∀ (v:Value) (W:World),(Instr.typeAssert (.iface 190 v) 20 190 false).run Tryz.prog W=.ok v W:=fun v W=>rfl;go_wp2_with (fail);obtain⟨W1,hW1⟩:∃ W1,W1=w.alloc (.cells #[.int .i64 q,.int .i64 fl] 190):=⟨_,rfl⟩
 have hb1:Below w.heap.size w W1:=by rw[hW1];exact(Below.refl _ w).alloc (Nat.le_refl _) _
 have hg:Bx W1 w.heap.size 190 [.int .i64 q,.int .i64 fl]:=by rw[hW1];exact Bx.new w _ _
 rw[← hW1];have g0:=hg.c 0 rfl;have g1:=hg.c 1 rfl;have he1:=hxe.keep hb1 hxe.lt;have ha1:=hxa.keep hb1 hxa.lt;have hf1:=hxf.keep hb1 hxf.lt;have e0:=he1.c 0 rfl;have a0:=ha1.c 0 rfl;have f0:=hf1.c 0 rfl;have ez:=he1.fz 0;have az:=ha1.fz 0;have fz:=hf1.fz 0;have HE:=hid he1;have HA:=hid ha1;have HF:=hid hf1;have HB1:=hid hb1;have lte:=hxe.lt;have lta:=hxa.lt;have ltf:=hxf.lt;clear hxe hxa hxf he1 ha1 hf1 hg hW1 hb1;go_region;have X1:Bx ((W1.setCell ⟨pe,0,none⟩ (.slice none 0 0)).setCell ⟨pa,0,none⟩ (.int .i64 q)) pe 41 [.slice none 0 0]:=(HE.out.set 0 _).other hea _ _;have X2:Bx ((W1.setCell ⟨pe,0,none⟩ (.slice none 0 0)).setCell ⟨pa,0,none⟩ (.int .i64 q)) pa 3 [.int .i64 q]:=(HA.out.other (Ne.symm hea) _ _).set 0 _;have X3:Bx ((W1.setCell ⟨pe,0,none⟩ (.slice none 0 0)).setCell ⟨pa,0,none⟩ (.int .i64 q)) pf 30 [vf]:=(HF.out.other (Ne.symm hef) _ _).other (Ne.symm haf) _ _;exact⟨.inl rfl,rfl,X1.other hef _ _,X2.other haf _ _,X3.set 0 _,((((HB1.out.mono (by omega)).setCell hBe _).setCell hBa _).setCell hBf _).drew⟩
def RdR (L:List TokE) (k:Nat) (o:Option Ex) (at_ f:Int):Prop :=
 (∃ q,Rd (gL L) (.lvl 1) k (.bad q)∧o=none∧at_=(q:Nat)∧f=50) ∨
 (∃ t q,Rd (gL L) (.lvl 1) k (.ok t q)∧faultT t≠0∧o=none∧at_=(k:Nat)∧f=faultT t) ∨
 (∃ t q,Rd (gL L) (.lvl 1) k (.ok t q)∧faultT t=0∧o=some t∧at_=(q:Nat)∧f=0)
def ReadD (L:List TokE) (k:Nat) (w:World) (e:Ending) (w':World):Prop :=
 ((∃ at_ f:Int,RdR L k none at_ f∧e=.returned (.tuple #[.agg #[.slice none 0 0],.int .i64 at_,.int .i64 f])) ∨
  (∃ t g c,∃ at_:Int,RdR L k (some t) at_ 0∧e=.returned (.tuple #[.agg #[.slice (some ⟨g,0,none⟩) (cnt t) c],.int .i64 at_,.int .i64 0])∧w.heap.size≤g∧g<w'.heap.size∧NodesAt w' g (lay 0 t)))∧Below w.heap.size w w'
theorem new3 (w:World) (T1 T2 T3:TypeId) (c1 c2 c3:List Value):∃ W,W=((w.alloc (.cells c1.toArray T1)).alloc (.cells c2.toArray T2)).alloc (.cells c3.toArray T3) ∧
  Bx W w.heap.size T1 c1∧Bx W (w.heap.size+1) T2 c2∧Bx W (w.heap.size+1+1) T3 c3∧Below w.heap.size w W∧W.heap.size=w.heap.size+3:=by
 have s1:(w.alloc (.cells c1.toArray T1)).heap.size=w.heap.size+1:=by simp
 have s2:((w.alloc (.cells c1.toArray T1)).alloc (.cells c2.toArray T2)).heap.size=w.heap.size+1+1:=by simp
 have x1:=Bx.new w T1 c1;have x2:=Bx.new (w.alloc (.cells c1.toArray T1)) T2 c2;have x3:=Bx.new ((w.alloc (.cells c1.toArray T1)).alloc (.cells c2.toArray T2)) T3 c3;rw[s1] at x2;rw[s2] at x3;have b2:Below (w.heap.size+1) (w.alloc (.cells c1.toArray T1)) ((w.alloc (.cells c1.toArray T1)).alloc (.cells c2.toArray T2)):=(Below.refl _ _).alloc (by omega) _;have b3:Below (w.heap.size+1+1) ((w.alloc (.cells c1.toArray T1)).alloc (.cells c2.toArray T2)) (((w.alloc (.cells c1.toArray T1)).alloc (.cells c2.toArray T2)).alloc (.cells c3.toArray T3)):=(Below.refl _ _).alloc (by omega) _;refine⟨_,rfl,(x1.keep b2 (by omega)).keep b3 (by omega),x2.keep b3 (by omega),x3,?_,by simp⟩;exact(((Below.refl _ w).alloc (Nat.le_refl _) _).trans (b2.mono (by omega))).trans (b3.mono (by omega))
theorem rtoks_blk {w w':World} {a:Option Addr} {L:List TokE} (h:Toks w a L) (hb:∀ x,a=some x→∀ n,w'.heap[(x.add n).block]?=w.heap[(x.add n).block]?):Toks w' a L:=fun i hi=>by
 obtain⟨x,hx,h0,h1,h2,h3,h4,h5⟩:=h i hi;have hl:=hb x hx (i * 6);exact⟨x,hx,(World.cell?_of_block hl).trans h0,(World.cell?_of_block (a:=⟨(x.add (i * 6)).block,_,none⟩) hl).trans h1,(World.cell?_of_block (a:=⟨(x.add (i * 6)).block,_,none⟩) hl).trans h2,(World.cell?_of_block (a:=⟨(x.add (i * 6)).block,_,none⟩) hl).trans h3,(World.cell?_of_block (a:=⟨(x.add (i * 6)).block,_,none⟩) hl).trans h4,(World.cell?_of_block (a:=⟨(x.add (i * 6)).block,_,none⟩) hl).trans h5⟩
theorem qresults_cells3 {fn:Func} {p q r:Tmp} {t1 t2 t3:TypeId} (h:fn.results=#[.cell p t1,.cell q t2,.cell r t3]) (tmps:Array Value) (P:Program) (w:World) :
  (results fn tmps).run P w =
   ((asAddr (tmps.getD p undef)).run P w).andThen fun a w₁=>((loadVar t1 a).run P w₁).andThen fun v w₂ =>
   ((asAddr (tmps.getD q undef)).run P w₂).andThen fun a w₃=>((loadVar t2 a).run P w₃).andThen fun v2 w₄ =>
   ((asAddr (tmps.getD r undef)).run P w₄).andThen fun a w₅=>((loadVar t3 a).run P w₅).andThen fun v3 w₆=>.ok (.tuple #[v,v2,v3]) w₆:=by
 simp only[results,h];simp[Sem.run_bind,Result.andThen]
theorem qreadRes {fn:Func} {p q r:Tmp} {tmps:Array Value} {W:World} {b1 b2 b3:Nat} {v:Value} {x y:Int} (hf:fn.results=#[.cell p 41,.cell q 3,.cell r 30])
  (h1:tmps.getD p undef=.pointer (some ⟨b1,0,none⟩)) (h2:tmps.getD q undef=.pointer (some ⟨b2,0,none⟩)) (h3:tmps.getD r undef=.pointer (some ⟨b3,0,none⟩))
  (x1:Bx W b1 41 [v]) (x2:Bx W b2 3 [.int .i64 x]) (x3:Bx W b3 30 [.int .i64 y]) :
  (results fn tmps).run Tryz.prog W=.ok (.tuple #[.agg #[v],.int .i64 x,.int .i64 y]) W:=by
 have c1:=x1.c 0 rfl;have c2:=x2.c 0 rfl;have c3:=x3.c 0 rfl;rw[qresults_cells3 hf,h1,h2,h3];simp[asAddr,go_sem,c1,c2,c3,Result.andThen]
end Go.Proofs.YtenlhcgpajphhaaGreatDoor
