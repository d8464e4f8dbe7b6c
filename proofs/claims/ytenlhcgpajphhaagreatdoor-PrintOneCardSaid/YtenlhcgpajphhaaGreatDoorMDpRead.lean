import Derived.Test.YtenlhcgpajphhaaGreatDoorMEbPlace
import Derived.Test.YtenlhcgpajphhaaGreatDoorMEpScan
import Derived.Test.YtenlhcgpajphhaaGreatDoorMDrIs
import Derived.Test.YtenlhcgpajphhaaGreatDoorMDrKeyword
namespace Go.Proofs.YtenlhcgpajphhaaGreatDoor
open Go.RowKit Go.Shelf
open Lib(hid)
set_option maxRecDepth 100000
set_option linter.all false
set_option maxHeartbeats 4000000
theorem qt1 (L:List TokE) (k pe pa pf q:Nat) (fl:Int) (ve va vf:Value) (w W:World) (tmps:Array Value) (hp:RdR L k none (q:Nat) fl)
  (h2:tmps.getD 4 undef=.pointer (some ⟨pe,0,none⟩)) (h3:tmps.getD 5 undef=.pointer (some ⟨pa,0,none⟩)) (h4:tmps.getD 6 undef=.pointer (some ⟨pf,0,none⟩))
  (xe:Bx W pe 41 [ve]) (xa:Bx W pa 3 [va]) (xf:Bx W pf 30 [vf]) (hB:Below w.heap.size w W)
  (hea:pe≠pa) (hef:pe≠pf) (haf:pa≠pf) (hBe:w.heap.size≤pe) (hBa:w.heap.size≤pa) (hBf:w.heap.size≤pf) :
  Leaves Tryz.prog Tryz.f109 tmps (q62 L k w) [{ target:=.fn (.func 133) #[.pointer (some ⟨pe,0,none⟩),.pointer (some ⟨pa,0,none⟩),.pointer (some ⟨pf,0,none⟩)],args:=#[] }]
   (.panicking [{ v:=.iface 190 (.agg #[.int .i64 q,.int .i64 fl]),recovered:=false }]) W:=by
 refine leaves_cons (f:=133) (args:=#[.pointer (some ⟨pe,0,none⟩),.pointer (some ⟨pa,0,none⟩),.pointer (some ⟨pf,0,none⟩)]) (by simp) (by simp[go_sem]) ?_;refine(qsQ w.heap.size pe pa pf q fl ve va vf W xe xa xf hea hef haf hBe hBa hBf).mono ?_;rintro e u' w' ⟨rfl,rfl,s1,s2,s3,s4⟩;exact⟨_,quL rfl h2 h3 h4 s1 s2 s3,.inl ⟨_,_,hp,rfl⟩,hB.trans s4⟩
theorem q40 (a:Option Addr) (cap k:Nat) (L:List TokE) (w:World) (hk:k≤L.length) (hT:qw7 w a L) (low:∀ x,a=some x→∀ n,(x.add n).block<w.heap.size) (hlen:L.length≤1000000) (hR:∀ i,(L.getD i default).rl<18446744073709551616) (hTab:Tab w) (hgs:0<w.heap.size) :
  Calls Tryz.prog 109 #[.slice a L.length cap,.int .i64 k] w (q62 L k w):=by
 have hmf:∀ (fn:Fn) (first cap:Array Value) (w:World),(Instr.makeFunc fn first cap).run Tryz.prog w=.ok (.func fn first cap) w:=fun _ _ _ _=>rfl;obtain⟨W0,hW0,x2,x3,x4,hb0,hs0⟩:=jcP w 41 3 30 [.slice none 0 0] [.int .i64 0] [.int .i64 0];obtain⟨W4,hW4⟩:∃ W4,W4=W0.alloc (.cells #[.slice a L.length cap,.int .i64 k,.slice none 0 0] 192):=⟨_,rfl⟩
 have hb4:Below W0.heap.size W0 W4:=by rw[hW4];exact(Below.refl _ W0).alloc (Nat.le_refl _) _
 have hst:St W4 W0.heap.size cap a L k (.slice none 0 0) []:=by
  refine⟨by rw[hW4];exact heap_alloc_new _ _,qfW hT (fun x hx n=>?_),fun x hx n=>by have:=low x hx n;omega,World.ownsRow_nil _ _ _ _,by omega,hk,hTab.of_block ?_,by omega⟩
  ·have hl:=low x hx n;exact(hb4.block _ (by omega)).trans (hb0.block _ hl)
  ·exact(hb4.block _ (by omega)).trans (hb0.block _ hgs)
 have HLV:=hid (q19 W0.heap.size cap k 1 a L (by omega) hR (.slice none 0 0) [] W4 (Nat.zero_le _) hst (by omega) (by omega));have HW0:=hid hW0;have HW4:=hid hW4;have HS0:=hid hs0;have HW:Hid (∀ W,Below W0.heap.size W4 W→Bx W w.heap.size 41 [.slice none 0 0]∧Bx W (w.heap.size+1) 3 [.int .i64 0]∧Bx W (w.heap.size+1+1) 30 [.int .i64 0]∧Below w.heap.size w W):=hid (fun W hW=>by
  have hb:=hb4.trans hW;exact⟨x2.keep hb (by omega),x3.keep hb (by omega),x4.keep hb (by omega),hb0.trans (hb.mono (by omega))⟩)
 have HD:Hid (∀ (W:World) (q:Nat) (fl:Int) (tmps:Array Value),Below W0.heap.size W4 W→RdR L k none (q:Nat) fl→tmps.getD 4 undef=.pointer (some ⟨w.heap.size,0,none⟩)→tmps.getD 5 undef=.pointer (some ⟨w.heap.size+1,0,none⟩)→tmps.getD 6 undef=.pointer (some ⟨w.heap.size+1+1,0,none⟩) →
  Leaves Tryz.prog Tryz.f109 tmps (q62 L k w) [{ target:=.fn (.func 133) #[.pointer (some ⟨w.heap.size,0,none⟩),.pointer (some ⟨w.heap.size+1,0,none⟩),.pointer (some ⟨w.heap.size+1+1,0,none⟩)],args:=#[] }]
   (.panicking [{ v:=.iface 190 (.agg #[.int .i64 q,.int .i64 fl]),recovered:=false }]) W):=hid (fun W q fl tmps hW hp h2 h3 h4=>by
  obtain⟨k2,k3,k4,k7⟩:=HW.out W hW;exact qt1 L k w.heap.size (w.heap.size+1) (w.heap.size+1+1) q fl _ _ _ w W tmps hp h2 h3 h4 k2 k3 k4 k7 (by omega) (by omega) (by omega) (by omega) (by omega) (by omega))
 clear hT low hR hTab hgs hW0 x2 x3 x4 hb0 hs0 hb4 hst hW4;have d1:decide ((L.length:Int)<(k:Int))=false:=decide_eq_false (by omega)
 go_enter_defers Tryz.func109,Tryz.ntmps109
 go_upto_region 1 with (fail);rw[← HW0.out];go_upto_region 5 with (fail);rw[← HW4.out];generalize hp:W0.heap.size=p at *
 go_upto_region 6 with (go_at_call 134;refine HLV.out.mono ?_;rintro e w5 ⟨he,hb⟩;have HB5:=hid hb;clear hb;rcases he with ⟨q,hq,rfl⟩|⟨t,q,nv',hq,hcq,rfl,hst⟩ <;> simp only[qbO])
 ·exact HD.out w5 q 50 _ HB5.out (.inl ⟨q,hq,rfl,rfl,rfl⟩) rfl rfl rfl
 have hqL:=hq.ok_le (by omega) hk;have hcp:=qeD t;have hstn:=hst;rw[show ([]:List Nd)++lay ([]:List Nd).length t=lay 0 t from rfl] at hstn;obtain⟨g,gc,rfl,hg1,hg2,hnodes⟩:=hstn.nodes (by rw[qaF];omega);rw[qaF] at hstn;have HWH:=hid (qxY p cap q g gc k a L t w5.drew (hq.wf (by omega)) (by omega) (hstn.below (qa0 w5)) (hnodes.keep (qa0 w5) hg2) hg2);have HST:=hid (hstn.below (qa0 w5));have HQ:=hid hq;have HG:=hid (And.intro hg1 hg2);have HROW:Hid (w5.drew.ownsRow (p+1) 109 9 (.slice (some ⟨g,0,none⟩) (cnt t) gc) (cnt t) (qg3 (lay 0 t))):=hid (by have:=HST.out.row;rw[qaF] at this;exact this);have HN:=hid (hnodes.keep (qa0 w5) hg2);have HB6:Hid (Below p W4 w5.drew):=hid HB5.out.drew;have hpz:p<w5.drew.heap.size:=hstn.rdr.lt;have c1:=hstn.rdr.c1;clear hst hstn hq hnodes hg1 hg2 hp;by_cases hf:qcW t=0
 ·have HF:=hid hf;have HWG:Hid (Calls Tryz.prog 135 #[.pointer (some ⟨p,0,none⟩),.int .i64 k] w5.drew fun e w'=>e=.returned (.agg #[.slice (some ⟨g,0,none⟩) (cnt t) gc])∧Below w5.drew.heap.size w5.drew w'):=hid (HWH.out.mono (fun e w' h=>by
   obtain⟨hc,hb⟩:=h;rcases hc with ⟨h0,_⟩|⟨_,he⟩
   ·exact absurd HF.out h0
   ·exact⟨he,hb⟩))
  clear hf HWH;have q1:w.heap.size≠p:=by have:=HS0.out;omega
  have q2:w.heap.size+1≠p:=by have:=HS0.out;omega
  have q3:w.heap.size+1+1≠p:=by have:=HS0.out;omega
  go_region_held3 (fun W=>W.cell? ⟨p,1,none⟩=some (.int .i64 q))
   (first|assumption|(repeat (first|assumption|(refine qeL q1 ?_)|(refine qeL q2 ?_)|(refine qeL q3 ?_)))|go_keep)
   (first|(go_at_call 135;refine HWG.out.mono ?_;rintro e w6 ⟨rfl,hb6⟩;have c1':=(HST.out.below hb6).rdr.c1;have HB7:=hid (HB6.out.trans (hb6.mono (Nat.le_of_lt hpz)));have HN7:=hid (qdB (HROW.out) hb6 (Nat.le_refl _));have HS7:=hid hb6.size;have hk7:=HW.out w6 HB7.out;have b2:=hk7.1.c 0 rfl;have b3:=hk7.2.1.c 0 rfl;have b4:=hk7.2.2.1.c 0 rfl;have e2:=hk7.1.fz 0;have e3:=hk7.2.1.fz 0;have e4:=hk7.2.2.1.fz 0;have HK7:=hid hk7;clear hb6 hk7))
  have hK7:=HK7.out;have hg7:=HG.out;have hs7:w5.heap.size≤w6.heap.size:=HS7.out;have hs0:=HS0.out;have X2:Bx (((w6.setCell ⟨w.heap.size,0,none⟩ (.slice (some ⟨g,0,none⟩) (cnt t) gc)).setCell ⟨w.heap.size+1,0,none⟩ (.int .i64 (q:Nat))).setCell ⟨w.heap.size+1+1,0,none⟩ (.int .i64 0)) w.heap.size 41 [.slice (some ⟨g,0,none⟩) (cnt t) gc]:=((hK7.1.set 0 _).other (by omega) _ _).other (by omega) _ _;have X3:Bx (((w6.setCell ⟨w.heap.size,0,none⟩ (.slice (some ⟨g,0,none⟩) (cnt t) gc)).setCell ⟨w.heap.size+1,0,none⟩ (.int .i64 (q:Nat))).setCell ⟨w.heap.size+1+1,0,none⟩ (.int .i64 0)) (w.heap.size+1) 3 [.int .i64 (q:Nat)]:=((hK7.2.1.other (by omega) _ _).set 0 _).other (by omega) _ _;have X4:Bx (((w6.setCell ⟨w.heap.size,0,none⟩ (.slice (some ⟨g,0,none⟩) (cnt t) gc)).setCell ⟨w.heap.size+1,0,none⟩ (.int .i64 (q:Nat))).setCell ⟨w.heap.size+1+1,0,none⟩ (.int .i64 0)) (w.heap.size+1+1) 30 [.int .i64 0]:=((hK7.2.2.1.other (by omega) _ _).other (by omega) _ _).set 0 _;have XN:Itm exE w.heap.size (((w6.setCell ⟨w.heap.size,0,none⟩ (.slice (some ⟨g,0,none⟩) (cnt t) gc)).setCell ⟨w.heap.size+1,0,none⟩ (.int .i64 (q:Nat))).setCell ⟨w.heap.size+1+1,0,none⟩ (.int .i64 0)) [.slice (some ⟨g,0,none⟩) (cnt t) gc] (some t):=jbK (B:=p+1) (by rw[Nat.zero_add,List.nil_append];exact ownsRow_setCell_below (ownsRow_setCell_below (ownsRow_setCell_below HN7.out (by show w.heap.size<p+1;omega) _) (by show w.heap.size+1<p+1;omega) _) (by show w.heap.size+1+1<p+1;omega) _) (by omega);have XB:Below w.heap.size w (((w6.setCell ⟨w.heap.size,0,none⟩ (.slice (some ⟨g,0,none⟩) (cnt t) gc)).setCell ⟨w.heap.size+1,0,none⟩ (.int .i64 (q:Nat))).setCell ⟨w.heap.size+1+1,0,none⟩ (.int .i64 0)):=((hK7.2.2.2.setCell (Nat.le_refl _) _).setCell (by show w.heap.size≤w.heap.size+1;omega) _).setCell (by show w.heap.size≤w.heap.size+1+1;omega) _;have H2:=hid X2;have H3:=hid X3;have H4:=hid X4;have HXN:=hid XN;have HXB:=hid XB;rename_i hHeld;clear hHeld X2 X3 X4 XN XB hK7 b2 b3 b4 e2 e3 e4 c1';go_wp2;refine leaves_cons (f:=133) (args:=#[.pointer (some ⟨w.heap.size,0,none⟩),.pointer (some ⟨w.heap.size+1,0,none⟩),.pointer (some ⟨w.heap.size+1+1,0,none⟩)]) (by simp) (by simp[go_sem]) ?_;refine(qx9 _ rfl _).mono ?_;rintro e u' w' ⟨rfl,rfl,rfl⟩;exact⟨_,quL rfl rfl rfl rfl H2.out H3.out H4.out,.inr ⟨t,_,(q:Nat),.inr (.inr ⟨t,q,HQ.out,HF.out,rfl,rfl,rfl⟩),rfl,HXN.out⟩,HXB.out⟩
 ·have HF:=hid hf;have HWG:Hid (Calls Tryz.prog 135 #[.pointer (some ⟨p,0,none⟩),.int .i64 k] w5.drew fun e w'=>e=qbO k (qcW t)∧Below w5.drew.heap.size w5.drew w'):=hid (HWH.out.mono (fun e w' h=>by
   obtain⟨hc,hb⟩:=h;rcases hc with ⟨_,he⟩|⟨h0,_⟩
   ·exact⟨he,hb⟩
   ·exact absurd h0 HF.out))
  generalize hfl:qcW t=fl at HWG;have HFL:=hid hfl;clear hf HWH hfl;refine wp_region_any (by kernel_rfl) ?_;refine wpAny_ready (rs:=[0,2]) (by kernel_rfl) (by simp) ?_;refine AllReady.cons rfl (fun K hK=>?_) ?_
  ·(go_simp;refine hK _ _ ?_;clear hK K)
   refine wpAny_ready (rs:=[1,2]) (by kernel_rfl) (by simp) ?_;refine AllReady.cons rfl (fun K hK=>?_) ?_
   ·(go_simp;refine HWG.out.mono ?_;rintro e w6 ⟨rfl,hb6⟩;exact HD.out w6 k fl _ (HB6.out.trans (hb6.mono (Nat.le_of_lt hpz))) (.inr (.inl ⟨t,q,HQ.out,HF.out,rfl,rfl,HFL.out.symm⟩)) rfl rfl rfl)
   refine AllReady.cons rfl (fun K hK=>?_) ?_
   ·(go_simp;refine hK _ _ ?_;clear hK K)
    refine wpAny_ready (rs:=[1,3]) (by kernel_rfl) (by simp) ?_;refine AllReady.cons rfl (fun K hK=>?_) ?_
    ·(go_simp;refine HWG.out.mono ?_;rintro e w6 ⟨rfl,hb6⟩;exact HD.out w6 k fl _ (HB6.out.trans (hb6.mono (Nat.le_of_lt hpz))) (.inr (.inl ⟨t,q,HQ.out,HF.out,rfl,rfl,HFL.out.symm⟩)) rfl rfl rfl)
    refine AllReady.cons rfl (fun K hK=>?_) ?_
    ·(go_simp;refine hK _ _ ?_;clear hK K)
     refine wpAny_ready (rs:=[1]) (by kernel_rfl) (by simp) ?_;refine AllReady.cons rfl (fun K hK=>?_) ?_
     ·(go_simp;refine HWG.out.mono ?_;rintro e w6 ⟨rfl,hb6⟩;exact HD.out w6 k fl _ (HB6.out.trans (hb6.mono (Nat.le_of_lt hpz))) (.inr (.inl ⟨t,q,HQ.out,HF.out,rfl,rfl,HFL.out.symm⟩)) rfl rfl rfl)
     exact AllReady.nil
    exact AllReady.nil
   exact AllReady.nil
  refine AllReady.cons rfl (fun K hK=>?_) ?_
  ·(go_simp;refine hK _ _ ?_;clear hK K)
   refine wpAny_ready (rs:=[0,3]) (by kernel_rfl) (by simp) ?_;refine AllReady.cons rfl (fun K hK=>?_) ?_
   ·(go_simp;refine hK _ _ ?_;clear hK K)
    refine wpAny_ready (rs:=[1,3]) (by kernel_rfl) (by simp) ?_;refine AllReady.cons rfl (fun K hK=>?_) ?_
    ·(go_simp;refine HWG.out.mono ?_;rintro e w6 ⟨rfl,hb6⟩;exact HD.out w6 k fl _ (HB6.out.trans (hb6.mono (Nat.le_of_lt hpz))) (.inr (.inl ⟨t,q,HQ.out,HF.out,rfl,rfl,HFL.out.symm⟩)) rfl rfl rfl)
    refine AllReady.cons rfl (fun K hK=>?_) ?_
    ·(go_simp;refine hK _ _ ?_;clear hK K)
     refine wpAny_ready (rs:=[1]) (by kernel_rfl) (by simp) ?_;refine AllReady.cons rfl (fun K hK=>?_) ?_
     ·(go_simp;refine HWG.out.mono ?_;rintro e w6 ⟨rfl,hb6⟩;exact HD.out w6 k fl _ (HB6.out.trans (hb6.mono (Nat.le_of_lt hpz))) (.inr (.inl ⟨t,q,HQ.out,HF.out,rfl,rfl,HFL.out.symm⟩)) rfl rfl rfl)
     exact AllReady.nil
    exact AllReady.nil
   refine AllReady.cons rfl (fun K hK=>?_) ?_
   ·(go_simp;refine hK _ _ ?_;clear hK K)
    refine wpAny_ready (rs:=[0]) (by kernel_rfl) (by simp) ?_;refine AllReady.cons rfl (fun K hK=>?_) ?_
    ·(go_simp;refine hK _ _ ?_;clear hK K)
     refine wpAny_ready (rs:=[1]) (by kernel_rfl) (by simp) ?_;refine AllReady.cons rfl (fun K hK=>?_) ?_
     ·(go_simp;refine HWG.out.mono ?_;rintro e w6 ⟨rfl,hb6⟩;exact HD.out w6 k fl _ (HB6.out.trans (hb6.mono (Nat.le_of_lt hpz))) (.inr (.inl ⟨t,q,HQ.out,HF.out,rfl,rfl,HFL.out.symm⟩)) rfl rfl rfl)
     exact AllReady.nil
    exact AllReady.nil
   exact AllReady.nil
  exact AllReady.nil
structure ExG (w Wr:World) (X p cap n:Nat) (a:Option Addr) (L:List TokE) (s:S8) (v:Value) (o:Option Ex):Prop where
  box:Bx Wr X 41 [v]
  res:Bx Wr w.heap.size 41 [.slice none 0 0]
  ne:w.heap.size<X
  st:PSt Wr p cap n a L s
  it:Itm exE (w.heap.size+1) Wr [v] o
  eff:Eff p w Wr
abbrev jdA (w:World) (o:Option Ex) (e:Ending) (w':World):Prop:=∃ v,e=.returned (.agg #[v])∧Itm exE w.heap.size w' [v] o
theorem qjK (p cap n:Nat) (a:Option Addr) (L:List TokE) (s:S8) (w:World) (h:PSt w p cap n a L s) :
    Calls Tryz.prog 75 #[.pointer (some ⟨p,0,none⟩)] w (Go8 p cap n a L (qaY L n s).1 (jdA w (qaY L n s).2) w):=by
  obtain⟨W0,hW0,hx0,hb0⟩:∃ W0,W0=w.alloc (.cells #[.slice none 0 0] 41)∧Bx W0 w.heap.size 41 [.slice none 0 0]∧Below w.heap.size w W0:=⟨_,rfl,Bx.new w 41 [.slice none 0 0],(Below.refl _ w).alloc (Nat.le_refl _) _⟩
  have hst:=h.below hb0
  have hlt:=h.lt
  have HE0:=hid (Eff.of_below hb0 h.lt)
  have HW0:=hid hW0
  have HST:=hid hst
  have HX0:=hid hx0
  obtain⟨c0,c1,c2⟩:=hst.cells
  have hne:w.heap.size≠p:=by omega
  unfold Go8
  obtain⟨R,hR⟩:∃ R,R=qaY L n s:=⟨_,rfl⟩
  rw[← hR]
  have hb:=h.ok
  have HRR:=hid (show ∀ o a f,rdX L s.k=(o,a,f)→R=match o with|some t=>(⟨a.toNat,s.bad,s.pl⟩,some t)|none=>(qcB L n s a f,none) from fun o a f h=>by
    rw[hR]
    unfold qaY
    rw[if_pos hb,h]
    cases o <;> rfl)
  clear hR
  have HRD:=hid (fun W (hW:PSt W p cap n a L s)=>(q40 a cap s.k L W hW.at_ hW.toks (fun x hx m=>Nat.lt_trans (hW.low x hx m) hW.lt) hW.len hW.real hW.tab (Nat.lt_trans hW.gp hW.lt)).mono (fun _ _ h=>q43 h))
  have HAT:=hid hst.at_
  have HLT:=hid hlt
  have HB:=hid hb
  generalize hN:L.length=N at c0 HRD
  have HNN:=hid hN
  clear h hst hW0 hx0 hb0 c1 hb hN
  go_enter Tryz.func75,Tryz.ntmps75
  go_upto_region 1 with (fail)
  rw[← HW0.out]
  have HR1:=hid (HRD.out W0.drew (HST.out.below (qa0 W0)))
  have HR2:=hid (HRD.out (W0.alloc (.cells #[.slice none 0 0] 41)).drew (HST.out.below ((Below.refl W0.heap.size W0).alloc (Nat.le_refl _) _).drew))
  unfold jbZ at HR1 HR2
  have hnp:W0.heap.size≠p:=by have:=HST.out.lt;omega
  go_region_held3 (fun W'=>W'.cell? ⟨p,0,none⟩=some (.slice a N cap)∧W'.cell? ⟨p,2,none⟩=some (.int .i64 (s.k:Nat)))
    (first|(refine⟨?_,?_⟩ <;> assumption)|(refine⟨qeL hnp ?_,qeL hnp ?_⟩ <;> assumption)|go_keep)
    (first
      | (go_at_call 109;(with_reducible refine HR1.out.mono ?_);rintro e w1 ⟨o,ad,m,c,at_,f,hr,rfl,hit,hb1⟩;have hb1:Below W0.heap.size W0 w1:=(qa0 W0).trans hb1;have HS1:=hid (HST.out.below hb1);have HR:=hid hr;have HIT:=hid (show Itm exE W0.heap.size w1 [.slice ad m c] o from hit);have HB1:=hid hb1;have q0:w1.cell? ⟨p,0,none⟩=some (.slice a N cap):=(by rw[← HNN.out];exact HS1.out.cells.1);have q1:=HS1.out.cells.2.2;clear hr hit hb1)
      | (go_at_call 109;(with_reducible refine HR2.out.mono ?_);rintro e w1 ⟨o,ad,m,c,at_,f,hr,rfl,hit,hb0'⟩;have hb1:Below W0.heap.size W0 w1:=(((Below.refl W0.heap.size W0).alloc (Nat.le_refl _) _).drew).trans (hb0'.mono (by simp));have HS1:=hid (HST.out.below hb1);have HR:=hid hr;have HIT:=hid (show Itm exE (W0.heap.size+1) w1 [.slice ad m c] o from hit.wide (by simp));have HB1:=hid hb1;have q0:w1.cell? ⟨p,0,none⟩=some (.slice a N cap):=(by rw[← HNN.out];exact HS1.out.cells.1);have q1:=HS1.out.cells.2.2;have HXB:=hid (show Bx w1 W0.heap.size 41 [.slice none 0 0] from (Bx.new W0 41 [.slice none 0 0]).keep (w':=w1) (((Below.refl (W0.heap.size+1) (W0.alloc (.cells #[.slice none 0 0] 41))).drew).trans (hb0'.mono (by simp))) (by omega));have y0:=HXB.out.c 0 rfl;have yf:=HXB.out.fz 0;clear hr hit hb0' hb1))
  all_goals
    rename_i hHeld
    clear hHeld q0 q1 c0 c2 HR1 HR2
    have hz0:W0.heap.size=w.heap.size+1:=by rw[HW0.out];simp
    have hb01:=HB1.out.size
    first
    | (have XF:ExG w (w1.setCell ⟨W0.heap.size,0,none⟩ (.slice ad m c)) W0.heap.size p cap n a L s (.slice ad m c) o :=
        ⟨HXB.out.set 0 _,(HX0.out.keep HB1.out (by omega)).other (by omega) _ _,by omega,HS1.out.same (fun b hb=>Below.heap_setCell _ _ _ _ (by show b≠W0.heap.size;have:=HST.out.lt;omega)),
          (HIT.out.same exK (fun b hb1 hb2=>Below.heap_setCell _ _ _ _ (by show b≠W0.heap.size;omega)) (by simp)).wide (by omega),(HE0.out.trans (Eff.of_below HB1.out HST.out.lt)).mine hlt (by omega) _ _⟩
       generalize w1.setCell ⟨W0.heap.size,0,none⟩ (.slice ad m c)=Wr at XF ⊢
       generalize W0.heap.size=X at XF ⊢)
    | (have XF:ExG w (w1.alloc (.cells #[.slice ad m c] 41)) w1.heap.size p cap n a L s (.slice ad m c) o:=by
        have hba:Below w1.heap.size w1 (w1.alloc (.cells #[.slice ad m c] 41)):=(Below.refl _ _).alloc (Nat.le_refl _) _
        exact⟨Bx.new w1 _ _,(HX0.out.keep HB1.out (by omega)).keep hba (by omega),by omega,HS1.out.below hba,(HIT.out.same exK (fun b _ hb2=>hba.block b hb2) hba.size).wide (by omega),(HE0.out.trans (Eff.of_below HB1.out HST.out.lt)).trans (Eff.of_below hba (by have:=HST.out.lt;omega))⟩
       generalize w1.alloc (.cells #[.slice ad m c] 41)=Wr at XF ⊢
       generalize w1.heap.size=X at XF ⊢)
    have hx:=q05 HR.out
    have HX:=hid XF
    have fr:=XF.res.fz 0
    have r0:=XF.res.c 0 rfl
    have x0:=XF.box.c 0 rfl
    clear XF hb01 hz0 HIT HB1 HS1 HRD
    obtain⟨q,rfl,hq⟩:=jaD HAT.out HR.out
    have c2:=HX.out.st.cells.2.2
    have f2:=HX.out.st.box.fz 2
    have HJ:=hid (HX.out.st.jump q hq)
    have HXX:=hid (HRR.out _ _ _ hx)
    have hXp:X≠p:=by have:=HX.out.ne;omega
    have HXJ:=hid (HX.out.box.other hXp 2 (.int .i64 (q:Nat)))
    have HRJ:=hid (HX.out.res.other hne 2 (.int .i64 (q:Nat)))
    have HEJ:=hid (HX.out.eff.set 2 (.int .i64 (q:Nat)))
    have HIJ:=hid (HX.out.it.same (w':=Wr.setCell ⟨p,2,none⟩ (.int .i64 (q:Nat))) exK (fun b hb1 hb2=>Below.heap_setCell _ _ _ _ (by show b≠p;omega)) (by simp))
    have HNX:=hid HX.out.ne
    clear HX hx hq x0 r0 fr
    cases o with
    | none =>
      have hfn:=q85 HR.out
      have df:(f==0)=false:=beq_eq_false_iff_ne.2 hfn
      have df':(f != 0)=true:=by rw[bne,df];rfl
      have HGV:Hid (∀ W,PSt W p cap n a L ⟨q,s.bad,s.pl⟩→Calls Tryz.prog 66 #[.pointer (some ⟨p,0,none⟩),.int .i64 f] W fun e w'=>e=qb0 R.1∧Below W.heap.size W w'):=hid (fun W hW=>(qe1 p cap n a L ⟨q,s.bad,s.pl⟩ f W hW).mono (fun e w' h=>⟨by
        rw[h.1,HXX.out]
        unfold qb0 qcB
        simp only
        rw[if_pos HB.out,if_pos HB.out],h.2⟩))
      have HRB:Hid (R.1.bad≠0):=hid (by rw[HXX.out];simp only;rw[qe2 HB.out];exact hfn)
      clear hfn
      go_upto_region 3 with (fail)
      generalize Wr.setCell ⟨p,2,none⟩ (.int .i64 (q:Nat))=W2 at HJ HXJ HRJ HEJ HIJ ⊢
      clear c2 f2
      go_wp2_with (go_at_call 66;(with_reducible refine(HGV.out W2 HJ.out).mono ?_);rintro e w2 ⟨rfl,hb⟩;have HE2:=hid (HEJ.out.trans (Eff.of_below hb HJ.out.lt));clear hb;unfold qb0)
      exact⟨rfl,.inr ⟨HRB.out,rfl⟩,HE2.out⟩
    | some t =>
      obtain⟨q',hq',rfl,_,_⟩:=q07 HAT.out HR.out
      have hqq:q=q':=by omega
      subst hqq
      go_upto_region 3 with (fail)
      generalize Wr.setCell ⟨p,2,none⟩ (.int .i64 (q:Nat))=W2 at HJ HXJ HRJ HEJ HIJ ⊢
      have x0:=HXJ.out.c 0 rfl
      have r0:=HRJ.out.c 0 rfl
      have fr:=HRJ.out.fz 0
      clear c2 f2 hq'
      go_wp2
      refine bodyPost_ret (q56 rfl rfl (HRJ.out.set 0 _)) rfl ⟨.inl ⟨⟨_,rfl,?_⟩,?_⟩,?_⟩
      · rw[HXX.out]
        exact(HIJ.out.same exK (fun b hb1 hb2=>Below.heap_setCell _ _ _ _ (by show b≠w.heap.size;omega)) (by simp)).wide (Nat.le_succ _)
      · rw[HXX.out]
        exact HJ.out.same (fun b hb=>Below.heap_setCell _ _ _ _ (by show b≠w.heap.size;omega))
      · exact HEJ.out.mine hlt (Nat.le_refl _) _ _
theorem jbE:(Tryz.prog.info? 41).map (fun i=>(i.zero,i.size,i.bytes))=some (some (.agg #[.slice none 0 0]),1,24):=by kernel_rfl
theorem q6V:(Tryz.prog.info? 3).map (fun i=>(i.zero,i.size,i.bytes))=some (some (.int .i64 0),1,8):=by kernel_rfl
theorem jbB:(Tryz.prog.info? 9).map (fun i=>(i.zero,i.size,i.bytes))=some (some (.string ⟨#[]⟩),1,16):=by kernel_rfl
theorem qvE (z:Int) (lo:Nat) (w:World):Itm qrM lo w [.int .i64 z] z:=⟨[],⟨rfl,rfl⟩,Good.nil _ _⟩
theorem qvC (z:ByteArray) (lo:Nat) (w:World):Itm qs7 lo w [.string z] z:=⟨[],⟨rfl,rfl⟩,Good.nil _ _⟩
structure LqS {α:Type} (E:Shp α) (T:TypeId) (sz lo:Nat) (w:World) (p cap n:Nat) (a:Option Addr) (L:List TokE) (wr:World) (v:Value) (s:S8) (l:List α) (cs:List Value):Prop where
 lst:Lst E T sz lo wr v l cs
 st:PSt wr p cap n a L s
 eff:Eff p w wr
 few:l.length+qeA L s≤L.length+2
 base:w.heap.size≤lo
 top:lo≤wr.heap.size
theorem qeB {α:Type} {E:Shp α} {T:TypeId} {sz lo:Nat} {w:World} {v:Value} {xs:List α} {c:List Value} (h:Lst E T sz lo w v xs c):∃ ad cp,v=.slice ad xs.length cp:=by
 rcases h.row.2 with ⟨rfl,hn⟩|⟨g,cap,cur,rfl,_⟩
 ·exact⟨none,0,by rw[hn]⟩
 ·exact⟨_,_,rfl⟩
section
variable {α:Type} {E:Shp α} {T:TypeId} {sz lo:Nat} {w:World} {p cap n:Nat} {a:Option Addr} {L:List TokE}
theorem LqS.step {wr w1:World} {v:Value} {s s1:S8} {l:List α} {cs:List Value} (ke:KE E sz) (h:LqS E T sz lo w p cap n a L wr v s l cs)
  (hp:p<w.heap.size) (hs:PSt w1 p cap n a L s1) (he:Eff p wr w1) (hr:qeA L s1≤qeA L s):LqS E T sz lo w p cap n a L w1 v s1 l cs :=
 ⟨h.lst.keep ke he.2 (Nat.lt_of_lt_of_le hp h.base),hs,h.eff.trans he,by have:=h.few;omega,h.base,Nat.le_trans h.top he.size⟩
theorem LqS.low {w1 w5 w6 w7:World} {v:Value} {s:S8} {l:List α} {cs:List Value} (h:LqS E T sz lo w p cap n a L w1 v s l cs) (he:Eff p w1 w5) (h6:Below w5.heap.size w5 w6) (hgrow:w6.grownBy w7 v.ownBlock):∀ b,b<lo→w7.heap[b]?=w5.heap[b]?:=fun b hb=>by
 have h1:=h.top;have h15:=he.size;have h56:=h6.size;exact(hgrow.block b (by omega) (fun e=>by have:=(h.lst.own b e.symm).1;omega)).trans (h6.block b (by omega))
theorem LqS.more {w1 w5 w6 w7:World} {v:Value} {s s5:S8} {l:List α} {cs c1:List Value} {x:α} {m g cp:Nat} (ke:KE E sz) (h:LqS E T sz lo w p cap n a L w1 v s l cs)
  (hp:p<w.heap.size) (hx:Itm E w1.heap.size w5 c1 x) (hs:PSt w5 p cap n a L s5) (he:Eff p w1 w5) (h6:Below w5.heap.size w5 w6) (hm:m=l.length)
  (hown:w7.ownsRow 0 T sz (.slice (some ⟨g,0,none⟩) (m+1) cp) (m+1) (cs++c1)) (hgrow:w6.grownBy w7 v.ownBlock) (hat:v.ownBlock=some g∨g=w6.heap.size) (hlt:g<w7.heap.size) (hf:l.length+1+qeA L s5≤L.length+2) :
  LqS E T sz lo w p cap n a L w7 (.slice (some ⟨g,0,none⟩) (m+1) cp) s5 (l++[x]) (cs++c1):=by
 have hsz:=h.top;have hbs:=h.base;have h15:=he.size;have h56:=h6.size;have h67:=hgrow.size;have hb57:=h.low he h6 hgrow;have h2:=h.eff.trans he;refine⟨h.lst.snoc ke he.2 (by omega) hsz hx h6 hm hown hgrow hat hlt,hs.same (fun b hb=>hb57 b (by omega)),?_,?_,hbs,by omega⟩
 ·exact⟨h2.1.trans ⟨hgrow.os.trans h6.os,hgrow.tape.trans h6.tape,hgrow.output.trans h6.output,by omega,fun k hk=>hb57 k (by omega)⟩,by omega,fun k hk hkp=>(hb57 k (by omega)).trans (h2.2.2 k hk hkp)⟩
 ·rw[List.length_append];exact hf
theorem LqS.boxed {wr:World} {v:Value} {s:S8} {l:List α} {cs:List Value} (ke:KE E sz) (h:LqS E T sz lo w p cap n a L wr v s l cs) (hp:p<w.heap.size) {X:Nat} (h1:w.heap.size≤X) (h2:X<lo) (j:Nat) (u:Value) :
  LqS E T sz lo w p cap n a L (wr.setCell ⟨X,j,none⟩ u) v s l cs:=by
 obtain⟨F,hl,hg⟩:=h.lst;refine⟨⟨F,hl.keep ke (fun b hb=>Below.heap_setCell _ _ _ _ (by have:=hg.lies b hb;show b≠X;omega)),hg.wide (Nat.le_refl _) (by simp)⟩,h.st.same (fun b hb=>Below.heap_setCell _ _ _ _ (by show b≠X;omega)),h.eff.mine hp h1 _ _,h.few,h.base,by have:=h.top;simpa using this⟩
theorem Lst.lit {w:World} {x:α} {c:List Value} (ke:KE E sz) (h:Itm E lo w c x) (hl:lo≤w.heap.size) (hown:(w.alloc (.cells c.toArray T)).ownsRow 0 T sz (.slice (some ⟨w.heap.size,0,none⟩) 1 1) 1 c) :
  Lst E T sz lo (w.alloc (.cells c.toArray T)) (.slice (some ⟨w.heap.size,0,none⟩) 1 1) [x] c:=by
 obtain⟨F,h1,h2⟩:=h;have hb:Below w.heap.size w (w.alloc (.cells c.toArray T)):=(Below.refl _ w).alloc (Nat.le_refl _) _;refine⟨[w.heap.size]++F,⟨hown,F,rfl,F,[],c,[],by simp,by simp,ke.keep h1 (fun b hb1=>hb.block b (h2.lies b hb1).2),rfl,rfl⟩,?_,?_⟩
 ·refine List.nodup_append.2 ⟨by simp,h2.uniq,fun a ha b hb e=>?_⟩;simp at ha;subst ha e;have:=(h2.lies _ hb).2;omega
 ·intro b hb1;rcases List.mem_append.1 hb1 with hb1|hb1
  ·simp at hb1;subst hb1;exact⟨hl,by simp⟩
  ·have h3:=h2.lies b hb1;have h4:=hb.size;omega
end
def qj9 {α:Type} (E:Shp α) (T:TypeId) (sz p cap n:Nat) (a:Option Addr) (L:List TokE) (R:S8 × List α) (w:World) (e:Ending) (w':World):Prop :=
 Go8 p cap n a L R.1 (fun e w'=>∃ v cs,e=.returned v∧Lst E T sz w.heap.size w' v R.2 cs) w e w'
section
variable {α:Type} {L:List TokE} {n:Nat} {s:S8} {item:S8→S8 × α}
theorem qm5 (hi:∀ s,s.bad≠0→(item s).1=s) (h:(qa7 L n s ⟨#[40]⟩).bad≠0):(qcQ L n item s).1=qa7 L n s ⟨#[40]⟩:=by
 unfold qcQ;rw[qjV h,if_neg (by decide),hi _ h,qeY h]
theorem qm6 (h:isB L (qa7 L n s ⟨#[40]⟩) ⟨#[41]⟩=true):qcQ L n item s=(qa6 (qa7 L n s ⟨#[40]⟩),[]):=by
 unfold qcQ;rw[if_pos h]
theorem qm4 (h:isB L (qa7 L n s ⟨#[40]⟩) ⟨#[41]⟩=false):qcQ L n item s=qdE L n item (qaX L) (item (qa7 L n s ⟨#[40]⟩)).1 [(item (qa7 L n s ⟨#[40]⟩)).2]:=by
 unfold qcQ;rw[h,if_neg (by decide)]
end
theorem qxF (p cap n:Nat) (a:Option Addr) (L:List TokE) (s:S8) (w:World) (h:PSt w p cap n a L s) :
  Calls Tryz.prog 105 #[.pointer (some ⟨p,0,none⟩),.func (.func 106) #[.pointer (some ⟨p,0,none⟩)] #[]] w (qj9 qrM 3 1 p cap n a L (qcQ L n (qdK L n) s) w):=by
 obtain⟨i0,hi,hz0,hz1,hz2⟩:=qaN q6V;have hlt:=h.lt;have HW:=hid (qaW p cap n a L s ⟨#[40]⟩ w h);have HWC:=hid (fun (s:S8) W (hW:PSt W p cap n a L s)=>qaW p cap n a L s ⟨#[41]⟩ W hW);have HIT:=hid (fun (s:S8) W (hW:PSt W p cap n a L s)=>qsU p cap n a L s W hW);have HO:=hid (qm5 (L:=L) (n:=n) (s:=s) (item:=qdK L n) (fun _=>qpA));have HN:=hid (qm6 (L:=L) (n:=n) (s:=s) (item:=qdK L n));have HM:=hid (qm4 (L:=L) (n:=n) (s:=s) (item:=qdK L n));unfold qj9;obtain⟨R,hR⟩:∃ R,R=qcQ L n (qdK L n) s:=⟨_,rfl⟩
 rw[← hR] at HO HN HM ⊢;unfold Go8;have HLE:=hid (qc9 (L:=L) (n:=n) (s:=s) ⟨#[40]⟩ h.at_);clear h hR;generalize qa7 L n s ⟨#[40]⟩=s0 at *
 cases hi0:isB L s0 ⟨#[41]⟩ with
 | true =>
  have HI:=hid hi0;have HQ:=hid (HN.out hi0);clear hi0 HN HM HO;go_enter Tryz.func105,Tryz.ntmps105;go_wp2_with (first
   | (go_at_call 69;(with_reducible refine(HW.out).mono ?_);rintro e w1 ⟨hg,he⟩;have HE1:=hid he;clear he;replace hg:=Or.symm hg;rcases hg with ⟨hg,rfl⟩|⟨rfl,hg⟩ <;> (have HG1:=hid hg;clear hg;try unfold qb0))
   | (go_at_call 67;(with_reducible refine(qbS HG1.out HI.out).mono ?_);rintro e w2 ⟨rfl,hs⟩;have HS2:=hid hs;clear hs))
  ·exact absurd (qi4 HI.out).1 HG1.out
  ·go_ret;rw[HQ.out];exact⟨.inl ⟨⟨_,[],rfl,Lst.nil _ _ _ _ _⟩,HS2.out.1⟩,HE1.out.trans HS2.out.2⟩
 | false =>
  have HI:=hid hi0;have HQ:=hid (HM.out hi0);have hkl:=qtA (L:=L) (n:=n) (s:=s0) HLE.out.1;have HSTEP:=hid hkl.1;have HIC:=hid (fun W (hW:PSt W p cap n a L s0)=>HIT.out s0 W hW);clear hi0 HN HM hkl;generalize qdK L n s0=KS at HIC HQ HSTEP;have HF0:=hid (qgT L KS.1);go_enter Tryz.func105,Tryz.ntmps105;go_upto_region 5 with (first
   | (go_at_call 69;(with_reducible refine(HW.out).mono ?_);rintro e w1 ⟨hg,he⟩;have HE1:=hid he;clear he;replace hg:=Or.symm hg;rcases hg with ⟨hg,rfl⟩|⟨rfl,hg⟩ <;> (have HG1:=hid hg;clear hg;try unfold qb0))
   | (go_at_call 67;(with_reducible refine(qbD HG1.out HI.out).mono ?_);rintro e w2 ⟨rfl,hs⟩;have HS2:=hid hs;clear hs)
   | (go_at_call 106;(with_reducible refine(HIC.out _ HS2.out.1).mono ?_);rintro e w3 ⟨hg,he⟩;have HE3:=hid he;clear he;replace hg:=Or.symm hg;rcases hg with ⟨hg,rfl⟩|⟨rfl,hg⟩ <;> (have HG3:=hid hg;clear hg;try unfold qb0)))
  ·rw[HO.out HG1.out];exact⟨rfl,.inr ⟨HG1.out,rfl⟩,HE1.out⟩
  ·have h0:R.1=KS.1:=by rw[HQ.out,qeY HG3.out]
   rw[h0];exact⟨rfl,.inr ⟨HG3.out,rfl⟩,(HE1.out.trans HS2.out.2).trans HE3.out⟩
  have he3:=(HE1.out.trans HS2.out.2).trans HE3.out;have hb4:Below w3.heap.size w3 (w3.alloc (.cells #[.int .i64 KS.2] 3)):=(Below.refl _ _).alloc (Nat.le_refl _) _;have HL4:Hid (LqS qrM 3 1 w.heap.size w p cap n a L (w3.alloc (.cells #[.int .i64 KS.2] 3)) (.slice (some ⟨w3.heap.size,0,none⟩) 1 1) KS.1 [KS.2] [.int .i64 KS.2]):=hid ⟨Lst.lit (c:=[.int .i64 KS.2]) qkB ((qvE KS.2 _ _).wide (HE1.out.trans HS2.out.2).size) he3.size (World.ownsRow_lit (base:=0) (size:=1) w3 #[.int .i64 KS.2] 1 (Nat.zero_le _) (by unfold maxLen;omega) rfl),HG3.out.below hb4,he3.trans (Eff.of_below hb4 HG3.out.lt),by have h1:=HF0.out;unfold qaX at h1;show 1+_≤_;omega,Nat.le_refl _,by have:=he3.size;have:=hb4.size;omega⟩;clear he3 hb4 HS2 HE1 HE3 HG1 HG3 HIC;generalize w3.alloc (.cells #[.int .i64 KS.2] 3)=w4 at HL4 ⊢;generalize w3.heap.size=g0 at HL4 ⊢
  go_loopg [5] (qaX L) (fun gk v wr=>∃ (s1:S8) (l:List Int) (cs:List Value) (ad2:Option Addr) (cp2:Nat),v=.slice ad2 l.length cp2∧Hid (qeA L s1<gk)∧Hid (R=qdE L n (qdK L n) gk s1 l)∧Hid (LqS qrM 3 1 w.heap.size w p cap n a L wr (.slice ad2 l.length cp2) s1 l cs))
  case atStart=>exact⟨KS.1,[KS.2],[.int .i64 KS.2],some ⟨g0,0,none⟩,1,rfl,HF0,HQ,HL4⟩
  case round =>
   obtain⟨s1,l,cs,ad2,cp2,rfl,HG,HQ4,HL⟩:=hrel;clear HL4 HF0 HQ;obtain⟨f,rfl⟩:∃ f,gk=f+1:=⟨gk-1,by have:=HG.out;omega⟩
   cases hi1:isB L s1 ⟨#[44]⟩ with
   | true =>
    have HI1:=hid hi1;have HQ1:Hid (R=qdE L n (qdK L n) f (qdK L n (qa6 s1)).1 (l++[(qdK L n (qa6 s1)).2])):=hid (by rw[HQ4.out,qjR HL.out.st.ok hi1]);have hn:=qfC hi1 HL.out.st.at_;have hk:=qtA (L:=L) (n:=n) (s:=qa6 s1) hn.1;have HSR:Hid (qeA L (qdK L n (qa6 s1)).1+1≤qeA L s1):=hid (by have h1:=hn.2;have h2:=hk.2;omega);have HSN:=hid (Nat.le_of_lt hn.2);have HIC:=hid (fun W (hW:PSt W p cap n a L (qa6 s1))=>HIT.out (qa6 s1) W hW);clear hi1 HQ4 hn hk;generalize qdK L n (qa6 s1)=KS at HIC HQ1 HSR;go_upto_region 7 with (first
     | (go_at_call 67;(with_reducible refine(qbS HL.out.st HI1.out).mono ?_);rintro e w4 ⟨rfl,hs⟩;have HS4:=hid hs;clear hs)
     | (go_at_call 106;(with_reducible refine(HIC.out _ HS4.out.1).mono ?_);rintro e w5 ⟨hg,he⟩;have HE5:=hid he;clear he;replace hg:=Or.symm hg;rcases hg with ⟨hg,rfl⟩|⟨rfl,hg⟩ <;> (have HG5:=hid hg;clear hg;try unfold qb0))
     | (at_builtin;refine wpList_append_lies _ rfl (.tmp 15) (.tmp 18) 53 rfl 0 3 i0 (.int .i64 0) 1 8 Tryz.underlying53 hi hz0 hz1 hz2 rfl (by decide) (.slice ad2 l.length cp2) l.length cs rfl ((LqS.step qkB HL.out hlt HG5.out (HS4.out.2.trans HE5.out) (by have:=HSR.out;omega)).lst.row.alloc (.cells #[.int .i64 KS.2] 3)) ⟨w5.heap.size,0,none⟩ 1 1 [.int .i64 KS.2] rfl rfl (qp0 w5 (.int .i64 KS.2) 3) (fun u hu=>by simp at hu;subst hu;rfl) (by decide) (by have:=HL.out.few;have:=HL.out.st.len;unfold maxLen;omega) (by have:=HL.out.few;have:=HL.out.st.len;omega) (Nat.zero_le _) _ rfl ?_;intro g cp w7 hown hgrow hat hlt7;have HL7:=hid (LqS.more qkB (LqS.step qkB HL.out hlt HS4.out.1 HS4.out.2 HSN.out) hlt ((qvE KS.2 _ _)) HG5.out HE5.out ((Below.refl _ w5).alloc (Nat.le_refl _) (.cells #[.int .i64 KS.2] 3)) rfl hown hgrow hat hlt7 (by have h1:=HL.out.few;have h2:=HSR.out;omega));clear hown hgrow hat hlt7))
    ·have h0:R.1=KS.1:=by rw[HQ1.out,qeY HG5.out]
     rw[h0];exact⟨rfl,.inr ⟨HG5.out,rfl⟩,HL.out.eff.trans (HS4.out.2.trans HE5.out)⟩
    go_roundg f
    case measure=>exact Nat.lt_succ_self f
    case rel=>exact⟨_,l++[KS.2],_,some ⟨g,0,none⟩,cp,by simp,hid (by have:=HSR.out;have:=HG.out;omega),HQ1,by rw[show (l++[KS.2]).length=l.length+1 by simp];exact HL7⟩
   | false =>
    have HI1:=hid hi1;have hq:=qp6 (L:=L) (n:=n) (s:=s1) (item:=qdK L n) (fun _=>qpA) (f:=f) (l:=l) HL.out.st.ok hi1;rw[← HQ4.out] at hq;have HQ1:=hid hq;have HWL:=hid (qc9 (L:=L) (n:=n) (s:=s1) ⟨#[41]⟩ HL.out.st.at_);have HWE:=hid (HWC.out s1);clear hi1 HQ4 hq HIT;generalize qa7 L n s1 ⟨#[41]⟩=s9 at HQ1 HWL HWE;go_wp2_with (first
     | (go_at_call 67;(with_reducible refine(qbD HL.out.st HI1.out).mono ?_);rintro e w4 ⟨rfl,hs⟩;have HS4:=hid hs;clear hs)
     | (go_at_call 69;(with_reducible refine(HWE.out w4 HS4.out.1).mono ?_);rintro e w1 ⟨hg,he⟩;have HE1:=hid he;clear he;replace hg:=Or.symm hg;rcases hg with ⟨hg,rfl⟩|⟨rfl,hg⟩ <;> (have HG1:=hid hg;clear hg;try unfold qb0)))
    ·rw[HQ1.out.1];exact⟨rfl,.inr ⟨HG1.out,rfl⟩,HL.out.eff.trans (HS4.out.2.trans HE1.out)⟩
    ·go_ret;have h4:=LqS.step qkB HL.out hlt HG1.out (HS4.out.2.trans HE1.out) HWL.out.2;rw[HQ1.out.1,HQ1.out.2 HG1.out.ok];exact⟨.inl ⟨⟨_,_,rfl,h4.lst⟩,HG1.out⟩,h4.eff⟩
theorem qxE (p cap n:Nat) (a:Option Addr) (L:List TokE) (s:S8) (w:World) (h:PSt w p cap n a L s) :
  Calls Tryz.prog 107 #[.pointer (some ⟨p,0,none⟩),.func (.func 108) #[.pointer (some ⟨p,0,none⟩)] #[]] w (qj9 qs7 9 1 p cap n a L (qcQ L n (qhQ L n) s) w):=by
 obtain⟨i0,hi,hz0,hz1,hz2⟩:=qaN jbB;have hlt:=h.lt;have HW:=hid (qaW p cap n a L s ⟨#[40]⟩ w h);have HWC:=hid (fun (s:S8) W (hW:PSt W p cap n a L s)=>qaW p cap n a L s ⟨#[41]⟩ W hW);have HIT:=hid (fun (s:S8) W (hW:PSt W p cap n a L s)=>q0F p cap n a L s W hW);have HO:=hid (qm5 (L:=L) (n:=n) (s:=s) (item:=qhQ L n) (fun _=>qoA));have HN:=hid (qm6 (L:=L) (n:=n) (s:=s) (item:=qhQ L n));have HM:=hid (qm4 (L:=L) (n:=n) (s:=s) (item:=qhQ L n));unfold qj9;obtain⟨R,hR⟩:∃ R,R=qcQ L n (qhQ L n) s:=⟨_,rfl⟩
 rw[← hR] at HO HN HM ⊢;unfold Go8;have HLE:=hid (qc9 (L:=L) (n:=n) (s:=s) ⟨#[40]⟩ h.at_);clear h hR;generalize qa7 L n s ⟨#[40]⟩=s0 at *
 cases hi0:isB L s0 ⟨#[41]⟩ with
 | true =>
  have HI:=hid hi0;have HQ:=hid (HN.out hi0);clear hi0 HN HM HO;go_enter Tryz.func107,Tryz.ntmps107;go_wp2_with (first
   | (go_at_call 69;(with_reducible refine(HW.out).mono ?_);rintro e w1 ⟨hg,he⟩;have HE1:=hid he;clear he;replace hg:=Or.symm hg;rcases hg with ⟨hg,rfl⟩|⟨rfl,hg⟩ <;> (have HG1:=hid hg;clear hg;try unfold qb0))
   | (go_at_call 67;(with_reducible refine(qbS HG1.out HI.out).mono ?_);rintro e w2 ⟨rfl,hs⟩;have HS2:=hid hs;clear hs))
  ·exact absurd (qi4 HI.out).1 HG1.out
  ·go_ret;rw[HQ.out];exact⟨.inl ⟨⟨_,[],rfl,Lst.nil _ _ _ _ _⟩,HS2.out.1⟩,HE1.out.trans HS2.out.2⟩
 | false =>
  have HI:=hid hi0;have HQ:=hid (HM.out hi0);have hkl:=qyW (L:=L) (n:=n) (s:=s0) HLE.out.1;have HSTEP:=hid hkl.1;have HIC:=hid (fun W (hW:PSt W p cap n a L s0)=>HIT.out s0 W hW);clear hi0 HN HM hkl;generalize qhQ L n s0=KS at HIC HQ HSTEP;have HF0:=hid (qgT L KS.1);go_enter Tryz.func107,Tryz.ntmps107;go_upto_region 5 with (first
   | (go_at_call 69;(with_reducible refine(HW.out).mono ?_);rintro e w1 ⟨hg,he⟩;have HE1:=hid he;clear he;replace hg:=Or.symm hg;rcases hg with ⟨hg,rfl⟩|⟨rfl,hg⟩ <;> (have HG1:=hid hg;clear hg;try unfold qb0))
   | (go_at_call 67;(with_reducible refine(qbD HG1.out HI.out).mono ?_);rintro e w2 ⟨rfl,hs⟩;have HS2:=hid hs;clear hs)
   | (go_at_call 108;(with_reducible refine(HIC.out _ HS2.out.1).mono ?_);rintro e w3 ⟨hg,he⟩;have HE3:=hid he;clear he;replace hg:=Or.symm hg;rcases hg with ⟨hg,rfl⟩|⟨rfl,hg⟩ <;> (have HG3:=hid hg;clear hg;try unfold qb0)))
  ·rw[HO.out HG1.out];exact⟨rfl,.inr ⟨HG1.out,rfl⟩,HE1.out⟩
  ·have h0:R.1=KS.1:=by rw[HQ.out,qeY HG3.out]
   rw[h0];exact⟨rfl,.inr ⟨HG3.out,rfl⟩,(HE1.out.trans HS2.out.2).trans HE3.out⟩
  have he3:=(HE1.out.trans HS2.out.2).trans HE3.out;have hb4:Below w3.heap.size w3 (w3.alloc (.cells #[.string KS.2] 9)):=(Below.refl _ _).alloc (Nat.le_refl _) _;have HL4:Hid (LqS qs7 9 1 w.heap.size w p cap n a L (w3.alloc (.cells #[.string KS.2] 9)) (.slice (some ⟨w3.heap.size,0,none⟩) 1 1) KS.1 [KS.2] [.string KS.2]):=hid ⟨Lst.lit (c:=[.string KS.2]) qlH ((qvC KS.2 _ _).wide (HE1.out.trans HS2.out.2).size) he3.size (World.ownsRow_lit (base:=0) (size:=1) w3 #[.string KS.2] 1 (Nat.zero_le _) (by unfold maxLen;omega) rfl),HG3.out.below hb4,he3.trans (Eff.of_below hb4 HG3.out.lt),by have h1:=HF0.out;unfold qaX at h1;show 1+_≤_;omega,Nat.le_refl _,by have:=he3.size;have:=hb4.size;omega⟩;clear he3 hb4 HS2 HE1 HE3 HG1 HG3 HIC;generalize w3.alloc (.cells #[.string KS.2] 9)=w4 at HL4 ⊢;generalize w3.heap.size=g0 at HL4 ⊢
  go_loopg [5] (qaX L) (fun gk v wr=>∃ (s1:S8) (l:List ByteArray) (cs:List Value) (ad2:Option Addr) (cp2:Nat),v=.slice ad2 l.length cp2∧Hid (qeA L s1<gk)∧Hid (R=qdE L n (qhQ L n) gk s1 l)∧Hid (LqS qs7 9 1 w.heap.size w p cap n a L wr (.slice ad2 l.length cp2) s1 l cs))
  case atStart=>exact⟨KS.1,[KS.2],[.string KS.2],some ⟨g0,0,none⟩,1,rfl,HF0,HQ,HL4⟩
  case round =>
   obtain⟨s1,l,cs,ad2,cp2,rfl,HG,HQ4,HL⟩:=hrel;clear HL4 HF0 HQ;obtain⟨f,rfl⟩:∃ f,gk=f+1:=⟨gk-1,by have:=HG.out;omega⟩
   cases hi1:isB L s1 ⟨#[44]⟩ with
   | true =>
    have HI1:=hid hi1;have HQ1:Hid (R=qdE L n (qhQ L n) f (qhQ L n (qa6 s1)).1 (l++[(qhQ L n (qa6 s1)).2])):=hid (by rw[HQ4.out,qjR HL.out.st.ok hi1]);have hn:=qfC hi1 HL.out.st.at_;have hk:=qyW (L:=L) (n:=n) (s:=qa6 s1) hn.1;have HSR:Hid (qeA L (qhQ L n (qa6 s1)).1+1≤qeA L s1):=hid (by have h1:=hn.2;have h2:=hk.2;omega);have HSN:=hid (Nat.le_of_lt hn.2);have HIC:=hid (fun W (hW:PSt W p cap n a L (qa6 s1))=>HIT.out (qa6 s1) W hW);clear hi1 HQ4 hn hk;generalize qhQ L n (qa6 s1)=KS at HIC HQ1 HSR;go_upto_region 7 with (first
     | (go_at_call 67;(with_reducible refine(qbS HL.out.st HI1.out).mono ?_);rintro e w4 ⟨rfl,hs⟩;have HS4:=hid hs;clear hs)
     | (go_at_call 108;(with_reducible refine(HIC.out _ HS4.out.1).mono ?_);rintro e w5 ⟨hg,he⟩;have HE5:=hid he;clear he;replace hg:=Or.symm hg;rcases hg with ⟨hg,rfl⟩|⟨rfl,hg⟩ <;> (have HG5:=hid hg;clear hg;try unfold qb0))
     | (at_builtin;refine wpList_append_lies _ rfl (.tmp 15) (.tmp 18) 93 rfl 0 9 i0 (.string ⟨#[]⟩) 1 16 Tryz.underlying93 hi hz0 hz1 hz2 rfl (by decide) (.slice ad2 l.length cp2) l.length cs rfl ((LqS.step qlH HL.out hlt HG5.out (HS4.out.2.trans HE5.out) (by have:=HSR.out;omega)).lst.row.alloc (.cells #[.string KS.2] 9)) ⟨w5.heap.size,0,none⟩ 1 1 [.string KS.2] rfl rfl (qp0 w5 (.string KS.2) 9) (fun u hu=>by simp at hu;subst hu;rfl) (by decide) (by have:=HL.out.few;have:=HL.out.st.len;unfold maxLen;omega) (by have:=HL.out.few;have:=HL.out.st.len;omega) (Nat.zero_le _) _ rfl ?_;intro g cp w7 hown hgrow hat hlt7;have HL7:=hid (LqS.more qlH (LqS.step qlH HL.out hlt HS4.out.1 HS4.out.2 HSN.out) hlt ((qvC KS.2 _ _)) HG5.out HE5.out ((Below.refl _ w5).alloc (Nat.le_refl _) (.cells #[.string KS.2] 9)) rfl hown hgrow hat hlt7 (by have h1:=HL.out.few;have h2:=HSR.out;omega));clear hown hgrow hat hlt7))
    ·have h0:R.1=KS.1:=by rw[HQ1.out,qeY HG5.out]
     rw[h0];exact⟨rfl,.inr ⟨HG5.out,rfl⟩,HL.out.eff.trans (HS4.out.2.trans HE5.out)⟩
    go_roundg f
    case measure=>exact Nat.lt_succ_self f
    case rel=>exact⟨_,l++[KS.2],_,some ⟨g,0,none⟩,cp,by simp,hid (by have:=HSR.out;have:=HG.out;omega),HQ1,by rw[show (l++[KS.2]).length=l.length+1 by simp];exact HL7⟩
   | false =>
    have HI1:=hid hi1;have hq:=qp6 (L:=L) (n:=n) (s:=s1) (item:=qhQ L n) (fun _=>qoA) (f:=f) (l:=l) HL.out.st.ok hi1;rw[← HQ4.out] at hq;have HQ1:=hid hq;have HWL:=hid (qc9 (L:=L) (n:=n) (s:=s1) ⟨#[41]⟩ HL.out.st.at_);have HWE:=hid (HWC.out s1);clear hi1 HQ4 hq HIT;generalize qa7 L n s1 ⟨#[41]⟩=s9 at HQ1 HWL HWE;go_wp2_with (first
     | (go_at_call 67;(with_reducible refine(qbD HL.out.st HI1.out).mono ?_);rintro e w4 ⟨rfl,hs⟩;have HS4:=hid hs;clear hs)
     | (go_at_call 69;(with_reducible refine(HWE.out w4 HS4.out.1).mono ?_);rintro e w1 ⟨hg,he⟩;have HE1:=hid he;clear he;replace hg:=Or.symm hg;rcases hg with ⟨hg,rfl⟩|⟨rfl,hg⟩ <;> (have HG1:=hid hg;clear hg;try unfold qb0)))
    ·rw[HQ1.out.1];exact⟨rfl,.inr ⟨HG1.out,rfl⟩,HL.out.eff.trans (HS4.out.2.trans HE1.out)⟩
    ·go_ret;have h4:=LqS.step qlH HL.out hlt HG1.out (HS4.out.2.trans HE1.out) HWL.out.2;rw[HQ1.out.1,HQ1.out.2 HG1.out.ok];exact⟨.inl ⟨⟨_,_,rfl,h4.lst⟩,HG1.out⟩,h4.eff⟩
theorem qnE (p cap n:Nat) (a:Option Addr) (L:List TokE) (s:S8) (w:World) (h:PSt w p cap n a L s) :
  Calls Tryz.prog 112 #[.pointer (some ⟨p,0,none⟩),.func (.func 75) #[.pointer (some ⟨p,0,none⟩)] #[]] w (qj9 exE 41 1 p cap n a L (qcQ L n (qaY L n) s) w):=by
 obtain⟨i0,hi,hz0,hz1,hz2⟩:=qaN jbE;have hlt:=h.lt;have HW:=hid (qaW p cap n a L s ⟨#[40]⟩ w h);have HWC:=hid (fun (s:S8) W (hW:PSt W p cap n a L s)=>qaW p cap n a L s ⟨#[41]⟩ W hW);have HIT:=hid (fun (s:S8) W (hW:PSt W p cap n a L s)=>qjK p cap n a L s W hW);have HO:=hid (qm5 (L:=L) (n:=n) (s:=s) (item:=qaY L n) (fun _=>qpN));have HN:=hid (qm6 (L:=L) (n:=n) (s:=s) (item:=qaY L n));have HM:=hid (qm4 (L:=L) (n:=n) (s:=s) (item:=qaY L n));unfold qj9;obtain⟨R,hR⟩:∃ R,R=qcQ L n (qaY L n) s:=⟨_,rfl⟩
 rw[← hR] at HO HN HM ⊢;unfold Go8;have HLE:=hid (qc9 (L:=L) (n:=n) (s:=s) ⟨#[40]⟩ h.at_);clear h hR;generalize qa7 L n s ⟨#[40]⟩=s0 at *
 cases hi0:isB L s0 ⟨#[41]⟩ with
 | true =>
  have HI:=hid hi0;have HQ:=hid (HN.out hi0);clear hi0 HN HM HO;go_enter Tryz.func112,Tryz.ntmps112;go_wp2_with (first
   | (go_at_call 69;(with_reducible refine(HW.out).mono ?_);rintro e w1 ⟨hg,he⟩;have HE1:=hid he;clear he;replace hg:=Or.symm hg;rcases hg with ⟨hg,rfl⟩|⟨rfl,hg⟩ <;> (have HG1:=hid hg;clear hg;try unfold qb0))
   | (go_at_call 67;(with_reducible refine(qbS HG1.out HI.out).mono ?_);rintro e w2 ⟨rfl,hs⟩;have HS2:=hid hs;clear hs))
  ·exact absurd (qi4 HI.out).1 HG1.out
  ·go_ret;rw[HQ.out];exact⟨.inl ⟨⟨_,[],rfl,Lst.nil _ _ _ _ _⟩,HS2.out.1⟩,HE1.out.trans HS2.out.2⟩
 | false =>
  have HI:=hid hi0;have HQ:=hid (HM.out hi0);have hkl:=qjX (L:=L) (n:=n) (s:=s0) HLE.out.1;have HSTEP:=hid hkl.1;have HIC:=hid (fun W (hW:PSt W p cap n a L s0)=>HIT.out s0 W hW);clear hi0 HN HM hkl;generalize qaY L n s0=KS at HIC HQ HSTEP;have HF0:=hid (qgT L KS.1);go_enter Tryz.func112,Tryz.ntmps112;go_upto_region 5 with (first
   | (go_at_call 69;(with_reducible refine(HW.out).mono ?_);rintro e w1 ⟨hg,he⟩;have HE1:=hid he;clear he;replace hg:=Or.symm hg;rcases hg with ⟨hg,rfl⟩|⟨rfl,hg⟩ <;> (have HG1:=hid hg;clear hg;try unfold qb0))
   | (go_at_call 67;(with_reducible refine(qbD HG1.out HI.out).mono ?_);rintro e w2 ⟨rfl,hs⟩;have HS2:=hid hs;clear hs)
   | (go_at_call 75;(with_reducible refine(HIC.out _ HS2.out.1).mono ?_);rintro e w3 ⟨hg,he⟩;have HE3:=hid he;clear he;replace hg:=Or.symm hg;rcases hg with ⟨hg,rfl⟩|⟨⟨v,rfl,hit⟩,hg⟩ <;> first|(obtain⟨ad,m,c,rfl⟩:=qf0 hit;have HIT3:=hid hit;have HG3:=hid hg;clear hg hit)|(have HG3:=hid hg;clear hg;try unfold qb0)))
  ·rw[HO.out HG1.out];exact⟨rfl,.inr ⟨HG1.out,rfl⟩,HE1.out⟩
  ·have h0:R.1=KS.1:=by rw[HQ.out,qeY HG3.out]
   rw[h0];exact⟨rfl,.inr ⟨HG3.out,rfl⟩,(HE1.out.trans HS2.out.2).trans HE3.out⟩
  have he3:=(HE1.out.trans HS2.out.2).trans HE3.out;have hb4:Below w3.heap.size w3 (w3.alloc (.cells #[.slice ad m c] 41)):=(Below.refl _ _).alloc (Nat.le_refl _) _;have HL4:Hid (LqS exE 41 1 w.heap.size w p cap n a L (w3.alloc (.cells #[.slice ad m c] 41)) (.slice (some ⟨w3.heap.size,0,none⟩) 1 1) KS.1 [KS.2] [.slice ad m c]):=hid ⟨Lst.lit (c:=[.slice ad m c]) exK (HIT3.out.wide (HE1.out.trans HS2.out.2).size) he3.size (World.ownsRow_lit (base:=0) (size:=1) w3 #[.slice ad m c] 1 (Nat.zero_le _) (by unfold maxLen;omega) rfl),HG3.out.below hb4,he3.trans (Eff.of_below hb4 HG3.out.lt),by have h1:=HF0.out;unfold qaX at h1;show 1+_≤_;omega,Nat.le_refl _,by have:=he3.size;have:=hb4.size;omega⟩;clear he3 hb4 HS2 HE1 HE3 HG1 HG3 HIC HIT3;generalize w3.alloc (.cells #[.slice ad m c] 41)=w4 at HL4 ⊢;generalize w3.heap.size=g0 at HL4 ⊢
  go_loopg [5] (qaX L) (fun gk v wr=>∃ (s1:S8) (l:List (Option Ex)) (cs:List Value) (ad2:Option Addr) (cp2:Nat),v=.slice ad2 l.length cp2∧Hid (qeA L s1<gk)∧Hid (R=qdE L n (qaY L n) gk s1 l)∧Hid (LqS exE 41 1 w.heap.size w p cap n a L wr (.slice ad2 l.length cp2) s1 l cs))
  case atStart=>exact⟨KS.1,[KS.2],[.slice ad m c],some ⟨g0,0,none⟩,1,rfl,HF0,HQ,HL4⟩
  case round =>
   obtain⟨s1,l,cs,ad2,cp2,rfl,HG,HQ4,HL⟩:=hrel;clear HL4 HF0 HQ;obtain⟨f,rfl⟩:∃ f,gk=f+1:=⟨gk-1,by have:=HG.out;omega⟩
   cases hi1:isB L s1 ⟨#[44]⟩ with
   | true =>
    have HI1:=hid hi1;have HQ1:Hid (R=qdE L n (qaY L n) f (qaY L n (qa6 s1)).1 (l++[(qaY L n (qa6 s1)).2])):=hid (by rw[HQ4.out,qjR HL.out.st.ok hi1]);have hn:=qfC hi1 HL.out.st.at_;have hk:=qjX (L:=L) (n:=n) (s:=qa6 s1) hn.1;have HSR:Hid (qeA L (qaY L n (qa6 s1)).1+1≤qeA L s1):=hid (by have h1:=hn.2;have h2:=hk.2;omega);have HSN:=hid (Nat.le_of_lt hn.2);have HIC:=hid (fun W (hW:PSt W p cap n a L (qa6 s1))=>HIT.out (qa6 s1) W hW);clear hi1 HQ4 hn hk;generalize qaY L n (qa6 s1)=KS at HIC HQ1 HSR;go_upto_region 7 with (first
     | (go_at_call 67;(with_reducible refine(qbS HL.out.st HI1.out).mono ?_);rintro e w4 ⟨rfl,hs⟩;have HS4:=hid hs;clear hs)
     | (go_at_call 75;(with_reducible refine(HIC.out _ HS4.out.1).mono ?_);rintro e w5 ⟨hg,he⟩;have HE5:=hid he;clear he;replace hg:=Or.symm hg;rcases hg with ⟨hg,rfl⟩|⟨⟨v,rfl,hit⟩,hg⟩ <;> first|(obtain⟨ad,m,c,rfl⟩:=qf0 hit;have HIT5:=hid hit;have HG5:=hid hg;clear hg hit)|(have HG5:=hid hg;clear hg;try unfold qb0))
     | (at_builtin;refine wpList_append_lies _ rfl (.tmp 15) (.tmp 18) 98 rfl 0 41 i0 (.agg #[.slice none 0 0]) 1 24 Tryz.underlying98 hi hz0 hz1 hz2 rfl (by decide) (.slice ad2 l.length cp2) l.length cs rfl ((LqS.step exK HL.out hlt HG5.out (HS4.out.2.trans HE5.out) (by have:=HSR.out;omega)).lst.row.alloc (.cells #[.slice ad m c] 41)) ⟨w5.heap.size,0,none⟩ 1 1 [.slice ad m c] rfl rfl (qp0 w5 (.slice ad m c) 41) (fun u hu=>by simp at hu;subst hu;rfl) (by decide) (by have:=HL.out.few;have:=HL.out.st.len;unfold maxLen;omega) (by have:=HL.out.few;have:=HL.out.st.len;omega) (Nat.zero_le _) _ rfl ?_;intro g cp w7 hown hgrow hat hlt7;have HL7:=hid (LqS.more exK (LqS.step exK HL.out hlt HS4.out.1 HS4.out.2 HSN.out) hlt (HIT5.out) HG5.out HE5.out ((Below.refl _ w5).alloc (Nat.le_refl _) (.cells #[.slice ad m c] 41)) rfl hown hgrow hat hlt7 (by have h1:=HL.out.few;have h2:=HSR.out;omega));clear hown hgrow hat hlt7))
    ·have h0:R.1=KS.1:=by rw[HQ1.out,qeY HG5.out]
     rw[h0];exact⟨rfl,.inr ⟨HG5.out,rfl⟩,HL.out.eff.trans (HS4.out.2.trans HE5.out)⟩
    go_roundg f
    case measure=>exact Nat.lt_succ_self f
    case rel=>exact⟨_,l++[KS.2],_,some ⟨g,0,none⟩,cp,by simp,hid (by have:=HSR.out;have:=HG.out;omega),HQ1,by rw[show (l++[KS.2]).length=l.length+1 by simp];exact HL7⟩
   | false =>
    have HI1:=hid hi1;have hq:=qp6 (L:=L) (n:=n) (s:=s1) (item:=qaY L n) (fun _=>qpN) (f:=f) (l:=l) HL.out.st.ok hi1;rw[← HQ4.out] at hq;have HQ1:=hid hq;have HWL:=hid (qc9 (L:=L) (n:=n) (s:=s1) ⟨#[41]⟩ HL.out.st.at_);have HWE:=hid (HWC.out s1);clear hi1 HQ4 hq HIT;generalize qa7 L n s1 ⟨#[41]⟩=s9 at HQ1 HWL HWE;go_wp2_with (first
     | (go_at_call 67;(with_reducible refine(qbD HL.out.st HI1.out).mono ?_);rintro e w4 ⟨rfl,hs⟩;have HS4:=hid hs;clear hs)
     | (go_at_call 69;(with_reducible refine(HWE.out w4 HS4.out.1).mono ?_);rintro e w1 ⟨hg,he⟩;have HE1:=hid he;clear he;replace hg:=Or.symm hg;rcases hg with ⟨hg,rfl⟩|⟨rfl,hg⟩ <;> (have HG1:=hid hg;clear hg;try unfold qb0)))
    ·rw[HQ1.out.1];exact⟨rfl,.inr ⟨HG1.out,rfl⟩,HL.out.eff.trans (HS4.out.2.trans HE1.out)⟩
    ·go_ret;have h4:=LqS.step exK HL.out hlt HG1.out (HS4.out.2.trans HE1.out) HWL.out.2;rw[HQ1.out.1,HQ1.out.2 HG1.out.ok];exact⟨.inl ⟨⟨_,_,rfl,h4.lst⟩,HG1.out⟩,h4.eff⟩
end Go.Proofs.YtenlhcgpajphhaaGreatDoor
