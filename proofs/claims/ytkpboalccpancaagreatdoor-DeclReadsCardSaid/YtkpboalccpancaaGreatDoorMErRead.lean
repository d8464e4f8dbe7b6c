import Derived.Test.YtkpboalccpancaaGreatDoorMEpShut
import Derived.Test.YtkpboalccpancaaGreatDoorMErSize
import Derived.Test.YtkpboalccpancaaGreatDoorMDrIs
import Derived.Test.YtkpboalccpancaaGreatDoorScan
import Derived.Test.YtkpboalccpancaaGreatDoorMWhole
import Derived.Test.YtkpboalccpancaaGreatDoorMExNamed
import Derived.Test.YtkpboalccpancaaGreatDoorMEbSmall
import Derived.Laws.FloatBits
namespace Go.Proofs.YtkpboalccpancaaGreatDoor
open Go.RowKit Go.Shelf
set_option maxRecDepth 100000
set_option linter.all false
def outR (n:Nat) (fi:Int):Prop:=fi<0∨(n:Int)<fi
def RArg (w:World) (e:Ending) (w':World):Prop:=e=.returned (.tuple #[.agg #[.slice none 0 0],.int .i64 0,.int .i64 2])∧Below w.heap.size w w'
theorem rresults_ctt {fn:Func} {p q r:Tmp} {t1:TypeId} (h:fn.results=#[.cell p t1,.tmp q,.tmp r]) (tmps:Array Value) (P:Program) (w:World) :
  (results fn tmps).run P w=((asAddr (tmps.getD p undef)).run P w).andThen fun a w₁=>((loadVar t1 a).run P w₁).andThen fun v w₂=>.ok (.tuple #[v,tmps.getD q undef,tmps.getD r undef]) w₂:=by
 simp only[results,h];simp[Sem.run_bind,Result.andThen]
theorem rreadRes {fn:Func} {p q r:Tmp} {tmps:Array Value} {W:World} {b1:Nat} {v:Value} {x y:Int} (hf:fn.results=#[.cell p 41,.tmp q,.tmp r])
  (h1:tmps.getD p undef=.pointer (some ⟨b1,0,none⟩)) (h2:tmps.getD q undef=.int .i64 x) (h3:tmps.getD r undef=.int .i64 y) (x1:Bx W b1 41 [v]) :
  (results fn tmps).run Tryz.prog W=.ok (.tuple #[.agg #[v],.int .i64 x,.int .i64 y]) W:=by
 have c1:=x1.c 0 rfl;rw[rresults_ctt hf,h1,h2,h3];simp[asAddr,go_sem,c1,Result.andThen]
open Lib(hid)
set_option maxHeartbeats 4000000
theorem own_zero {w:World} {B s n:Nat} {T:TypeId} {v:Value} {xs:List Value} (h:w.ownsRow B T s v n xs):w.ownsRow 0 T s v n xs:=by
  refine⟨h.1,?_⟩
  rcases h.2 with h|⟨g,cap,cur,hv,_,rest⟩
  · exact .inl h
  · exact .inr ⟨g,cap,cur,hv,Nat.zero_le _,rest⟩
theorem Itm.same {α:Type} {E:Shp α} {s lo:Nat} {w w':World} {c:List Value} {x:α} (ke:KE E s) (h:Itm E lo w c x) (hs:∀ b,lo≤b→b<w.heap.size→w'.heap[b]?=w.heap[b]?) (hz:w.heap.size≤w'.heap.size):Itm E lo w' c x:=by
  obtain⟨F,h1,h2⟩:=h
  exact⟨F,ke.keep h1 (fun b hb=>hs b (h2.lies b hb).1 (h2.lies b hb).2),h2.wide (Nat.le_refl _) hz⟩
theorem Itm.wide {α:Type} {E:Shp α} {lo lo':Nat} {w:World} {c:List Value} {x:α} (h:Itm E lo w c x) (hl:lo'≤lo):Itm E lo' w c x:=by
  obtain⟨F,h1,h2⟩:=h
  exact⟨F,h1,h2.wide hl (Nat.le_refl _)⟩
theorem ex_none (lo:Nat) (w:World):Itm exE lo w [.slice none 0 0] none:=⟨[],⟨_,rfl,rfl,World.ownsRow_nil _ _ _ _⟩,Good.nil _ _⟩
theorem ex_row {w:World} {B g c lo:Nat} {t:Ex} (h:w.ownsRow B 104 9 (.slice (some ⟨g,0,none⟩) (0+cnt t) c) (0+cnt t) (flatN ([]++lay 0 t))) (hB:lo≤B):Itm exE lo w [.slice (some ⟨g,0,none⟩) (cnt t) c] (some t):=by
  rw[Nat.zero_add,List.nil_append] at h
  have hl:=h.lt g rfl
  refine⟨[g],⟨_,rfl,rfl,?_⟩,by simp,fun b hb=>?_⟩
  · show w.ownsRow 0 104 9 _ (lay 0 t).length (flatN (lay 0 t))
    rw[lay_len]
    exact own_zero h
  · simp at hb
    subst hb
    omega
def ReadO (L:List TokE) (k:Nat) (w:World) (e:Ending) (w':World):Prop :=
  ((∃ at_ f:Int,RdR L k none at_ f∧e=.returned (.tuple #[.agg #[.slice none 0 0],.int .i64 at_,.int .i64 f])) ∨
   (∃ t v,∃ at_:Int,RdR L k (some t) at_ 0∧e=.returned (.tuple #[.agg #[v],.int .i64 at_,.int .i64 0])∧Itm exE w.heap.size w' [v] (some t)))∧Below w.heap.size w w'
theorem rread_own (a:Option Addr) (cap k:Nat) (L:List TokE) (w:World) (hk:k≤L.length) (hT:Toks w a L) (low:∀ x,a=some x→∀ n,(x.add n).block<w.heap.size) (hlen:L.length≤1000000) (hR:∀ i,(L.getD i default).rl<18446744073709551616) (hS:∀ i,(L.getD i default).tx.size≤140737488351232) :
    Calls Tryz.prog 71 #[.slice a L.length cap,.int .i64 k] w (ReadO L k w):=by
  obtain⟨W0,hW0,hx0,hb0⟩:∃ W0,W0=w.alloc (.cells #[.slice none 0 0] 41)∧Bx W0 w.heap.size 41 [.slice none 0 0]∧Below w.heap.size w W0:=⟨_,rfl,Bx.new w 41 [.slice none 0 0],(Below.refl _ w).alloc (Nat.le_refl _) _⟩
  have hz0:W0.heap.size=w.heap.size+1:=by rw[hW0];simp
  obtain⟨W3,hW3⟩:∃ W3,W3=W0.alloc (.cells #[.slice a L.length cap,.int .i64 k,.int .i64 (-1)] 150):=⟨_,rfl⟩
  have hb3:Below W0.heap.size W0 W3:=by rw[hW3];exact(Below.refl _ W0).alloc (Nat.le_refl _) _
  have hst:RSt W3 W0.heap.size cap a L k (-1):=by
    refine⟨by rw[hW3];exact heap_alloc_new _ _,rtoks_blk hT (fun x hx n=>?_),fun x hx n=>by have:=low x hx n;omega,by omega,hk,hS,hR⟩
    have hl:=low x hx n
    exact(hb3.block _ (by omega)).trans (hb0.block _ hl)
  have HLV:=hid (rlevel_any W0.heap.size cap k 1 a L (by omega) W3 hst (by omega) (by omega))
  have HW0:=hid hW0
  have HW3:=hid hW3
  have HX3:=hid (hx0.keep hb3 (by omega))
  have HB3:=hid (hb0.trans (hb3.mono (by omega)))
  have hne:w.heap.size≠W0.heap.size:=by omega
  have hzz:w.heap.size≤W0.heap.size:=by omega
  clear hT low hR hS hW0 hx0 hb0 hz0 hW3 hb3 hst
  have d1:decide ((L.length:Int)<(k:Int))=false:=decide_eq_false (by omega)
  go_enter Tryz.func71,Tryz.ntmps71
  go_upto_region 1 with (fail)
  rw[← HW0.out]
  go_upto_region 4 with (fail)
  rw[← HW3.out]
  generalize hp:W0.heap.size=p at *
  go_upto_region 5 with (go_at_call 90;refine HLV.out.mono ?_;rintro e w5 ⟨he,hb,ho⟩;have HB5:=hid (HB3.out.trans (hb.mono hzz));have HX5:=hid (HX3.out.keep hb (by omega));clear hb ho;rcases he with ⟨q,k',hq,rfl,hst⟩|⟨t,q,qa,hq,hcq,rfl,hst,htr⟩)
  · have c2:=hst.rdr.c2
    have fx:=HX5.out.fz 0
    have x0:=HX5.out.c 0 rfl
    have HPR:Hid (RdR L k none (q:Nat) 50):=hid (.inl ⟨q,hq,rfl,rfl,rfl⟩)
    clear hst hq hp
    go_upto_region 6 with (fail)
    go_region
    all_goals go_wp2
    all_goals exact bodyPost_ret (rreadRes rfl rfl rfl rfl (by first|exact HX5.out.set 0 _|exact bx_drew (HX5.out.set 0 _))) rfl ⟨.inl ⟨_,_,HPR.out,rfl⟩,by first|exact(HB5.out.setCell (Nat.le_refl _) _).drew|exact(HB5.out.drew).setCell (Nat.le_refl _) _⟩
  · have hqL:=hq.ok_le (by omega) hk
    have hcp:=cnt_pos t
    have HLM:=hid (limits_any t _ qa w5 htr (by omega))
    have HTR:=hid htr
    have HQ:=hid hq
    have HST:=hid hst
    have fx:=HX5.out.fz 0
    have x0:=HX5.out.c 0 rfl
    have c1:=hst.rdr.c1
    by_cases hf:faultT t=0
    · have HF:=hid hf
      rw[hf] at HLM
      have HLA:=hid (laid_any t _ qa w5.heap.size [] (.slice none 0 0) w5 w5.drew htr rfl (drew_below w5) (World.ownsRow_nil _ _ _ _) (by show 0+cnt t≤1000000000;omega))
      have hzw:w.heap.size<w5.heap.size:=HX5.out.lt
      have hpw:p<w5.heap.size:=hst.rdr.lt
      clear hq hst htr hf hp
      go_upto_region 10 with (go_at_call 91;refine HLM.out.mono ?_;rintro e w6 ⟨rfl,rfl⟩)
      go_region_held3 (fun W=>W.cell? ⟨p,1,none⟩=some (.int .i64 q))
        (first|assumption|(repeat (first|assumption|(refine cell_set_far hne ?_)))|go_keep)
        (first|(go_at_call 92;refine HLA.out.mono ?_;rintro e w7 ⟨g,c,rfl,hrow,hgg,hs7,hf7,hb7⟩;have HIT:=hid (ex_row (lo:=w5.heap.size) hrow (Nat.le_refl _));have HG:=hid (hrow.lt g rfl);have hb7':Below w5.heap.size w5 w7:=(drew_below w5).trans hb7;have HX7:=hid (HX5.out.keep hb7' hzw);have HB7:=hid (HB5.out.trans (hb7'.mono (Nat.le_of_lt hzw)));have f7:=HX7.out.fz 0;have c7:=HX7.out.c 0 rfl;have c1':w7.cell? ⟨p,1,none⟩=some (.int .i64 q):=((HST.out.below hb7').rdr.c1);clear hrow hgg hs7 hf7 hb7 hb7'))
      have HXN:=hid ((HIT.out.same (w':=w7.setCell ⟨w.heap.size,0,none⟩ (.slice (some ⟨g,0,none⟩) (cnt t) c)) exK (fun b hb1 hb2=>Below.heap_setCell _ _ _ _ (by show b≠w.heap.size;omega)) (by simp)).wide (Nat.le_of_lt hzw))
      rename_i hHeld
      clear hHeld
      go_wp2
      exact bodyPost_ret (rreadRes rfl rfl rfl rfl (HX7.out.set 0 _)) rfl ⟨.inr ⟨t,_,(q:Nat),.inr (.inr ⟨t,q,HQ.out,HF.out,rfl,rfl,rfl⟩),rfl,HXN.out⟩,HB7.out.setCell (Nat.le_refl _) _⟩
    · have HF:=hid hf
      have df:(faultT t==0)=false:=beq_eq_false_iff_ne.2 hf
      generalize hfl:faultT t=fl at HLM df
      have HFL:=hid hfl
      clear hq hst htr hf hfl hp
      go_wp2_with (go_at_call 91;refine HLM.out.mono ?_;rintro e w6 ⟨rfl,rfl⟩)
      exact bodyPost_ret (rreadRes rfl rfl rfl rfl (HX5.out.set 0 _)) rfl ⟨.inl ⟨_,_,.inr (.inl ⟨t,q,HQ.out,HF.out,rfl,rfl,HFL.out.symm⟩),rfl⟩,HB5.out.setCell (Nat.le_refl _) _⟩
theorem Eff.mine {p b:Nat} {w w1:World} (h:Eff p w w1) (hp:p<w.heap.size) (hb:w.heap.size≤b) (j:Nat) (v:Value):Eff p w (w1.setCell ⟨b,j,none⟩ v) :=
  ⟨h.1.setCell (by show p≤b;omega) _,by have:=h.2.1;simpa using this,fun k hk hkp=>(Below.heap_setCell _ _ _ _ (by show k≠b;omega)).trans (h.2.2 k hk hkp)⟩
theorem ex_slice {lo:Nat} {w:World} {v:Value} {o:Option Ex} (h:Itm exE lo w [v] o):∃ ad m c,v=.slice ad m c:=by
  obtain⟨F,⟨v',hv,_,hr⟩,_⟩:=h
  cases hv
  rcases hr.2 with ⟨rfl,_⟩|⟨g,cap,cur,rfl,_⟩
  · exact⟨_,_,_,rfl⟩
  · exact⟨_,_,_,rfl⟩
def ReadU (L:List TokE) (k:Nat) (w:World) (e:Ending) (w':World):Prop :=
  ∃ (o:Option Ex) (ad:Option Addr) (m c:Nat) (at_ f:Int),RdR L k o at_ f∧e=.returned (.tuple #[.agg #[.slice ad m c],.int .i64 at_,.int .i64 f])∧Itm exE w.heap.size w' [.slice ad m c] o∧Below w.heap.size w w'
theorem readU_of {L:List TokE} {k:Nat} {w w':World} {e:Ending} (h:ReadO L k w e w'):ReadU L k w e w':=by
  obtain⟨h,hb⟩:=h
  rcases h with ⟨a,f,h1,he⟩|⟨t,v,a,h1,he,h2⟩
  · exact⟨none,none,0,0,a,f,h1,he,ex_none _ _,hb⟩
  · obtain⟨ad,m,c,rfl⟩:=ex_slice h2
    exact⟨some t,ad,m,c,a,0,h1,he,h2,hb⟩
theorem rdR_none {L:List TokE} {k:Nat} {a f:Int} (h:RdR L k none a f):0≤a∧f≠0:=by
  rcases h with ⟨q,_,_,rfl,rfl⟩|⟨t,q,_,h1,_,rfl,rfl⟩|⟨t,q,_,_,h,_⟩
  · exact⟨by omega,by decide⟩
  · exact⟨by omega,h1⟩
  · cases h
theorem exprRes8 {fn:Func} {p:Tmp} {tmps:Array Value} {W:World} {g:Nat} {v:Value} (hf:fn.results=#[.cell p 41]) (hp:tmps.getD p undef=.pointer (some ⟨g,0,none⟩)) (h:Bx W g 41 [v]) :
    (results fn tmps).run Tryz.prog W=.ok (.agg #[v]) W:=results_cell_row hf _ _ g 41 _ (0,0) _ hp h Tryz.underlying41 rfl (by kernel_rfl)
structure ExF (w Wr:World) (X p cap n:Nat) (a:Option Addr) (L:List TokE) (s:S8) (v:Value) (o:Option Ex):Prop where
  box:Bx Wr X 41 [v]
  res:Bx Wr w.heap.size 41 [.slice none 0 0]
  ne:w.heap.size<X
  st:DSt Wr p cap n a L s
  it:Itm exE (w.heap.size+1) Wr [v] o
  eff:Eff p w Wr
def ExprP (p cap n:Nat) (a:Option Addr) (L:List TokE) (s:S8) (w:World) (e:Ending) (w':World):Prop :=
  ∃ v,e=.returned (.agg #[v])∧Itm exE w.heap.size w' [v] (exprS L n s).2∧St8 p cap n a L (exprS L n s).1 w w'
theorem expr8_any (p cap n:Nat) (a:Option Addr) (L:List TokE) (s:S8) (w:World) (h:DSt w p cap n a L s) :
    Calls Tryz.prog 48 #[.pointer (some ⟨p,0,none⟩)] w (ExprP p cap n a L s w):=by
  obtain⟨W0,hW0,hx0,hb0⟩:∃ W0,W0=w.alloc (.cells #[.slice none 0 0] 41)∧Bx W0 w.heap.size 41 [.slice none 0 0]∧Below w.heap.size w W0:=⟨_,rfl,Bx.new w 41 [.slice none 0 0],(Below.refl _ w).alloc (Nat.le_refl _) _⟩
  have hst:=h.below hb0
  have hlt:=h.lt
  have HE0:=hid (Eff.of_below hb0 h.lt)
  have HW0:=hid hW0
  have HST:=hid hst
  have HX0:=hid hx0
  obtain⟨c0,c1,c2,c3,c4⟩:=hst.cells
  have hne:w.heap.size≠p:=by omega
  unfold ExprP
  obtain⟨R,hR⟩:∃ R,R=exprS L n s:=⟨_,rfl⟩
  rw[← hR]
  by_cases hb:s.bad=0
  · have HRR:=hid (show ∀ o a f,rdX L s.k=(o,a,f)→R=match o with|some t=>(⟨a.toNat,s.bad,s.pl⟩,some t)|none=>(failS L n s a f,none) from fun o a f h=>by
      rw[hR]
      unfold exprS
      rw[if_pos hb,h]
      cases o <;> rfl)
    clear hR
    rw[hb] at c3
    have HRD:=hid (fun W (hW:DSt W p cap n a L s)=>(rread_own a cap s.k L W hW.at_ hW.toks (fun x hx m=>Nat.lt_trans (hW.low x hx m) hW.lt) hW.len hW.real hW.sized).mono (fun _ _ h=>readU_of h))
    have HAT:=hid hst.at_
    have HB:=hid hb
    have HLT:=hid hlt
    generalize hN:L.length=N at c0 HRD
    have HNN:=hid hN
    clear h hst hW0 hx0 hb0 c2 c4 hb hN
    go_enter Tryz.func48,Tryz.ntmps48
    go_upto_region 1 with (fail)
    rw[← HW0.out]
    go_upto_region 3 with (fail)
    have HR1:=hid (HRD.out W0.drew (HST.out.below (drew_below W0)))
    have HR2:=hid (HRD.out (W0.alloc (.cells #[.slice none 0 0] 41)).drew (HST.out.below ((Below.refl W0.heap.size W0).alloc (Nat.le_refl _) _).drew))
    unfold ReadU at HR1 HR2
    have hnp:W0.heap.size≠p:=by have:=HST.out.lt;omega
    go_region_held3 (fun W'=>W'.cell? ⟨p,0,none⟩=some (.slice a N cap)∧W'.cell? ⟨p,1,none⟩=some (.int .i64 (s.k:Nat)))
      (first|(refine⟨?_,?_⟩ <;> assumption)|(refine⟨cell_set_far hnp ?_,cell_set_far hnp ?_⟩ <;> assumption)|go_keep)
      (first
        | (go_at_call 71;(with_reducible refine HR1.out.mono ?_);rintro e w1 ⟨o,ad,m,c,at_,f,hr,rfl,hit,hb1⟩;have hb1:Below W0.heap.size W0 w1:=(drew_below W0).trans hb1;have HS1:=hid (HST.out.below hb1);have HR:=hid hr;have HIT:=hid (show Itm exE W0.heap.size w1 [.slice ad m c] o from hit);have HB1:=hid hb1;have q0:w1.cell? ⟨p,0,none⟩=some (.slice a N cap):=(by rw[← HNN.out];exact HS1.out.cells.1);have q1:=HS1.out.cells.2.1;clear hr hit hb1)
        | (go_at_call 71;(with_reducible refine HR2.out.mono ?_);rintro e w1 ⟨o,ad,m,c,at_,f,hr,rfl,hit,hb0'⟩;have hb1:Below W0.heap.size W0 w1:=(((Below.refl W0.heap.size W0).alloc (Nat.le_refl _) _).drew).trans (hb0'.mono (by simp));have HS1:=hid (HST.out.below hb1);have HR:=hid hr;have HIT:=hid (show Itm exE (W0.heap.size+1) w1 [.slice ad m c] o from hit.wide (by simp));have HB1:=hid hb1;have q0:w1.cell? ⟨p,0,none⟩=some (.slice a N cap):=(by rw[← HNN.out];exact HS1.out.cells.1);have q1:=HS1.out.cells.2.1;have HXB:=hid (show Bx w1 W0.heap.size 41 [.slice none 0 0] from (Bx.new W0 41 [.slice none 0 0]).keep (w':=w1) (((Below.refl (W0.heap.size+1) (W0.alloc (.cells #[.slice none 0 0] 41))).drew).trans (hb0'.mono (by simp))) (by omega));have y0:=HXB.out.c 0 rfl;have yf:=HXB.out.fz 0;clear hr hit hb0' hb1))
    all_goals
      rename_i hHeld
      clear hHeld q0 q1 c0 c1 HR1 HR2
      have hz0:W0.heap.size=w.heap.size+1:=by rw[HW0.out];simp
      have hb01:=HB1.out.size
      first
      | (have XF:ExF w (w1.setCell ⟨W0.heap.size,0,none⟩ (.slice ad m c)) W0.heap.size p cap n a L s (.slice ad m c) o :=
          ⟨HXB.out.set 0 _,(HX0.out.keep HB1.out (by omega)).other (by omega) _ _,by omega,HS1.out.same (fun b hb=>Below.heap_setCell _ _ _ _ (by show b≠W0.heap.size;have:=HST.out.lt;omega)),
            (HIT.out.same exK (fun b hb1 hb2=>Below.heap_setCell _ _ _ _ (by show b≠W0.heap.size;omega)) (by simp)).wide (by omega),(HE0.out.trans (Eff.of_below HB1.out HST.out.lt)).mine hlt (by omega) _ _⟩
         generalize w1.setCell ⟨W0.heap.size,0,none⟩ (.slice ad m c)=Wr at XF ⊢
         generalize W0.heap.size=X at XF ⊢)
      | (have XF:ExF w (w1.alloc (.cells #[.slice ad m c] 41)) w1.heap.size p cap n a L s (.slice ad m c) o:=by
          have hba:Below w1.heap.size w1 (w1.alloc (.cells #[.slice ad m c] 41)):=(Below.refl _ _).alloc (Nat.le_refl _) _
          exact⟨Bx.new w1 _ _,(HX0.out.keep HB1.out (by omega)).keep hba (by omega),by omega,HS1.out.below hba,(HIT.out.same exK (fun b _ hb2=>hba.block b hb2) hba.size).wide (by omega),(HE0.out.trans (Eff.of_below HB1.out HST.out.lt)).trans (Eff.of_below hba (by have:=HST.out.lt;omega))⟩
         generalize w1.alloc (.cells #[.slice ad m c] 41)=Wr at XF ⊢
         generalize w1.heap.size=X at XF ⊢)
      have hx:=rdX_of HR.out
      have HX:=hid XF
      have fr:=XF.res.fz 0
      have r0:=XF.res.c 0 rfl
      have x0:=XF.box.c 0 rfl
      have HBK:=HB
      clear XF hb01 hz0 HIT HB1 HS1 HRD
      cases o with
      | none =>
        have hfn:=rdR_none HR.out
        have df:(f==0)=false:=beq_eq_false_iff_ne.2 hfn.2
        have df':(f != 0)=true:=by rw[bne,df];rfl
        have HF:=hid (fail8_any p cap n a L s at_ f hfn.1 Wr HX.out.st)
        have HXX:=hid (HRR.out _ _ _ hx)
        clear hfn hx
        go_wp2_with (go_at_call 36;(with_reducible refine HF.out.mono ?_);rintro e w2 ⟨rfl,h1,h2⟩;have HS2:=hid h1;have HE2:=hid h2;have HR2:=hid (HX.out.res.oth h2.2 (by have:=HX.out.ne;omega));clear h1 h2;have fr2:=HR2.out.fz 0;have r2:=HR2.out.c 0 rfl)
        refine bodyPost_ret (exprRes8 rfl rfl (HR2.out.set 0 _)) rfl ⟨_,rfl,?_,?_,?_⟩
        · rw[HXX.out]
          exact ex_none _ _
        · rw[HXX.out]
          exact HS2.out.same (fun b hb=>Below.heap_setCell _ _ _ _ (by show b≠w.heap.size;omega))
        · exact(HX.out.eff.trans HE2.out).mine hlt (Nat.le_refl _) _ _
      | some t =>
        obtain⟨q,rfl,rfl,hq1,hq2⟩:=rdR_far HAT.out HR.out
        have c1:=HX.out.st.cells.2.1
        have f1:=HX.out.st.box.fz 1
        have HJ:=hid (HX.out.st.jump q hq2)
        have HXX:=hid (HRR.out _ _ _ hx)
        have hXp:X≠p:=by have:=HX.out.ne;omega
        have HXJ:=hid (HX.out.box.other hXp 1 (.int .i64 (q:Nat)))
        have HRJ:=hid (HX.out.res.other hne 1 (.int .i64 (q:Nat)))
        have HEJ:=hid (HX.out.eff.set 1 (.int .i64 (q:Nat)))
        have HIJ:=hid (HX.out.it.same (w':=Wr.setCell ⟨p,1,none⟩ (.int .i64 (q:Nat))) exK (fun b hb1 hb2=>Below.heap_setCell _ _ _ _ (by show b≠p;omega)) (by simp))
        have HNX:=hid HX.out.ne
        clear HX hx hq1 hq2 x0 r0 fr
        go_upto_region 8 with (fail)
        generalize Wr.setCell ⟨p,1,none⟩ (.int .i64 (q:Nat))=W2 at HJ HXJ HRJ HEJ HIJ ⊢
        have x0:=HXJ.out.c 0 rfl
        have r0:=HRJ.out.c 0 rfl
        have fr:=HRJ.out.fz 0
        clear c1 f1
        go_wp2
        refine bodyPost_ret (exprRes8 rfl rfl (HRJ.out.set 0 _)) rfl ⟨_,rfl,?_,?_,?_⟩
        · rw[HXX.out]
          exact(HIJ.out.same exK (fun b hb1 hb2=>Below.heap_setCell _ _ _ _ (by show b≠w.heap.size;omega)) (by simp)).wide (Nat.le_succ _)
        · rw[HXX.out]
          exact HJ.out.same (fun b hb=>Below.heap_setCell _ _ _ _ (by show b≠w.heap.size;omega))
        · exact HEJ.out.mine hlt (Nat.le_refl _) _ _
  · have HRR:Hid (R=(s,none)):=hid (by rw[hR];unfold exprS;rw[if_neg hb])
    clear hR
    have d:(s.bad==0)=false:=beq_eq_false_iff_ne.2 hb
    have d':(s.bad != 0)=true:=by rw[bne,d];rfl
    have fz:=HX0.out.fz 0
    have x0:=HX0.out.c 0 rfl
    generalize hbd:s.bad=bd at c3 d d'
    clear h hst hW0 hx0 hb0 c0 c1 c2 c4 hb hbd
    go_enter Tryz.func48,Tryz.ntmps48
    go_upto_region 1 with (fail)
    rw[← HW0.out]
    go_wp2
    refine bodyPost_ret (exprRes8 rfl rfl (HX0.out.set 0 _)) rfl ⟨_,rfl,by rw[HRR.out];exact ex_none _ _,?_,?_⟩
    · rw[HRR.out]
      exact HST.out.same (fun b hb=>Below.heap_setCell _ _ _ _ (by show b≠w.heap.size;omega))
    · exact HE0.out.mine (by omega) (Nat.le_refl _) _ _
theorem Scan_any (a:Option Addr) (n cap:Nat) (l:List UInt8) (w:World) (hT:Txt w a n cap l) (hG:Glob w) :
  Calls Tryz.prog 50 #[.slice a n cap] w fun e W'=>Below w.heap.size w W' ∧
   ((∃ v,e=.returned (.tuple #[v,.int .i64 0,.int .i64 0])∧(∀ x ∈ allF l,x.2=0)∧W'.ownsRow w.heap.size 132 6 v (allF l).length (flatT (allF l))) ∨
    (∃ p x r,allF l=p++x :: r∧(∀ y ∈ p,y.2=0)∧x.2≠0∧e=.returned (.tuple #[.slice none 0 0,.int .i64 x.1.at_,.int .i64 x.2]))) :=
 (callsIn_wide (n:=3)).1 (Scan_in 3 a n cap l w (Nat.le_refl _) ldexpSaid hT hG)
theorem firstBad {p q r s:List (Tok × Nat)} {x y:Tok × Nat} (h:p++x :: r=q++y :: s) (hp:∀ z ∈ p,z.2=0) (hq:∀ z ∈ q,z.2=0) (hx:x.2≠0) (hy:y.2≠0):x=y:=by
 induction p generalizing q with
 | nil =>
  cases q with
  | nil=>simp at h;exact h.1
  | cons z q=>simp at h;exact absurd (hq z (by simp)) (h.1 ▸ hx)
 | cons z p ih =>
  cases q with
  | nil=>simp at h;exact absurd (hp z (by simp)) (h.1 ▸ hy)
  | cons u q =>
   simp at h;exact ih h.2 (fun z hz=>hp z (List.mem_cons_of_mem _ hz)) (fun z hz=>hq z (List.mem_cons_of_mem _ hz))
theorem seqR_place (l:List UInt8):∀ (f i:Nat),(seqR f l i).2.2=0→(seqR f l i).2.1=0
 | 0,_,_=>rfl
 | f+1,i,h=>by
  rw[seqR_S] at h ⊢;unfold seqS at h ⊢;split
  ·rfl
  ·rename_i h1;rw[if_neg h1] at h;split
   ·rename_i h2;rw[if_pos h2] at h;exact absurd h h2
   ·rename_i h2;rw[if_neg h2] at h;exact seqR_place l f _ h
theorem allR_place {l:List UInt8} (h:(allR l).2.2=0):(allR l).2.1=0:=by
 unfold allR at h ⊢;split
 ·rfl
 ·rename_i h1;rw[if_neg h1] at h;exact seqR_place l _ _ h
theorem all_ok {l:List UInt8} (h:∀ x ∈ allF l,x.2=0):(allR l).2.1=0∧(allR l).2.2=0∧allF l=(allR l).1.map (fun t=>(t,0)):=by
 have e:=same_all l;unfold toldR at e;by_cases h0:(allR l).2.2=0
 ·rw[if_pos h0,List.append_nil] at e;exact⟨allR_place h0,h0,e⟩
 ·rw[if_neg h0] at e;exact absurd (h (⟨0,[],0,0,(allR l).2.1,0⟩,(allR l).2.2) (by rw[e];simp)) h0
theorem map_zero {xs:List Tok}:∀ y ∈ xs.map (fun t=>(t,0)),(y:Tok × Nat).2=0:=by
 intro y hy;obtain⟨t,_,rfl⟩:=List.mem_map.1 hy;rfl
theorem all_bad {l:List UInt8} {p r:List (Tok × Nat)} {x:Tok × Nat} (h:allF l=p++x :: r) (hp:∀ y ∈ p,y.2=0) (hx:x.2≠0):(allR l).2.1=x.1.at_∧(allR l).2.2=x.2:=by
 have e:=same_all l;unfold toldR at e;by_cases h0:(allR l).2.2=0
 ·rw[if_pos h0,List.append_nil] at e;exact absurd (map_zero x (by rw[← e,h];simp)) hx
 ·rw[if_neg h0] at e;have:=firstBad (h.symm.trans e) hp map_zero hx h0;rw[this];exact⟨rfl,rfl⟩
theorem flatT_map (xs:List Tok):flatT (xs.map (fun t=>(t,0)))=flatR xs:=by unfold flatT flatR;rw[List.flatMap_map]
def EScan (l:List UInt8) (w:World) (e:Ending) (w':World):Prop :=
 (((allR l).2.2=0∧∃ v,e=.returned (.tuple #[v,.int .i64 0,.int .i64 0])∧w'.ownsRow w.heap.size 132 6 v (allR l).1.length (flatR (allR l).1)) ∨
  ((allR l).2.2≠0∧e=.returned (.tuple #[.slice none 0 0,.int .i64 (allR l).2.1,.int .i64 (allR l).2.2])))∧Below w.heap.size w w'
theorem escan_any (a:Option Addr) (n cap:Nat) (l:List UInt8) (w:World) (hT:Txt w a n cap l) (hG:Glob w) :
  Calls Tryz.prog 50 #[.slice a n cap] w (EScan l w):=by
 refine(Scan_any a n cap l w hT hG).mono ?_;rintro e W' ⟨hb,⟨v,he,hz,hr⟩|⟨p,x,r,h1,h2,h3,he⟩⟩
 ·obtain⟨q1,q2,q3⟩:=all_ok hz;rw[q3,flatT_map,List.length_map] at hr;exact⟨.inl ⟨q2,v,he,hr⟩,hb⟩
 ·obtain⟨q1,q2⟩:=all_bad h1 h2 h3;exact⟨.inr ⟨by rw[q2];exact h3,by rw[q1,q2];exact he⟩,hb⟩
theorem realBits_lt (m e:Int):realBits m e<18446744073709551616:=Ieee.Format.nearest_lt Ieee.double _ _ _
def smallT (n:Nat) (t:Tok):Prop:=t.real<18446744073709551616∧t.text.length≤n
theorem z64:(0:Nat)<18446744073709551616:=by decide
theorem zero_small (n:Nat):smallT n zeroTok:=⟨by decide,Nat.zero_le _⟩
theorem real_small (n A N M:Nat) (D1 D2:List UInt8) (below:Bool):smallT n (realT A N M D1 D2 below).1:=by
 unfold realT;split
 ·split
  ·rename_i b hb;refine⟨?_,Nat.zero_le _⟩;unfold realC at hb
   repeat' split at hb
   all_goals first
    | (cases hb;done)
    | (cases hb;exact realBits_lt _ _)
    | (cases hb;decide)
  ·exact zero_small n
 ·exact zero_small n
theorem refTok_small (l:List UInt8) (A:Nat) (he:(refTok l A).2=0):smallT (l.length+256) (refTok l A).1:=by
 have ht:∀ a b:Nat,((l.drop a).take b).length≤l.length+256:=fun a b=>by rw[List.length_take,List.length_drop];omega
 unfold refTok at he ⊢;split
 ·unfold refName;split
  ·exact zero_small _
  ·exact⟨z64,ht _ _⟩
 ·split
  ·unfold refNum;split
   ·exact zero_small _
   ·split
    ·exact real_small _ _ _ _ _ _ _
    ·split
     ·exact⟨z64,Nat.zero_le _⟩
     ·exact zero_small _
  ·split
   ·unfold refText;split
    ·rename_i h;exact⟨z64,by have:=h.2.2;simp only;omega⟩
    ·exact zero_small _
   ·unfold refMarkT;split
    ·exact⟨z64,ht _ _⟩
    ·split
     ·exact⟨z64,ht _ _⟩
     ·exact zero_small _
theorem seqR_small (l:List UInt8):∀ (f i:Nat),∀ t ∈ (seqR f l i).1,smallT (l.length+256) t
 | 0,i,t,h=>by unfold seqR at h;cases h
 | f+1,i,t,h=>by
  rw[seqR_S] at h;unfold seqS at h;split at h
  ·cases h
  ·split at h
   ·cases h
   ·rename_i h1 h2;rcases List.mem_cons.1 h with rfl|h3
    ·exact refTok_small l _ (Classical.not_not.1 h2)
    ·exact seqR_small l f _ t h3
theorem allR_small (l:List UInt8):∀ t ∈ (allR l).1,smallT 33024 t:=by
 intro t h;unfold allR at h;split at h
 ·cases h
 ·rename_i hl;have:=seqR_small l _ _ t h;exact⟨this.1,by have:=this.2;omega⟩
theorem allR_few (l:List UInt8):(allR l).1.length≤32768:=by
 unfold allR;split
 ·exact Nat.zero_le _
 ·have:=seqR_few (l:=l) (l.length+1) 0 (Nat.zero_le _);omega
def toksL (l:List UInt8):List TokE:=(allR l).1.map tokE
theorem toksL_len (l:List UInt8):(toksL l).length=(allR l).1.length:=List.length_map ..
theorem toksL_few (l:List UInt8):(toksL l).length≤32768:=by rw[toksL_len];exact allR_few l
theorem toksL_at {l:List UInt8} {i:Nat} (h:i<(toksL l).length):∃ x ∈ (allR l).1,(allR l).1[i]?=some x∧(toksL l).getD i default=tokE x:=by
 rw[toksL_len] at h;refine⟨_,List.getElem_mem h,List.getElem?_eq_getElem h,?_⟩;unfold toksL;rw[List.getD_eq_getElem?_getD,List.getElem?_map,List.getElem?_eq_getElem h];rfl
theorem toksL_real (l:List UInt8) (i:Nat):((toksL l).getD i default).rl<18446744073709551616:=by
 rcases Nat.lt_or_ge i (toksL l).length with h|h
 ·obtain⟨x,hx,_,e⟩:=toksL_at h;rw[e];exact(allR_small l x hx).1
 ·rw[List.getD_eq_getElem?_getD,List.getElem?_eq_none h]
  decide
theorem toksL_size (l:List UInt8) (i:Nat):((toksL l).getD i default).tx.size≤140737488351232:=by
 rcases Nat.lt_or_ge i (toksL l).length with h|h
 ·obtain⟨x,hx,_,e⟩:=toksL_at h;rw[e];have:=(allR_small l x hx).2;show x.text.toArray.size≤_;simp;omega
 ·rw[List.getD_eq_getElem?_getD,List.getElem?_eq_none h]
  decide
theorem toks_own {w:World} {base N:Nat} {e:TypeId} {v:Value} {l:List UInt8} (hN:(allR l).1.length=N) (h:w.ownsRow base e 6 v N (flatR (allR l).1)) :
  ∃ a c,v=.slice a (toksL l).length c∧Toks w a (toksL l)∧(∀ x,a=some x→∀ n,base≤(x.add n).block∧(x.add n).block<w.heap.size):=by
 have hlen:=toksL_len l;rcases Nat.eq_zero_or_pos N with h0|h0
 ·rcases h.2 with ⟨he,_⟩|⟨g,cap,cur,he,hb,hgg,_⟩
  ·refine⟨none,0,by rw[he,hlen,hN,h0],fun i hi=>by omega,fun x hx=>by cases hx⟩
  ·refine⟨_,_,by rw[he,hlen,hN],fun i hi=>by omega,fun x hx n=>?_⟩;cases hx;rw[show ((⟨g,0,none⟩:Addr).add n).block=g by unfold Addr.add;split <;> rfl];exact⟨hb,lt_of_block hgg⟩
 ·obtain⟨g,c,he,hb,hl,hc⟩:=etok_row hN h h0;have hadd:∀ n,(⟨g,0,none⟩:Addr).add n=⟨g,n,none⟩:=fun n=>by unfold Addr.add;split <;> simp_all
  refine⟨_,_,by rw[he,hlen,hN],fun i hi=>?_,fun x hx n=>?_⟩
  ·obtain⟨x,_,hx,e1⟩:=toksL_at hi;refine⟨_,rfl,?_⟩;rw[hadd,e1];exact⟨hc i 0 x _ hx rfl,hc i 1 x _ hx rfl,hc i 2 x _ hx rfl,hc i 3 x _ hx rfl,hc i 4 x _ hx rfl,hc i 5 x _ hx rfl⟩
  ·cases hx;rw[hadd];exact⟨hb,hl⟩
end Go.Proofs.YtkpboalccpancaaGreatDoor
