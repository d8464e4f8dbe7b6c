import Derived.Test.YtenlhcgpajphhaaGreatDoorCards
import Derived.Test.YtenlhcgpajphhaaGreatDoorTie
import Derived.Test.YtenlhcgpajphhaaGreatDoorDoorKit
import Derived.Test.YtenlhcgpajphhaaGreatDoorMEbLeaf
import Derived.SevenTiedAt
namespace Go.Proofs.YtenlhcgpajphhaaGreatDoor
open Go.ChangeShapes Go.WideShapes Go.ChangeAt Go.RowKit
open Go.ChangeMaps (open_string shut_string)
set_option linter.all false
theorem q3O {α:Type} {xs:List α} (h:xs.length=3):∃ a b c,xs=[a,b,c]:=by
 match xs,h with
 | [a,b,c],_=>exact⟨a,b,c,rfl⟩
set_option maxRecDepth 100000 in
theorem qzN {H:Type} {enc:TypeId × Value→H} {W:World} {base fuel:Nat} {sp:Nat→Bool} {held:Bool} {cs:List Value} {s:List UInt8} {a c:Int} {x:DataW H × List MemPlace} (hx:x.1=.agg [.lit (.string s),.lit (.int .i64 a),.lit (.int .i64 c)])
  (h:DataW.trod enc Tryz.prog W base sp held fuel 218 cs=some x):cs[0]?=some (.string ⟨s.toArray⟩)∧cs[1]?=some (.int .i64 a)∧cs[2]?=some (.int .i64 c):=by
 have z9:Tryz.prog.cellsOf 9=1:=by kernel_rfl
 have z3:Tryz.prog.cellsOf 3=1:=by kernel_rfl
 obtain⟨xs,m,rfl,rfl,hl,hxl,hf⟩:=DataW.trod_struct Tryz.underlying218 h;have h0:DataW.trod enc Tryz.prog W base sp held m 9 ((cs.drop 0).take (Tryz.prog.cellsOf 9))=xs[0]?:=hf 0 _ rfl;have h1:DataW.trod enc Tryz.prog W base sp held m 3 ((cs.drop 1).take (Tryz.prog.cellsOf 3))=xs[1]?:=hf 1 _ rfl;have h2:DataW.trod enc Tryz.prog W base sp held m 3 ((cs.drop 2).take (Tryz.prog.cellsOf 3))=xs[2]?:=hf 2 _ rfl;rw[z9] at h0;rw[z3] at h1 h2;simp only[DataW.agg.injEq] at hx;obtain⟨y0,y1,y2,rfl⟩:=q3O hxl
 ·clear hf hl hxl;simp only[List.map_cons,List.map_nil,List.cons.injEq,and_true] at hx;obtain⟨q0,q1,q2⟩:=hx;obtain⟨b,e0,e0',_⟩:=DataW.trod_string Tryz.underlying9 h0;obtain⟨n1,e1,e1',_⟩:=DataW.trod_int Tryz.underlying3 h1;obtain⟨n2,e2,e2',_⟩:=DataW.trod_int Tryz.underlying3 h2;subst e0' e1' e2';simp only[DataW.lit.injEq,Lit.string.injEq,Lit.int.injEq,true_and] at q0 q1 q2;subst q0 q1 q2;refine⟨?_,?_,?_⟩
  ·have:=congrArg (·[0]?) e0
   simpa [List.getElem?_take,List.getElem?_drop] using this
  ·have:=congrArg (·[0]?) e1
   simpa [List.getElem?_take,List.getElem?_drop] using this
  ·have:=congrArg (·[0]?) e2
   simpa [List.getElem?_take,List.getElem?_drop] using this
theorem gSha:Tryz.prog.globalNamed "chordmail/expr.shapes"=some 0:=by kernel_rfl
theorem tSha:(Tryz.prog.globals[0]?).map (·.type)=some 219:=by kernel_rfl
theorem qt9:Rows.laid_chordmail_expr_shapes (H:=Unit)=.agg ((List.range 27).map fun i=>.agg [.lit (.string (qcF i)),.lit (.int .i64 (qb3 i:Nat)),.lit (.int .i64 (qeJ i:Nat))]):=rfl
theorem qqH {W:World} {cs:Array Value} {enc:TypeId × Value→Unit} {base fuel:Nat} {sp:Nat→Bool} {held:Bool} {p:List MemPlace} (hv:W.var? Tryz.prog "chordmail/expr.shapes"=some cs)
  (h:DataW.trod enc Tryz.prog W base sp held fuel 219 cs.toList=some (Rows.laid_chordmail_expr_shapes,p)):Tab W:=by
 have z:Tryz.prog.cellsOf 218=3:=by kernel_rfl
 obtain⟨xs,m,rfl,hx,hl,hxl,hf⟩:=DataW.trod_array Tryz.underlying219 h;rw[qt9] at hx;simp only[Prod.mk.injEq,DataW.agg.injEq] at hx;intro i hi;have hfi:=hf i hi;rw[z] at hfi;have hxi:xs[i]?=some xs[i]:=List.getElem?_eq_getElem (by omega);rw[hxi] at hfi;have hx1:(xs[i]'(by omega)).1=.agg [.lit (.string (qcF i)),.lit (.int .i64 (qb3 i:Nat)),.lit (.int .i64 (qeJ i:Nat))]:=by
  have:=congrArg (·[i]?) hx.1;simp only[List.getElem?_map,List.getElem?_range hi,hxi,Option.map_some,Option.some.injEq] at this;exact this.symm
 obtain⟨h0,h1,h2⟩:=qzN hx1 hfi;have hc:=fun j=>World.var?_cell gSha hv j;refine⟨?_,?_,?_⟩
 ·rw[hc];simpa [List.getElem?_take,List.getElem?_drop] using h0
 ·rw[hc];simpa [List.getElem?_take,List.getElem?_drop] using h1
 ·rw[hc];simpa [List.getElem?_take,List.getElem?_drop] using h2
theorem qd4 {P:Program} {x:String × DataW Unit} {l:List (String × DataW Unit)} {w:World} (h:laidMet P (x :: l) w):laidMet P l w:=by
 obtain⟨ps,⟨g,t,cs,f,p,q,hg,ht,hv,hd,hr,rfl⟩,hn,hall⟩:=h;exact⟨q,hr,(List.nodup_append.1 hn).2.1,fun b off hm=>hall b off (List.mem_append_right _ hm)⟩
theorem qsI {W:World} (h:laidMetH Tryz.prog Rows.declReadsRow.laid W):Tab W:=by
 rw[MakeChecks.laidMetH_plain _ _ _ (by kernel_rfl)] at h;obtain⟨ps,⟨g,t,cs,f,p,q,hg,ht,hv,hd,_,_⟩,_⟩:=qd4 (qd4 (qd4 (qd4 (qd4 h))));obtain rfl:=Option.some.inj (gSha.symm.trans hg);obtain rfl:=Option.some.inj (tSha.symm.trans ht);exact qqH hv hd
theorem q3T {W:World} (h:Tab W):0<W.heap.size:=World.block_lt_of_cell? W _ (h 0 (by omega)).1
end Go.Proofs.YtenlhcgpajphhaaGreatDoor
