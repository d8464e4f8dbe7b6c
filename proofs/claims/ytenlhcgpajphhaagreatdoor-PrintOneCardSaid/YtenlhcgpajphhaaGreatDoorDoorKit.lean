import Derived.Test.YtenlhcgpajphhaaGreatDoorRows
import Derived.Test.YtenlhcgpajphhaaGreatDoorMQuotePlain
import Derived.Test.YtenlhcgpajphhaaGreatDoorMWhole
import Derived.ProofKit
import Derived.LaidMore
import Derived.OpenShut
import Derived.ShutString
import Derived.ChangeOld
import Derived.Below
import Derived.SizedLaws
import Derived.Stop.Joined
namespace Go.Proofs.YtenlhcgpajphhaaGreatDoor
open Go.ChangeShapes Go.WideShapes Go.ChangeAt Go.RowKit
set_option linter.all false
theorem own:ownKnob Tryz.prog.godebug=none:=by kernel_rfl
theorem q8I:laidOutB Tryz.prog=true:=by kernel_rfl
theorem gSyn:Tryz.prog.globalNamed "strconv.ErrSyntax"=some 3:=by kernel_rfl
theorem gRan:Tryz.prog.globalNamed "strconv.ErrRange"=some 4:=by kernel_rfl
theorem tSyn:(Tryz.prog.globals[3]?).map (·.type)=some 236:=by kernel_rfl
theorem tRan:(Tryz.prog.globals[4]?).map (·.type)=some 236:=by kernel_rfl
theorem qmH {W:World} {name:String} {g:Nat} {cs:Array Value} {d:DataW Unit} {u:String} {fuel:Nat} {p:List MemPlace} (hg:Tryz.prog.globalNamed name=some g) (hv:W.var? Tryz.prog name=some cs)
  {enc:TypeId × Value→Unit} {base:Nat} {sp:Nat→Bool} (h:DataW.trod enc Tryz.prog W base sp false fuel 236 cs.toList=some (.iface u d,p)):∃ tp v,W.cell? ⟨g,0,none⟩=some (.iface tp v):=by
 obtain⟨f',tp,v,hcs,_,_⟩:=iface_of_trod Tryz.underlying236 h;have:=World.var?_cell hg hv 0;rw[Array.eq_one_of_toList hcs] at this;exact⟨tp,v,by simpa using this⟩
theorem qrQ {W:World} (h:laidMetH Tryz.prog Rows.declReadsRow.laid W):qq3 W:=by
 rw[MakeChecks.laidMetH_plain _ _ _ (by kernel_rfl)] at h;obtain⟨ps,⟨_,_,_,_,_,_,_,_,_,_,⟨_,_,_,_,_,_,_,_,_,_,⟨_,_,_,_,_,_,_,_,_,_,⟨g3,t3,cs3,f3,p3,q3,hg3,ht3,hv3,hd3,⟨g4,t4,cs4,f4,p4,q4,hg4,ht4,hv4,hd4,_,_⟩,_⟩,_⟩,_⟩,_⟩,_,_⟩:=h;obtain rfl:=Option.some.inj (gRan.symm.trans hg3);obtain rfl:=Option.some.inj (gSyn.symm.trans hg4);obtain rfl:=Option.some.inj (tRan.symm.trans ht3);obtain rfl:=Option.some.inj (tSyn.symm.trans ht4);exact⟨qmH gSyn hv4 hd4,qmH gRan hv3 hd3⟩
theorem q5E (os:Os) (args:Array Value):laidMetH Tryz.prog Rows.declReadsRow.laid ((World.doorLaid Tryz.prog 400 os).forCall (fun _ _=>0) ⟨#[],args,[]⟩).memory :=
 laidMetH_of_parts3 (fuel:=8) (laidMet_of_run' 8 (by kernel_rfl) (by kernel_rfl)) (by kernel_rfl) (by kernel_rfl)
theorem jc9 {x:Int} (h:(Lit.int .u8 x).wf=true):0≤x∧x<256:=by
 have:=bounds_u8 h;omega
theorem qwP {w:World} {x:Addr} {len cap:Nat} {zs:List Int} (hl:len≤cap) (hm:cap≤maxLen) (hz:zs.length=cap) (hc:∀ i,i<zs.length→w.cell? (x.add i)=some (.int .u8 (zs.getD i 0))) (hw:∀ n ∈ zs,(Lit.int .u8 n).wf=true) :
  Txt w (some x) len cap ((zs.take len).map fun n=>UInt8.ofNat n.toNat):=by
 refine⟨by simp;omega,hl,hm,.inr ⟨x,rfl,fun i hi=>?_⟩⟩;have hi2:i<len:=by simp at hi;omega
 rw[hc i (by omega)];have hmem:zs[i]'(by omega) ∈ zs:=List.getElem_mem _;have hb:=hw _ hmem;have hb2:0≤zs[i]'(by omega)∧zs[i]'(by omega)<256:=jc9 hb;simp only[List.getElem_map,List.getElem_take];rw[List.getD_eq_getElem?_getD,List.getElem?_eq_getElem (by omega)];simp only[Option.getD_some];have e:((UInt8.ofNat (zs[i]'(by omega)).toNat).toNat:Int)=zs[i]'(by omega):=by
  simp;omega
 rw[e]
theorem jbS:Tryz.prog.bytesOf 5=1:=by kernel_rfl
end Go.Proofs.YtenlhcgpajphhaaGreatDoor
