import Derived.Test.YtenlhcgpajphhaaGreatDoorMDrKeyword
import Derived.Test.YtenlhcgpajphhaaGreatDoorMEpScan
import Derived.Deep.RegionLaw
namespace Go.Proofs.YtenlhcgpajphhaaGreatDoor
open Go.RowKit Go.Shelf
set_option maxRecDepth 100000
set_option linter.all false
theorem qpD {nm:ByteArray} {lo:Nat} {w:World} {v:Value} {l:List Int} {cs:List Value} (h:Lst qrM 3 1 lo w v l cs):Itm qk7 lo w [.string nm,v] ⟨nm,l⟩:=by
 obtain⟨F,h1,h2⟩:=h;exact⟨F,⟨v,cs,rfl,h1⟩,h2⟩
theorem q7X {fn:Func} {p:Tmp} {tmps:Array Value} {W:World} {g:Nat} {u v:Value} (hf:fn.results=#[.cell p 78]) (hp:tmps.getD p undef=.pointer (some ⟨g,0,none⟩)) (h:Bx W g 78 [u,v]) :
  (results fn tmps).run Tryz.prog W=.ok (.agg #[u,v]) W:=results_cell_row hf _ _ g 78 _ (0,0) _ hp h Tryz.underlying78 rfl (by kernel_rfl)
def TagP (p cap n:Nat) (a:Option Addr) (L:List TokE) (R:S8 × TagE) (w:World) (e:Ending) (w':World):Prop :=
 ∃ v,e=.returned (.agg #[.string R.2.nm,v])∧Itm qk7 w.heap.size w' [.string R.2.nm,v] R.2∧St8 p cap n a L R.1 w w'
theorem jbC:(Tryz.prog.info? 9).map (fun i=>(i.zero,i.size,i.bytes))=some (some (.string ⟨#[]⟩),1,16):=by kernel_rfl
theorem ql0 {nm:ByteArray} {lo:Nat} {w:World} {v:Value} {l:List ByteArray} {cs:List Value} (h:Lst qs7 9 1 lo w v l cs):Itm qdS lo w [.string nm,v] ⟨nm,l⟩:=by
 obtain⟨F,h1,h2⟩:=h;exact⟨F,⟨v,cs,rfl,h1⟩,h2⟩
theorem q4B {fn:Func} {p:Tmp} {tmps:Array Value} {W:World} {g:Nat} {u v:Value} (hf:fn.results=#[.cell p 95]) (hp:tmps.getD p undef=.pointer (some ⟨g,0,none⟩)) (h:Bx W g 95 [u,v]) :
  (results fn tmps).run Tryz.prog W=.ok (.agg #[u,v]) W:=results_cell_row hf _ _ g 95 _ (0,0) _ hp h Tryz.underlying95 rfl (by kernel_rfl)
def PartP (p cap n:Nat) (a:Option Addr) (L:List TokE) (R:S8 × PartE) (w:World) (e:Ending) (w':World):Prop :=
 ∃ v,e=.returned (.agg #[.string R.2.tg,v])∧Itm qdS w.heap.size w' [.string R.2.tg,v] R.2∧St8 p cap n a L R.1 w w'
end Go.Proofs.YtenlhcgpajphhaaGreatDoor
