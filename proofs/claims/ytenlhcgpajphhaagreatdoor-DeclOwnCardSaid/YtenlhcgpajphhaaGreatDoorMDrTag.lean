import Derived.Test.YtenlhcgpajphhaaGreatDoorMDrKeyword
import Derived.Test.YtenlhcgpajphhaaGreatDoorMDwExprs
import Derived.Deep.RegionLaw
namespace Go.Proofs.YtenlhcgpajphhaaGreatDoor
open Go.RowKit Go.Shelf
set_option maxRecDepth 100000
set_option linter.all false
theorem itm_tag {nm:ByteArray} {lo:Nat} {w:World} {v:Value} {l:List Int} {cs:List Value} (h:Lst intE 3 1 lo w v l cs):Itm tagE lo w [.string nm,v] ⟨nm,l⟩:=by
 obtain⟨F,h1,h2⟩:=h;exact⟨F,⟨v,cs,rfl,h1⟩,h2⟩
theorem tagRes8 {fn:Func} {p:Tmp} {tmps:Array Value} {W:World} {g:Nat} {u v:Value} (hf:fn.results=#[.cell p 78]) (hp:tmps.getD p undef=.pointer (some ⟨g,0,none⟩)) (h:Bx W g 78 [u,v]) :
  (results fn tmps).run Tryz.prog W=.ok (.agg #[u,v]) W:=results_cell_row hf _ _ g 78 _ (0,0) _ hp h Tryz.underlying78 rfl (by kernel_rfl)
def TagP (p cap n:Nat) (a:Option Addr) (L:List TokE) (R:S8 × TagE) (w:World) (e:Ending) (w':World):Prop :=
 ∃ v,e=.returned (.agg #[.string R.2.nm,v])∧Itm tagE w.heap.size w' [.string R.2.nm,v] R.2∧St8 p cap n a L R.1 w w'
theorem itm_part {nm:ByteArray} {lo:Nat} {w:World} {v:Value} {l:List ByteArray} {cs:List Value} (h:Lst strE 9 1 lo w v l cs):Itm partE lo w [.string nm,v] ⟨nm,l⟩:=by
 obtain⟨F,h1,h2⟩:=h;exact⟨F,⟨v,cs,rfl,h1⟩,h2⟩
theorem partRes8 {fn:Func} {p:Tmp} {tmps:Array Value} {W:World} {g:Nat} {u v:Value} (hf:fn.results=#[.cell p 95]) (hp:tmps.getD p undef=.pointer (some ⟨g,0,none⟩)) (h:Bx W g 95 [u,v]) :
  (results fn tmps).run Tryz.prog W=.ok (.agg #[u,v]) W:=results_cell_row hf _ _ g 95 _ (0,0) _ hp h Tryz.underlying95 rfl (by kernel_rfl)
def PartP (p cap n:Nat) (a:Option Addr) (L:List TokE) (R:S8 × PartE) (w:World) (e:Ending) (w':World):Prop :=
 ∃ v,e=.returned (.agg #[.string R.2.tg,v])∧Itm partE w.heap.size w' [.string R.2.tg,v] R.2∧St8 p cap n a L R.1 w w'
end Go.Proofs.YtenlhcgpajphhaaGreatDoor
