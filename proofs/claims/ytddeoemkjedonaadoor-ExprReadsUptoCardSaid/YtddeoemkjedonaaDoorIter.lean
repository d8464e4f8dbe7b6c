/- The iterator behind tokens: every round is told the next token. -/
import Derived.Test.YtddeoemkjedonaaDoorRows
import Derived.Test.YtddeoemkjedonaaDoorMNextPlain
import Derived.Test.YtddeoemkjedonaaDoorNextAll
import Derived.RangeFuncNested
import Derived.RangeFuncBound
import Derived.RangeFuncCalls
import Derived.RangeFuncLeaves
import Derived.RangeFuncFrom
import Derived.Shelf.Abstract
import Derived.Shelf.RegionOpen
import Derived.WalkKit
import Derived.OwnWalkIn
import Derived.TacticsInMore
import Derived.LoopNIn
import Derived.LoopIn
import Derived.Lib.Hide
namespace Go.Proofs.YtddeoemkjedonaaDoor
open Go.RowKit Go.Shelf
attribute [local go_sem] Oper.semAt_some
set_option maxRecDepth 100000

def encT (x : Tok × Nat) : Array Value := #[tokVal x.1, .int .i64 x.2]

theorem seqF_bad {f : Nat} {l : List UInt8} {i : Nat} (h : (nextF l i).2 ≠ 0) : seqF (f + 1) l i = [nextF l i] := by rw [seqF, if_pos h]
theorem seqF_end {f : Nat} {l : List UInt8} {i : Nat} (h : (nextF l i).2 = 0) (hk : (nextF l i).1.kind = 0) : seqF (f + 1) l i = [] := by rw [seqF, if_neg (fun e => e h), if_pos hk]
theorem seqF_on {f : Nat} {l : List UInt8} {i : Nat} (h : (nextF l i).2 = 0) (hk : (nextF l i).1.kind ≠ 0) : seqF (f + 1) l i = nextF l i :: seqF f l ((nextF l i).1.at_ + (nextF l i).1.size) := by rw [seqF, if_neg (fun e => e h), if_neg hk]

end Go.Proofs.YtddeoemkjedonaaDoor
