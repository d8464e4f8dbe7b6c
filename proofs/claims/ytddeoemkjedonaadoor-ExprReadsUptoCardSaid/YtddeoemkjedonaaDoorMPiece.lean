/- The walks of markSize, name, whole. -/
import Derived.Test.YtddeoemkjedonaaDoorRows
import Derived.Test.YtddeoemkjedonaaDoorMQuotePlain
import Derived.Test.YtddeoemkjedonaaDoorMTextWalks
import Derived.Test.YtddeoemkjedonaaDoorMScope
import Derived.Test.YtddeoemkjedonaaDoorShelf
import Derived.WalkKit
import Derived.WalkSpells
import Derived.WalkLawsBesides
import Derived.Lib.Hide
import Derived.Test.YtddeoemkjedonaaDoorPart
namespace Go.Proofs.YtddeoemkjedonaaDoor
open Go.RowKit
set_option maxRecDepth 100000
theorem mark_index (c : UInt8) : decide (0 ≤ Lib.indexByte marksText c) = oneMark c :=
  all_u8 (fun c => decide (0 ≤ Lib.indexByte marksText c) = oneMark c) (by decide +kernel) c

end Go.Proofs.YtddeoemkjedonaaDoor
/- The walk of unquote. -/
namespace Go.Proofs.YtddeoemkjedonaaDoor
open Go.RowKit
set_option maxRecDepth 100000

def lenOf : Value → Nat
  | .slice _ n _ => n
  | _ => 0
def unquoteV : Option (List UInt8) → Value
  | some s => .tuple #[.string ⟨s.toArray⟩, .int .i64 0]
  | none => .tuple #[.string ⟨#[]⟩, .int .i64 11]

/-- what holds at the loop's head -/
def UnqRel (w : World) (l : List UInt8) (said rest : Value) (wr : World) : Prop :=
  ∃ (sa ra : Option Addr) (sc m c f : Nat) (acc r : List UInt8), said = .slice sa acc.length sc ∧ rest = .slice ra m c ∧ Txt w ra m c r ∧ wr.ownsRow w.heap.size 5 1 (.slice sa acc.length sc) acc.length (u8s acc) ∧ Below w.heap.size w wr ∧
    r.length < f ∧ acc.length + r.length ≤ l.length ∧ unqF (l.length + 1) (l.drop 1) = (unqF f r).map (acc ++ ·)

end Go.Proofs.YtddeoemkjedonaaDoor
