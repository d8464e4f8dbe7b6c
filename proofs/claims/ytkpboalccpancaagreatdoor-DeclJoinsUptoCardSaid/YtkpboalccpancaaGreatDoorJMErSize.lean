import Derived.Test.YtkpboalccpancaaGreatDoorJMErWord
import Derived.Test.YtkpboalccpancaaGreatDoorJMEbPlace
namespace Go.Proofs.YtkpboalccpancaaGreatDoor
open Go.RowKit Go.Shelf
set_option maxRecDepth 100000
set_option linter.all false
def LaidD (B:Nat) (ns:List Nd) (t:Ex) (v:Value) (w:World) (e:Ending) (w':World):Prop :=
 ∃ g c,e=.returned (.slice (some ⟨g,0,none⟩) (ns.length+cnt t) c)∧w'.ownsRow B 104 9 (.slice (some ⟨g,0,none⟩) (ns.length+cnt t) c) (ns.length+cnt t) (flatN (ns++lay ns.length t))∧(v.ownBlock=some g∨w.heap.size≤g) ∧
  w.heap.size≤w'.heap.size∧(∀ k,k<w.heap.size→v.ownBlock≠some k→w'.heap[k]?=w.heap[k]?)∧Below B w w'
structure LSt (B:Nat) (w:World) (v:Value) (W:World) (n:Nd) (v':Value) (xs:List Nd):Prop where
 row:W.ownsRow B 104 9 v' xs.length (flatN xs)
 box:Bx W w.heap.size 104 (ndCells n)
 nb:v'.ownBlock≠some w.heap.size
 lies:∀ g,v'.ownBlock=some g→v.ownBlock=some g∨w.heap.size≤g
 far:∀ k,k<w.heap.size→v.ownBlock≠some k→W.heap[k]?=w.heap[k]?
 bel:Below B w W
 base:B≤w.heap.size
end Go.Proofs.YtkpboalccpancaaGreatDoor
