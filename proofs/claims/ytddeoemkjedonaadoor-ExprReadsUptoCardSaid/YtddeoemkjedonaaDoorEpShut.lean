/- Parse's deferred function: what is given up is told. -/
import Derived.Test.YtddeoemkjedonaaDoorEbMay
import Derived.Recover
namespace Go.Proofs.YtddeoemkjedonaaDoor
open Go.RowKit Go.Shelf
set_option maxRecDepth 100000

def placeOf (L : List TokE) (n q : Nat) : Int := if q = L.length then n else (L.getD q default).pl
theorem cell_set_far {W : World} {b c : Nat} {i j : Nat} {v : Value} {x : Option Value} (h : b ≠ c) (h2 : W.cell? ⟨c, j, none⟩ = x) : (W.setCell ⟨b, i, none⟩ v).cell? ⟨c, j, none⟩ = x :=
  (World.cell?_setCell_other _ _ _ _ (fun e => h (congrArg Addr.block e))).trans h2
theorem cell_set_fard {W : World} {b c : Nat} {i j : Nat} {v : Value} {x : Option Value} (h : b ≠ c) (h2 : W.cell? ⟨c, j, none⟩ = x) : (W.setCell ⟨b, i, none⟩ v).drew.cell? ⟨c, j, none⟩ = x := cell_set_far h h2
/-- the named results are set -/
def ShutP (B pe pa pf : Nat) (at_ fl : Int) (w w' : World) : Prop :=
  Bx w' pe 27 [.slice none 0 0] ∧ Bx w' pa 3 [.int .i64 at_] ∧ Bx w' pf 28 [.int .i64 fl] ∧ Below B w w'
end Go.Proofs.YtddeoemkjedonaaDoor
