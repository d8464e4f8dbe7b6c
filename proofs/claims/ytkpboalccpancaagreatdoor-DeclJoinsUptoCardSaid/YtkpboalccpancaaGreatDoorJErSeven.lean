import Derived.Test.YtkpboalccpancaaGreatDoorJMErNext
namespace Go.Proofs.YtkpboalccpancaaGreatDoor
open Go.RowKit Go.Shelf
set_option maxRecDepth 100000
set_option linter.all false
end Go.Proofs.YtkpboalccpancaaGreatDoor
