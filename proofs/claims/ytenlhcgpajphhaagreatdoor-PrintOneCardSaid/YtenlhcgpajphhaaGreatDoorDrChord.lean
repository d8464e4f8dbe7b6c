import Derived.Test.YtenlhcgpajphhaaGreatDoorMDpTag
import Derived.Deep.RegionLaw
import Derived.Deep.DeepCutAuto
namespace Go.Proofs.YtenlhcgpajphhaaGreatDoor
open Go.RowKit Go.Shelf
set_option maxRecDepth 100000
set_option linter.all false
noncomputable def qiX (L:List TokE) (n:Nat) (c:S8):S8 × Option Ex:=if isB L c ⟨#[119,104,101,110]⟩ then qaY L n (qa6 c) else (c,none)
end Go.Proofs.YtenlhcgpajphhaaGreatDoor
