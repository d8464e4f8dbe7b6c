import Derived.Test.YtenlhcgpajphhaaGreatDoorMVReal
import Derived.Test.YtenlhcgpajphhaaGreatDoorMPiece
import Derived.Deep.QuietTactic
import Derived.BigQuiet
import Derived.Laws.FloatArith
namespace Go.Proofs.YtenlhcgpajphhaaGreatDoor
open Go.RowKit
set_option maxRecDepth 100000
set_option linter.all false
def RPart (l:List UInt8) (A:Nat) (w:World) (e:Ending) (w':World):Prop:=e=.returned (.tuple #[.int .u8 (qaQ (l.drop A)).1.toNat,.int .i64 (qaQ (l.drop A)).2])∧∃ k,w'=w.drewN k
end Go.Proofs.YtenlhcgpajphhaaGreatDoor
