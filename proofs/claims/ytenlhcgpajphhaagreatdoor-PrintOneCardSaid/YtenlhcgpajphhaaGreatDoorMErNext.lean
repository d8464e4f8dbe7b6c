import Derived.Test.YtenlhcgpajphhaaGreatDoorMTokSame
import Derived.Test.YtenlhcgpajphhaaGreatDoorMEbPlace
import Derived.Test.YtenlhcgpajphhaaGreatDoorMEbSmall
import Derived.Deep.LoopGhost
namespace Go.Proofs.YtenlhcgpajphhaaGreatDoor
open Go.RowKit Go.Shelf
set_option maxRecDepth 100000
set_option linter.all false
def tokV (t:TokE):Value:=.agg #[.int .i64 t.kd,.string t.tx,.int .i64 t.iv,.float .f64 t.rl,.int .i64 t.pl,.int .i64 t.sz]
def jcC (t:TokE):Bool:=match clT t with|.no=>false|_=>true
def zTok:List Value:=[.int .i64 0,.string ⟨#[]⟩,.int .i64 0,.float .f64 0,.int .i64 0,.int .i64 0]
def tkC (t:TokE):List Value:=[.int .i64 t.kd,.string t.tx,.int .i64 t.iv,.float .f64 t.rl,.int .i64 t.pl,.int .i64 t.sz]
theorem q2L {W:World} {g:Nat} {T:TypeId} {cs:List Value} (h:Bx W g T cs):Bx W.drew g T cs:=h
def NextD (L:List TokE) (k:Nat) (w:World) (e:Ending) (w':World):Prop :=
 ((gL L k=.no∧e=.returned (.tuple #[.agg zTok.toArray,.bool false]))∨(gL L k≠.no∧k<L.length∧e=.returned (.tuple #[.agg (tkC (L.getD k default)).toArray,.bool true])))∧Below w.heap.size w w'
def MustD (p cap k:Nat) (a:Option Addr) (L:List TokE) (m:List UInt8) (w:World) (e:Ending) (w':World):Prop :=
 ((isM (gL L k) m=false∧e=.returned (.bool false)∧RSt w' p cap a L k k)∨(isM (gL L k) m=true∧e=.returned (.bool true)∧RSt w' p cap a L (k+1) (-1)))∧Below p w w'∧Oth p w w'
def RdT (L:List TokE) (X:Nt) (k p cap:Nat) (a:Option Addr) (w:World) (e:Ending) (w':World):Prop :=
 ((∃ q k',Rd (gL L) X k (.bad q)∧e=.returned (.pointer none)∧RSt w' p cap a L k' (q:Nat)) ∨
  ∃ t q qa,Rd (gL L) X k (.ok t q)∧cnt t+k≤q∧e=.returned (.pointer (some ⟨qa,0,none⟩))∧RSt w' p cap a L q (-1)∧qmI w' (w.heap.size-1) t qa)∧Below p w w'∧Oth p w w'
end Go.Proofs.YtenlhcgpajphhaaGreatDoor
