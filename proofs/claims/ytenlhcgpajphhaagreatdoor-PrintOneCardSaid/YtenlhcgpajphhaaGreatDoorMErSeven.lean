import Derived.Test.YtenlhcgpajphhaaGreatDoorMErNext
import Derived.Deep.AppendLies
import Derived.Deep.RegionLaw
namespace Go.Proofs.YtenlhcgpajphhaaGreatDoor
open Go.RowKit Go.Shelf
set_option maxRecDepth 100000
set_option linter.all false
structure WSt (w wr:World) (p cap:Nat) (a:Option Addr) (L:List TokE) (K X q:Nat) (kv:Value) (ks:List Nat):Prop where
 rst:RSt wr p cap a L q (-1)
 box:Bx wr X 205 (trC (qdU K 0 0) kv)
 row:wr.ownsRow (X+1) 182 1 kv ks.length (ks.map jc4)
 xlo:w.heap.size≤X
 bel:Below p w wr
 oth:Oth p w wr
 plt:p<w.heap.size
theorem qp0 (w:World) (v:Value) (t:TypeId):∀ j u,[v][j]?=some u→(w.alloc (.cells #[v] t)).cell? ((⟨w.heap.size,0,none⟩:Addr).add j)=some u:=qc7 w [v] t
def Rob (wr:World) (X s:Nat) (t:Ex) (qa:Nat):Prop:=∀ w',wr.heap.size≤w'.heap.size→(∀ j,X<j→j<wr.heap.size→j≠s→w'.heap[j]?=wr.heap[j]?)→qmI w' X t qa
def Wd (w:World) (p cap:Nat) (a:Option Addr) (L:List TokE) (K X k:Nat) (i:Int) (kv:Value) (wr:World):Prop :=
 (i=0∧kv=.slice none 0 0∧WSt w wr p cap a L K X (k+1) kv []) ∨
 (i=1∧∃ t q qa s c,isM (gL L (k+1)) [40]=true∧Rd (gL L) (.lvl 1) (k+2) (.ok t q)∧cnt t+(k+2)≤q∧kv=.slice (some ⟨s,0,none⟩) 1 c∧WSt w wr p cap a L K X q kv [qa]∧s<wr.heap.size∧Rob wr X s t qa) ∨
 (i=2∧wdN K≠1∧∃ t q1 u q qa qb s c,isM (gL L (k+1)) [40]=true∧Rd (gL L) (.lvl 1) (k+2) (.ok t q1)∧isM (gL L q1) [44]=true∧Rd (gL L) (.lvl 1) (q1+1) (.ok u q)∧cnt t+cnt u+(k+3)≤q ∧
  kv=.slice (some ⟨s,0,none⟩) 2 c∧WSt w wr p cap a L K X q kv [qa,qb]∧qmI wr X t qa∧qmI wr X u qb)
end Go.Proofs.YtenlhcgpajphhaaGreatDoor
