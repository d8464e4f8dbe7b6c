import Derived.Test.YtenlhcgpajphhaaGreatDoorMRefPart
import Derived.Test.YtenlhcgpajphhaaGreatDoorMVReal
import Derived.Test.YtenlhcgpajphhaaGreatDoorMTextWalks
import Derived.Test.YtenlhcgpajphhaaGreatDoorMNextPlain
import Derived.Deep.Cut
namespace Go.Proofs.YtenlhcgpajphhaaGreatDoor
open Go.RowKit
set_option maxRecDepth 100000
set_option linter.all false
def RTok (t:Tok × Nat) (w:World) (e:Ending) (w':World):Prop:=e=.returned (.tuple #[qk6 t.1,.int .i64 t.2])∧Below w.heap.size w w'
def qx7 (m x:Nat) (below:Bool):Option Nat :=
 if 9007199254740992≤m∨(if below=true then 1074 else 1023)<x∨(m % 2=0∧m≠0)∨(m=0∧x≠0)∨(below=true∧x=0) then none
 else if below=true then some (qaA m (-(x:Int))) else if m=0∨(m.log2:Int)+1+x≤1024 then some (qaA m x) else none
def q01 (A N M:Nat) (D1 D2:List UInt8) (below:Bool):Tok × Nat :=
 match qqO D1,qqO D2 with
 | some m,some x=>(match qx7 m x below with|some b=>(⟨3,[],0,b,A,N+M⟩,0)|none=>(qcY,12))
 | _,_=>(qcY,12)
theorem qqD (l:List UInt8) (A:Nat):∀ c ∈ (l.drop A).take (tw qa1 l A),48≤c.toNat∧c.toNat≤57:=by
 unfold tw;have h:(l.drop A).take ((l.drop A).takeWhile qa1).length=(l.drop A).takeWhile qa1:=by
  have:=List.prefix_iff_eq_take.1 (List.takeWhile_prefix qa1 (l:=l.drop A));exact this.symm
 rw[h];intro c hc;have hall:((l.drop A).takeWhile qa1).all qa1=true:=List.all_takeWhile;have:=List.all_eq_true.1 hall c hc
 simpa [qa1] using this
theorem ja6 (l:List UInt8) (A:Nat) (hA:A≤l.length):A+tw qa1 l A≤l.length:=by
 have:=qwR qa1 l A;omega
def qiZ (l:List UInt8) (L:Nat):Bool:=qaJ (bAt l L)
def qgF (l:List UInt8) (A N M H:Nat):Bool:=(bAt l A==48 && decide (1<N)) || (decide (H+1<M) && bAt l (A+N+H)==48)
def qqQ (l:List UInt8) (A:Nat):Tok × Nat :=
 if (qiZ l (A+tw qa1 l A+(qxZ l (A+tw qa1 l A)).1) || qgF l A (tw qa1 l A) (qxZ l (A+tw qa1 l A)).1 (qxZ l (A+tw qa1 l A)).2)=true then (qcY,12)
 else if 0<(qxZ l (A+tw qa1 l A)).1 then q01 A (tw qa1 l A) (qxZ l (A+tw qa1 l A)).1 ((l.drop A).take (tw qa1 l A)) ((l.drop (A+tw qa1 l A+(qxZ l (A+tw qa1 l A)).2)).take ((qxZ l (A+tw qa1 l A)).1-(qxZ l (A+tw qa1 l A)).2)) ((qxZ l (A+tw qa1 l A)).2==2)
 else match qqO ((l.drop A).take (tw qa1 l A)) with|some v=>(⟨2,[],v,0,A,tw qa1 l A⟩,0)|none=>(qcY,12)
def jc8 (w:World) (b o n L:Nat) (f:Bool):Prop :=
 (decide (L<n)=false∧f=false)∨(decide (L<n)=true∧L<n∧∃ c:UInt8,(∀ W:World,(∀ i,W.cell? ⟨b,i,none⟩=w.cell? ⟨b,i,none⟩)→W.cell? ⟨b,o+L,none⟩=some (.int .u8 (c.toNat:Int))) ∧
  ((qa8 c=true∧f=true)∨(qa8 c=false∧qa1 c=true∧f=true)∨(qa8 c=false∧qa1 c=false∧((c.toNat:Int)==95)=true∧f=true)∨(qa8 c=false∧qa1 c=false∧((c.toNat:Int)==95)=false∧f=false)))
def jc7 (w:World) (b o n A N M H:Nat) (f:Bool):Prop :=
 ∃ c:UInt8,w.cell? ⟨b,o+A,none⟩=some (.int .u8 (c.toNat:Int)) ∧
  ((((c.toNat:Int)==48)=true∧decide (1<N)=true∧f=true) ∨
  (((((c.toNat:Int)==48)=true∧decide (1<N)=false)∨((c.toNat:Int)==48)=false) ∧
   ((decide (H+1<M)=false∧f=false)∨(decide (H+1<M)=true∧H+1<M∧∃ d:UInt8,w.cell? ⟨b,o+(A+N+H),none⟩=some (.int .u8 (d.toNat:Int))∧((d.toNat:Int)==48)=f))))
end Go.Proofs.YtenlhcgpajphhaaGreatDoor
