import Derived.Test.YtenlhcgpajphhaaGreatDoorMRefPart
import Derived.Test.YtenlhcgpajphhaaGreatDoorNext
import Derived.Test.YtenlhcgpajphhaaGreatDoorMTextWalks
import Derived.Test.YtenlhcgpajphhaaGreatDoorMNextPlain
import Derived.Deep.Cut
namespace Go.Proofs.YtenlhcgpajphhaaGreatDoor
open Go.RowKit
set_option maxRecDepth 100000
set_option linter.all false
def RTok (t:Tok × Nat) (w:World) (e:Ending) (w':World):Prop:=e=.returned (.tuple #[tokVal t.1,.int .i64 t.2])∧Below w.heap.size w w'
def realC (m x:Nat) (below:Bool):Option Nat :=
 if 9007199254740992≤m∨(if below=true then 1074 else 1023)<x∨(m % 2=0∧m≠0)∨(m=0∧x≠0)∨(below=true∧x=0) then none
 else if below=true then some (realBits m (-(x:Int))) else if m=0∨(m.log2:Int)+1+x≤1024 then some (realBits m x) else none
def realT (A N M:Nat) (D1 D2:List UInt8) (below:Bool):Tok × Nat :=
 match refW D1,refW D2 with
 | some m,some x=>(match realC m x below with|some b=>(⟨3,[],0,b,A,N+M⟩,0)|none=>(zeroTok,12))
 | _,_=>(zeroTok,12)
theorem tw_digits (l:List UInt8) (A:Nat):∀ c ∈ (l.drop A).take (tw digitB l A),48≤c.toNat∧c.toNat≤57:=by
 unfold tw;have h:(l.drop A).take ((l.drop A).takeWhile digitB).length=(l.drop A).takeWhile digitB:=by
  have:=List.prefix_iff_eq_take.1 (List.takeWhile_prefix digitB (l:=l.drop A));exact this.symm
 rw[h];intro c hc;have hall:((l.drop A).takeWhile digitB).all digitB=true:=List.all_takeWhile;have:=List.all_eq_true.1 hall c hc
 simpa [digitB] using this
theorem tw_end (l:List UInt8) (A:Nat) (hA:A≤l.length):A+tw digitB l A≤l.length:=by
 have:=tw_le digitB l A;omega
def followsB (l:List UInt8) (L:Nat):Bool:=wordB (bAt l L)
def noughtsB (l:List UInt8) (A N M H:Nat):Bool:=(bAt l A==48 && decide (1<N)) || (decide (H+1<M) && bAt l (A+N+H)==48)
def refNum (l:List UInt8) (A:Nat):Tok × Nat :=
 if (followsB l (A+tw digitB l A+(endF l (A+tw digitB l A)).1) || noughtsB l A (tw digitB l A) (endF l (A+tw digitB l A)).1 (endF l (A+tw digitB l A)).2)=true then (zeroTok,12)
 else if 0<(endF l (A+tw digitB l A)).1 then realT A (tw digitB l A) (endF l (A+tw digitB l A)).1 ((l.drop A).take (tw digitB l A)) ((l.drop (A+tw digitB l A+(endF l (A+tw digitB l A)).2)).take ((endF l (A+tw digitB l A)).1-(endF l (A+tw digitB l A)).2)) ((endF l (A+tw digitB l A)).2==2)
 else match refW ((l.drop A).take (tw digitB l A)) with|some v=>(⟨2,[],v,0,A,tw digitB l A⟩,0)|none=>(zeroTok,12)
def FolFacts (w:World) (b o n L:Nat) (f:Bool):Prop :=
 (decide (L<n)=false∧f=false)∨(decide (L<n)=true∧L<n∧∃ c:UInt8,(∀ W:World,(∀ i,W.cell? ⟨b,i,none⟩=w.cell? ⟨b,i,none⟩)→W.cell? ⟨b,o+L,none⟩=some (.int .u8 (c.toNat:Int))) ∧
  ((letterB c=true∧f=true)∨(letterB c=false∧digitB c=true∧f=true)∨(letterB c=false∧digitB c=false∧((c.toNat:Int)==95)=true∧f=true)∨(letterB c=false∧digitB c=false∧((c.toNat:Int)==95)=false∧f=false)))
def NouFacts (w:World) (b o n A N M H:Nat) (f:Bool):Prop :=
 ∃ c:UInt8,w.cell? ⟨b,o+A,none⟩=some (.int .u8 (c.toNat:Int)) ∧
  ((((c.toNat:Int)==48)=true∧decide (1<N)=true∧f=true) ∨
  (((((c.toNat:Int)==48)=true∧decide (1<N)=false)∨((c.toNat:Int)==48)=false) ∧
   ((decide (H+1<M)=false∧f=false)∨(decide (H+1<M)=true∧H+1<M∧∃ d:UInt8,w.cell? ⟨b,o+(A+N+H),none⟩=some (.int .u8 (d.toNat:Int))∧((d.toNat:Int)==48)=f))))
end Go.Proofs.YtenlhcgpajphhaaGreatDoor
