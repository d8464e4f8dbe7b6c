import Derived.Test.YtenlhcgpajphhaaGreatDoorMRefPart
import Derived.Test.YtenlhcgpajphhaaGreatDoorMRefReal2
import Derived.Test.YtenlhcgpajphhaaGreatDoorMVReal
import Derived.Deep.Cut
namespace Go.Proofs.YtenlhcgpajphhaaGreatDoor
open Go.RowKit
set_option maxRecDepth 100000
set_option linter.all false
def qdJ:Nat→List UInt8→Nat→List UInt8 × Nat
 | 0,_,i=>([],i)
 | f+1,l,i=>if (qaQ (l.drop i)).2=0 then ([],i) else ((qaQ (l.drop i)).1 :: (qdJ f l (i+(qaQ (l.drop i)).2)).1,(qdJ f l (i+(qaQ (l.drop i)).2)).2)
def qjI (l:List UInt8) (A:Nat):Tok × Nat :=
 if (qdJ (l.length+1) l (A+1)).2<l.length∧bAt l (qdJ (l.length+1) l (A+1)).2=34∧(qdJ (l.length+1) l (A+1)).1.length≤256 then
  (⟨4,(qdJ (l.length+1) l (A+1)).1,0,0,A,(qdJ (l.length+1) l (A+1)).2+1-A⟩,0)
 else (qcY,11)
def TRel (l:List UInt8) (A k:Nat) (bs:List UInt8) (f:Nat):Prop :=
 qdJ (l.length+1) l (A+1)=(bs++(qdJ f l k).1,(qdJ f l k).2)∧bs.length+A+1≤k∧l.length+1≤f+(k-(A+1))∧k≤l.length
def qgG (l:List UInt8):Bool:=l==[40] || l==[41] || l==[123] || l==[125] || l==[44] || l==[59] || l==[58] || l==[46] || l==[38] || l==[43] || l==[45] || l==[42] || l==[47] || l==[37] || l==[60] || l==[62] || l==[33] || l==[61] || l==[95] || l==[61,61] || l==[33,61] || l==[60,61] || l==[62,61] || l==[38,38] || l==[124,124] || l==[45,62]
def qoK (l:List UInt8) (A:Nat):Tok × Nat :=
 if 32<1+tw qaJ l (A+1) then (qcY,13) else (⟨1,(l.drop A).take (1+tw qaJ l (A+1)),0,0,A,1+tw qaJ l (A+1)⟩,0)
def qkR (l:List UInt8) (A:Nat):Tok × Nat :=
 if A+2≤l.length∧qgG ((l.drop A).take 2)=true then (⟨5,(l.drop A).take 2,0,0,A,2⟩,0)
 else if qgG ((l.drop A).take 1)=true then (⟨5,(l.drop A).take 1,0,0,A,1⟩,0) else (qcY,10)
def qd1 (l:List UInt8) (A:Nat):Tok × Nat :=
 if qa8 (bAt l A)=true then qoK l A else if qa1 (bAt l A)=true then qqQ l A else if bAt l A=34 then qjI l A else qkR l A
end Go.Proofs.YtenlhcgpajphhaaGreatDoor
