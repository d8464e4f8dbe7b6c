import Derived.Test.YtkpboalccpancaaGreatDoorJDrChord
import Derived.Test.YtkpboalccpancaaGreatDoorJMRefScan
import Derived.Test.YtkpboalccpancaaGreatDoorJMEpScan
import Derived.Deep.QuietTactic
import Derived.BigQuiet
namespace Go.Proofs.YtkpboalccpancaaGreatDoor
open Go.RowKit Go.Shelf
set_option maxRecDepth 100000
set_option linter.all false
def BegunD (l:List UInt8) (n:Nat) (w:World) (e:Ending) (w':World):Prop :=
 Below w.heap.size w w' ∧
 (((allR l).2.2≠0∧e=.returned (.tuple #[.pointer none,.int .i64 (allR l).2.1,.int .i64 (allR l).2.2])) ∨
  ((allR l).2.2=0∧∃ p cap a,e=.returned (.tuple #[.pointer (some ⟨p,0,none⟩),.int .i64 0,.int .i64 0])∧w.heap.size≤p∧DSt w' p cap n a (toksL l) ⟨0,0,0⟩))
def zChord:ChordE:=⟨eB,[],none,[]⟩
def endS (L:List TokE) (n:Nat) (s:S8):S8:=if s.bad=0∧s.k<L.length then failS L n s s.k 80 else s
noncomputable def chordT (l:List UInt8) (n:Nat):ChordE × Int × Int :=
 if (allR l).2.2≠0 then (zChord,(((allR l).2.1:Nat):Int),(((allR l).2.2:Nat):Int))
 else if (endS (toksL l) n (chordS (toksL l) n ⟨0,0,0⟩).1).bad=0 then ((chordS (toksL l) n ⟨0,0,0⟩).2,0,0)
 else (zChord,(endS (toksL l) n (chordS (toksL l) n ⟨0,0,0⟩).1).pl,(endS (toksL l) n (chordS (toksL l) n ⟨0,0,0⟩).1).bad)
theorem chord_form {lo:Nat} {w:World} {t:ByteArray} {pv gv bv:Value} {x:ChordE} (h:Itm chordE lo w [.string t,pv,gv,bv] x):(∃ ad m c,pv=.slice ad m c)∧(∃ ad m c,gv=.slice ad m c)∧∃ ad m c,bv=.slice ad m c:=by
 obtain⟨F,⟨pv',gv',bv',dp,db,F1,F2,F3,hc,_,h1,⟨v,hv,_,hr⟩,h3⟩,_⟩:=h;cases hc;cases hv;refine⟨?_,?_,?_⟩
 ·rcases h1.row.2 with ⟨rfl,_⟩|⟨g,cap,cur,rfl,_⟩
  ·exact⟨_,_,_,rfl⟩
  ·exact⟨_,_,_,rfl⟩
 ·rcases hr.2 with ⟨rfl,_⟩|⟨g,cap,cur,rfl,_⟩
  ·exact⟨_,_,_,rfl⟩
  ·exact⟨_,_,_,rfl⟩
 ·rcases h3.row.2 with ⟨rfl,_⟩|⟨g,cap,cur,rfl,_⟩
  ·exact⟨_,_,_,rfl⟩
  ·exact⟨_,_,_,rfl⟩
def ParseCP (R:ChordE × Int × Int) (w:World) (e:Ending) (w':World):Prop :=
 ∃ pv gv bv,e=.returned (.tuple #[.agg #[.string R.1.nm,pv,gv,bv],.int .i64 R.2.1,.int .i64 R.2.2])∧Itm chordE w.heap.size w' [.string R.1.nm,pv,gv,bv] R.1∧Below w.heap.size w w'
end Go.Proofs.YtkpboalccpancaaGreatDoor
