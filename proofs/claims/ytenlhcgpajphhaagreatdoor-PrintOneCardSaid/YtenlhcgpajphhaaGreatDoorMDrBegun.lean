import Derived.Test.YtenlhcgpajphhaaGreatDoorDrChord
import Derived.Test.YtenlhcgpajphhaaGreatDoorMTokSame
import Derived.Test.YtenlhcgpajphhaaGreatDoorMEpScan
import Derived.Deep.QuietTactic
import Derived.BigQuiet
namespace Go.Proofs.YtenlhcgpajphhaaGreatDoor
open Go.RowKit Go.Shelf
set_option maxRecDepth 100000
set_option linter.all false
def BegunD (l:List UInt8) (n:Nat) (w:World) (e:Ending) (w':World):Prop :=
 Below w.heap.size w w' ∧
 (((qdF l).2.2≠0∧e=.returned (.tuple #[.pointer none,.int .i64 (qdF l).2.1,.int .i64 (qdF l).2.2])) ∨
  ((qdF l).2.2=0∧∃ p cap a,e=.returned (.tuple #[.pointer (some ⟨p,0,none⟩),.int .i64 0,.int .i64 0])∧w.heap.size≤p∧DSt w' p cap n a (qb2 l) ⟨0,0,0⟩))
def zChord:ChordE:=⟨eB,[],none,[]⟩
def qj1 (L:List TokE) (n:Nat) (s:S8):S8:=if s.bad=0∧s.k<L.length then qcB L n s s.k 80 else s
noncomputable def qh2 (l:List UInt8) (n:Nat):ChordE × Int × Int :=
 if (qdF l).2.2≠0 then (zChord,(((qdF l).2.1:Nat):Int),(((qdF l).2.2:Nat):Int))
 else if (qj1 (qb2 l) n (qbP (qb2 l) n ⟨0,0,0⟩).1).bad=0 then ((qbP (qb2 l) n ⟨0,0,0⟩).2,0,0)
 else (zChord,(qj1 (qb2 l) n (qbP (qb2 l) n ⟨0,0,0⟩).1).pl,(qj1 (qb2 l) n (qbP (qb2 l) n ⟨0,0,0⟩).1).bad)
theorem q67 (lo:Nat) (w:World):Itm qbB lo w [.string ⟨#[]⟩,.slice none 0 0,.slice none 0 0,.slice none 0 0] zChord :=
 ⟨[],⟨_,_,_,[],[],[],[],[],rfl,rfl,ListV.nil _ _ _ _,⟨_,rfl,rfl,World.ownsRow_nil _ _ _ _⟩,ListV.nil _ _ _ _⟩,Good.nil _ _⟩
theorem qhJ {lo:Nat} {w:World} {t:ByteArray} {pv gv bv:Value} {x:ChordE} (h:Itm qbB lo w [.string t,pv,gv,bv] x):(∃ ad m c,pv=.slice ad m c)∧(∃ ad m c,gv=.slice ad m c)∧∃ ad m c,bv=.slice ad m c:=by
 obtain⟨F,⟨pv',gv',bv',dp,db,F1,F2,F3,hc,_,h1,⟨v,hv,_,hr⟩,h3⟩,_⟩:=h;cases hc;cases hv;refine⟨?_,?_,?_⟩
 ·rcases h1.row.2 with ⟨rfl,_⟩|⟨g,cap,cur,rfl,_⟩
  ·exact⟨_,_,_,rfl⟩
  ·exact⟨_,_,_,rfl⟩
 ·rcases hr.2 with ⟨rfl,_⟩|⟨g,cap,cur,rfl,_⟩
  ·exact⟨_,_,_,rfl⟩
  ·exact⟨_,_,_,rfl⟩
 ·rcases h3.row.2 with ⟨rfl,_⟩|⟨g,cap,cur,rfl,_⟩
  ·exact⟨_,_,_,rfl⟩
  ·exact⟨_,_,_,rfl⟩
def qk2 (R:ChordE × Int × Int) (w:World) (e:Ending) (w':World):Prop :=
 ∃ pv gv bv,e=.returned (.tuple #[.agg #[.string R.1.nm,pv,gv,bv],.int .i64 R.2.1,.int .i64 R.2.2])∧Itm qbB w.heap.size w' [.string R.1.nm,pv,gv,bv] R.1∧Below w.heap.size w w'
theorem q0R {fn:Func} {p q r:Tmp} {tmps:Array Value} {W:World} {g:Nat} {c0 c1 c2 c3:Value} {x y:Int} (hf:fn.results=#[.cell p 44,.tmp q,.tmp r]) (hp:tmps.getD p undef=.pointer (some ⟨g,0,none⟩))
  (h2:tmps.getD q undef=.int .i64 x) (h3:tmps.getD r undef=.int .i64 y) (h:Bx W g 44 [c0,c1,c2,c3]) :
  (results fn tmps).run Tryz.prog W=.ok (.tuple #[.agg #[c0,c1,c2,c3],.int .i64 x,.int .i64 y]) W:=by
 have hl:=run_loadVar_row (P:=Tryz.prog) W g 44 44 [c0,c1,c2,c3].toArray (0,0) _ h Tryz.underlying44 rfl (by kernel_rfl);have hp':tmps[p]?.getD undef=.pointer (some ⟨g,0,none⟩):=by simpa using hp
 have h2':tmps[q]?.getD undef=.int .i64 x:=by simpa using h2
 have h3':tmps[r]?.getD undef=.int .i64 y:=by simpa using h3
 simp only[results,hf];simp[hp',h2',h3',asAddr,hl,Sem.run_bind,Result.andThen]
end Go.Proofs.YtenlhcgpajphhaaGreatDoor
