import Derived.Test.YtenlhcgpajphhaaGreatDoorMTokSame
import Derived.Test.YtenlhcgpajphhaaGreatDoorMExPlain
import Derived.Test.YtenlhcgpajphhaaGreatDoorScan
import Derived.Laws.IdiomStrings
namespace Go.Proofs.YtenlhcgpajphhaaGreatDoor
open Go.RowKit
set_option linter.all false
set_option maxRecDepth 100000
def flatR (xs:List Tok):List Value:=xs.flatMap tokCells
def RScan (l:List UInt8) (w:World) (e:Ending) (w':World):Prop :=
 Below w.heap.size w w'∧∃ v,e=.returned (.tuple #[v,.int .i64 (allR l).2.1,.int .i64 (allR l).2.2])∧w'.ownsRow w.heap.size 59 6 v (allR l).1.length (flatR (allR l).1)
open Go.Shelf
theorem eflatR_at:∀ (xs:List Tok) (k j:Nat) (x:Tok),xs[k]?=some x→j<6→(flatR xs)[k * 6+j]?=(tokCells x)[j]?
 | [],k,j,x,h,_=>by simp at h
 | y :: ys,0,j,x,h,hj=>by
  simp at h;subst h;have:(tokCells y).length=6:=rfl;unfold flatR;rw[List.flatMap_cons,List.getElem?_append_left (by omega)];simp
 | y :: ys,k+1,j,x,h,hj=>by
  have hl:(tokCells y).length=6:=rfl;have:=eflatR_at ys k j x (by simpa using h) hj;unfold flatR at this ⊢;rw[List.flatMap_cons,List.getElem?_append_right (by omega),hl];rw[show (k+1) * 6+j-6=k * 6+j by omega];exact this
theorem etok_row {w:World} {base N:Nat} {e:TypeId} {v:Value} {xs:List Tok} (hN:xs.length=N) (h:w.ownsRow base e 6 v N (flatR xs)) (h0:0<N):∃ g c,v=.slice (some ⟨g,0,none⟩) N c∧base≤g∧g<w.heap.size∧∀ (k j:Nat) x u,xs[k]?=some x→(tokCells x)[j]?=some u→w.cell? ⟨g,k * 6+j,none⟩=some u:=by
 rcases h.2 with ⟨he,h0'⟩|⟨g,cap,cur,he,hb,hgg,_⟩
 ·omega
 ·subst he;refine⟨g,cap,rfl,hb,lt_of_block hgg,fun k j x u hx hu=>?_⟩;obtain⟨hk,_⟩:=List.getElem?_eq_some_iff.1 hx;have hj:j<6:=by obtain⟨hj,_⟩:=List.getElem?_eq_some_iff.1 hu;exact hj
  rw[h.cellAt (k * 6+j) (by omega),eflatR_at xs k j x hx hj];exact hu
end Go.Proofs.YtenlhcgpajphhaaGreatDoor
