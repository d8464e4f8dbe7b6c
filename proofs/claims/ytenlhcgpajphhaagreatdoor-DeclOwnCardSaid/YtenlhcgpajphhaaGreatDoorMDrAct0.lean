import Derived.Test.YtenlhcgpajphhaaGreatDoorMDrTag
namespace Go.Proofs.YtenlhcgpajphhaaGreatDoor
open Go.RowKit Go.Shelf
set_option maxRecDepth 100000
set_option linter.all false
def zAct:List Value:=[.int .i64 0,.slice none 0 0,.string ⟨#[]⟩,.string ⟨#[]⟩,.slice none 0 0]
theorem actRes8 {fn:Func} {p:Tmp} {tmps:Array Value} {W:World} {g:Nat} {c0 tv c2 c3 c4:Value} (hf:fn.results=#[.cell p 100]) (hp:tmps.getD p undef=.pointer (some ⟨g,0,none⟩)) (h:Bx W g 100 [c0,tv,c2,c3,c4]) :
  (results fn tmps).run Tryz.prog W=.ok (.agg #[c0,tv,c2,c3,c4]) W:=results_cell_row hf _ _ g 100 _ (0,0) _ hp h Tryz.underlying100 rfl (by kernel_rfl)
theorem bx_set5 {W:World} {g:Nat} {T:TypeId} {v0 v1 v2 v3 v4 a b c d e:Value} (h:Bx W g T [v0,v1,v2,v3,v4]) :
  Bx (((((W.setCell ⟨g,0,none⟩ a).setCell ⟨g,1,none⟩ b).setCell ⟨g,2,none⟩ c).setCell ⟨g,3,none⟩ d).setCell ⟨g,4,none⟩ e) g T [a,b,c,d,e] :=
 ((((h.set 0 a).set 1 b).set 2 c).set 3 d).set 4 e
structure AcS (w:World) (p cap n:Nat) (a:Option Addr) (L:List TokE) (wr:World) (X:Nat) (s:S8) (cs:List Value) (tv:Value) (to:Option Ex):Prop where
 box:Bx wr X 100 cs
 res:Bx wr w.heap.size 100 zAct
 st:DSt wr p cap n a L s
 eff:Eff p w wr
 it:Itm exE (X+1) wr [tv] to
 lo:w.heap.size<X
section
variable {w:World} {p cap n:Nat} {a:Option Addr} {L:List TokE} {wr w1:World} {X:Nat} {s s1:S8} {cs:List Value} {tv:Value} {to:Option Ex}
end
def ActP (p cap n:Nat) (a:Option Addr) (L:List TokE) (R:S8 × ActE) (w:World) (e:Ending) (w':World):Prop :=
 ∃ c0 tv c2 c3 c4,e=.returned (.agg #[c0,tv,c2,c3,c4])∧Itm actE w.heap.size w' [c0,tv,c2,c3,c4] R.2∧St8 p cap n a L R.1 w w'
theorem infoPt8:(Tryz.prog.info? 95).map (fun i=>(i.zero,i.size,i.bytes))=some (some (.agg #[.string ⟨#[]⟩,.slice none 0 0]),2,40):=by kernel_rfl
theorem infoAc8:(Tryz.prog.info? 100).map (fun i=>(i.zero,i.size,i.bytes))=some (some (.agg #[.int .i64 0,.slice none 0 0,.string ⟨#[]⟩,.string ⟨#[]⟩,.slice none 0 0]),5,88):=by kernel_rfl
theorem part_slice {lo:Nat} {w:World} {t:ByteArray} {v:Value} {x:PartE} (h:Itm partE lo w [.string t,v] x):∃ ad m c,v=.slice ad m c:=by
 obtain⟨F,⟨v',d,hc,hl⟩,_⟩:=h;cases hc;rcases hl.row.2 with ⟨rfl,_⟩|⟨g,cap,cur,rfl,_⟩
 ·exact⟨_,_,_,rfl⟩
 ·exact⟨_,_,_,rfl⟩
theorem act_form {lo:Nat} {w:World} {c0 tv c2 c3 c4:Value} {x:ActE} (h:Itm actE lo w [c0,tv,c2,c3,c4] x):∃ ad m c ad' m' c',c0=.int .i64 x.kd∧tv=.slice ad m c∧c2=.string x.nm∧c3=.string x.vr∧c4=.slice ad' m' c':=by
 obtain⟨F,⟨tv',av,d,F1,F2,hc,_,⟨v,hv,_,hr⟩,hl⟩,_⟩:=h;cases hc;cases hv;have h1:∃ ad m c,tv=.slice ad m c:=by
  rcases hr.2 with ⟨rfl,_⟩|⟨g,cap,cur,rfl,_⟩
  ·exact⟨_,_,_,rfl⟩
  ·exact⟨_,_,_,rfl⟩
 have h2:∃ ad m c,c4=.slice ad m c:=by
  rcases hl.row.2 with ⟨rfl,_⟩|⟨g,cap,cur,rfl,_⟩
  ·exact⟨_,_,_,rfl⟩
  ·exact⟨_,_,_,rfl⟩
 obtain⟨ad,m,c,rfl⟩:=h1;obtain⟨ad',m',c',rfl⟩:=h2;exact⟨_,_,_,_,_,_,rfl,rfl,rfl,rfl,rfl⟩
def PgS (wr:World) (lo hi:Nat) (pv gv:Value) (ps:List PartE) (g:Option Ex):Prop :=
 ∃ F1 F2 dp,ListV partE 95 2 wr F1 pv ps dp∧exE wr F2 [gv] g∧(F1++F2).Nodup∧∀ b ∈ F1++F2,lo≤b∧b<hi
theorem PgS.keep {wr w1:World} {lo hi:Nat} {pv gv:Value} {ps:List PartE} {g:Option Ex} (h:PgS wr lo hi pv gv ps g) (hs:∀ b,lo≤b→b<hi→w1.heap[b]?=wr.heap[b]?):PgS w1 lo hi pv gv ps g:=by
 obtain⟨F1,F2,dp,h1,h2,h3,h4⟩:=h;have hsb:SameB (F1++F2) wr w1:=fun b hb=>hs b (h4 b hb).1 (h4 b hb).2;exact⟨F1,F2,dp,h1.keep partK hsb.left,exK.keep h2 hsb.right,h3,h4⟩
theorem PgS.of {wr w1:World} {lo p:Nat} {pv gv:Value} {ps:List PartE} {g:Option Ex} {dp:List Value} (h:Lst partE 95 2 lo wr pv ps dp) (hg:Itm exE wr.heap.size w1 [gv] g) (ho:Oth p wr w1) (hp:p<lo) (hlo:lo≤wr.heap.size):PgS w1 lo w1.heap.size pv gv ps g:=by
 obtain⟨F1,h1,h2⟩:=h;obtain⟨F2,h3,h4⟩:=hg;have hj:=h2.join h4 hlo ho.1;exact⟨F1,F2,dp,h1.keep partK (h2.oth ho hp),h3,hj.uniq,hj.lies⟩
theorem PgS.chord {wr:World} {lo hi:Nat} {pv gv bv:Value} {ps:List PartE} {g:Option Ex} {l:List ActE} {d:List Value} {nm:ByteArray} (h:PgS wr lo hi pv gv ps g) (hl:Lst actE 100 5 hi wr bv l d) (hlo:lo≤hi) (hw:hi≤wr.heap.size) :
  Itm chordE lo wr [.string nm,pv,gv,bv] ⟨nm,ps,g,l⟩:=by
 obtain⟨F1,F2,dp,h1,h2,h3,h4⟩:=h;obtain⟨F3,h5,h6⟩:=hl;refine⟨F1++(F2++F3),⟨pv,gv,bv,dp,d,F1,F2,F3,rfl,rfl,h1,h2,h5⟩,?_,fun b hb=>?_⟩
 ·rw[← List.append_assoc];refine List.nodup_append.2 ⟨h3,h6.uniq,fun a ha b hb e=>?_⟩;subst e;have:=h4 a ha;have:=h6.lies a hb;omega
 ·rw[← List.append_assoc] at hb;rcases List.mem_append.1 hb with hb|hb
  ·have:=h4 b hb;omega
  ·have:=h6.lies b hb;omega
theorem chordRes8 {fn:Func} {p:Tmp} {tmps:Array Value} {W:World} {g:Nat} {c0 c1 c2 c3:Value} (hf:fn.results=#[.cell p 44]) (hp:tmps.getD p undef=.pointer (some ⟨g,0,none⟩)) (h:Bx W g 44 [c0,c1,c2,c3]) :
  (results fn tmps).run Tryz.prog W=.ok (.agg #[c0,c1,c2,c3]) W:=results_cell_row hf _ _ g 44 _ (0,0) _ hp h Tryz.underlying44 rfl (by kernel_rfl)
def zCh:List Value:=[.string ⟨#[]⟩,.slice none 0 0,.slice none 0 0,.slice none 0 0]
def ChordP (p cap n:Nat) (a:Option Addr) (L:List TokE) (R:S8 × ChordE) (w:World) (e:Ending) (w':World):Prop :=
 ∃ pv gv bv,e=.returned (.agg #[.string R.2.nm,pv,gv,bv])∧Itm chordE w.heap.size w' [.string R.2.nm,pv,gv,bv] R.2∧St8 p cap n a L R.1 w w'
theorem bx_set4 {W:World} {g:Nat} {T:TypeId} {v0 v1 v2 v3 a b c d:Value} (h:Bx W g T [v0,v1,v2,v3]) :
  Bx ((((W.setCell ⟨g,0,none⟩ a).setCell ⟨g,1,none⟩ b).setCell ⟨g,2,none⟩ c).setCell ⟨g,3,none⟩ d) g T [a,b,c,d] :=
 (((h.set 0 a).set 1 b).set 2 c).set 3 d
end Go.Proofs.YtenlhcgpajphhaaGreatDoor
