import Derived.Test.YtenlhcgpajphhaaGreatDoorMEpShut
import Derived.Test.YtenlhcgpajphhaaGreatDoorMErSize
import Derived.Test.YtenlhcgpajphhaaGreatDoorMDrIs
import Derived.Test.YtenlhcgpajphhaaGreatDoorScan
import Derived.Test.YtenlhcgpajphhaaGreatDoorMWhole
import Derived.Test.YtenlhcgpajphhaaGreatDoorMExNamed
import Derived.Test.YtenlhcgpajphhaaGreatDoorMEbSmall
import Derived.Laws.FloatBits
namespace Go.Proofs.YtenlhcgpajphhaaGreatDoor
open Go.RowKit Go.Shelf
set_option maxRecDepth 100000
set_option linter.all false
def outR (n:Nat) (fi:Int):Prop:=fi<0∨(n:Int)<fi
def RArg (w:World) (e:Ending) (w':World):Prop:=e=.returned (.tuple #[.agg #[.slice none 0 0],.int .i64 0,.int .i64 2])∧Below w.heap.size w w'
theorem own_zero {w:World} {B s n:Nat} {T:TypeId} {v:Value} {xs:List Value} (h:w.ownsRow B T s v n xs):w.ownsRow 0 T s v n xs:=by
  refine⟨h.1,?_⟩
  rcases h.2 with h|⟨g,cap,cur,hv,_,rest⟩
  · exact .inl h
  · exact .inr ⟨g,cap,cur,hv,Nat.zero_le _,rest⟩
theorem Itm.same {α:Type} {E:Shp α} {s lo:Nat} {w w':World} {c:List Value} {x:α} (ke:KE E s) (h:Itm E lo w c x) (hs:∀ b,lo≤b→b<w.heap.size→w'.heap[b]?=w.heap[b]?) (hz:w.heap.size≤w'.heap.size):Itm E lo w' c x:=by
  obtain⟨F,h1,h2⟩:=h
  exact⟨F,ke.keep h1 (fun b hb=>hs b (h2.lies b hb).1 (h2.lies b hb).2),h2.wide (Nat.le_refl _) hz⟩
theorem Itm.wide {α:Type} {E:Shp α} {lo lo':Nat} {w:World} {c:List Value} {x:α} (h:Itm E lo w c x) (hl:lo'≤lo):Itm E lo' w c x:=by
  obtain⟨F,h1,h2⟩:=h
  exact⟨F,h1,h2.wide hl (Nat.le_refl _)⟩
theorem ex_none (lo:Nat) (w:World):Itm exE lo w [.slice none 0 0] none:=⟨[],⟨_,rfl,rfl,World.ownsRow_nil _ _ _ _⟩,Good.nil _ _⟩
theorem ex_row {w:World} {B g c lo:Nat} {t:Ex} (h:w.ownsRow B 109 9 (.slice (some ⟨g,0,none⟩) (0+cnt t) c) (0+cnt t) (flatN ([]++lay 0 t))) (hB:lo≤B):Itm exE lo w [.slice (some ⟨g,0,none⟩) (cnt t) c] (some t):=by
  rw[Nat.zero_add,List.nil_append] at h
  have hl:=h.lt g rfl
  refine⟨[g],⟨_,rfl,rfl,?_⟩,by simp,fun b hb=>?_⟩
  · show w.ownsRow 0 109 9 _ (lay 0 t).length (flatN (lay 0 t))
    rw[lay_len]
    exact own_zero h
  · simp at hb
    subst hb
    omega
def ReadO (L:List TokE) (k:Nat) (w:World) (e:Ending) (w':World):Prop :=
  ((∃ at_ f:Int,RdR L k none at_ f∧e=.returned (.tuple #[.agg #[.slice none 0 0],.int .i64 at_,.int .i64 f])) ∨
   (∃ t v,∃ at_:Int,RdR L k (some t) at_ 0∧e=.returned (.tuple #[.agg #[v],.int .i64 at_,.int .i64 0])∧Itm exE w.heap.size w' [v] (some t)))∧Below w.heap.size w w'
theorem Eff.mine {p b:Nat} {w w1:World} (h:Eff p w w1) (hp:p<w.heap.size) (hb:w.heap.size≤b) (j:Nat) (v:Value):Eff p w (w1.setCell ⟨b,j,none⟩ v) :=
  ⟨h.1.setCell (by show p≤b;omega) _,by have:=h.2.1;simpa using this,fun k hk hkp=>(Below.heap_setCell _ _ _ _ (by show k≠b;omega)).trans (h.2.2 k hk hkp)⟩
theorem ex_slice {lo:Nat} {w:World} {v:Value} {o:Option Ex} (h:Itm exE lo w [v] o):∃ ad m c,v=.slice ad m c:=by
  obtain⟨F,⟨v',hv,_,hr⟩,_⟩:=h
  cases hv
  rcases hr.2 with ⟨rfl,_⟩|⟨g,cap,cur,rfl,_⟩
  · exact⟨_,_,_,rfl⟩
  · exact⟨_,_,_,rfl⟩
def ReadU (L:List TokE) (k:Nat) (w:World) (e:Ending) (w':World):Prop :=
  ∃ (o:Option Ex) (ad:Option Addr) (m c:Nat) (at_ f:Int),RdR L k o at_ f∧e=.returned (.tuple #[.agg #[.slice ad m c],.int .i64 at_,.int .i64 f])∧Itm exE w.heap.size w' [.slice ad m c] o∧Below w.heap.size w w'
theorem readU_of {L:List TokE} {k:Nat} {w w':World} {e:Ending} (h:ReadO L k w e w'):ReadU L k w e w':=by
  obtain⟨h,hb⟩:=h
  rcases h with ⟨a,f,h1,he⟩|⟨t,v,a,h1,he,h2⟩
  · exact⟨none,none,0,0,a,f,h1,he,ex_none _ _,hb⟩
  · obtain⟨ad,m,c,rfl⟩:=ex_slice h2
    exact⟨some t,ad,m,c,a,0,h1,he,h2,hb⟩
theorem exprRes8 {fn:Func} {p:Tmp} {tmps:Array Value} {W:World} {g:Nat} {v:Value} (hf:fn.results=#[.cell p 41]) (hp:tmps.getD p undef=.pointer (some ⟨g,0,none⟩)) (h:Bx W g 41 [v]) :
    (results fn tmps).run Tryz.prog W=.ok (.agg #[v]) W:=results_cell_row hf _ _ g 41 _ (0,0) _ hp h Tryz.underlying41 rfl (by kernel_rfl)
structure ExF (w Wr:World) (X p cap n:Nat) (a:Option Addr) (L:List TokE) (s:S8) (v:Value) (o:Option Ex):Prop where
  box:Bx Wr X 41 [v]
  res:Bx Wr w.heap.size 41 [.slice none 0 0]
  ne:w.heap.size<X
  st:DSt Wr p cap n a L s
  it:Itm exE (w.heap.size+1) Wr [v] o
  eff:Eff p w Wr
def ExprP (p cap n:Nat) (a:Option Addr) (L:List TokE) (s:S8) (w:World) (e:Ending) (w':World):Prop :=
  ∃ v,e=.returned (.agg #[v])∧Itm exE w.heap.size w' [v] (exprS L n s).2∧St8 p cap n a L (exprS L n s).1 w w'
theorem Scan_any (a:Option Addr) (n cap:Nat) (l:List UInt8) (w:World) (hT:Txt w a n cap l) (hG:Glob w) :
  Calls Tryz.prog 64 #[.slice a n cap] w fun e W'=>Below w.heap.size w W' ∧
   ((∃ v,e=.returned (.tuple #[v,.int .i64 0,.int .i64 0])∧(∀ x ∈ allF l,x.2=0)∧W'.ownsRow w.heap.size 158 6 v (allF l).length (flatT (allF l))) ∨
    (∃ p x r,allF l=p++x :: r∧(∀ y ∈ p,y.2=0)∧x.2≠0∧e=.returned (.tuple #[.slice none 0 0,.int .i64 x.1.at_,.int .i64 x.2]))) :=
 (callsIn_wide (n:=3)).1 (Scan_in 3 a n cap l w (Nat.le_refl _) ldexpSaid hT hG)
theorem firstBad {p q r s:List (Tok × Nat)} {x y:Tok × Nat} (h:p++x :: r=q++y :: s) (hp:∀ z ∈ p,z.2=0) (hq:∀ z ∈ q,z.2=0) (hx:x.2≠0) (hy:y.2≠0):x=y:=by
 induction p generalizing q with
 | nil =>
  cases q with
  | nil=>simp at h;exact h.1
  | cons z q=>simp at h;exact absurd (hq z (by simp)) (h.1 ▸ hx)
 | cons z p ih =>
  cases q with
  | nil=>simp at h;exact absurd (hp z (by simp)) (h.1 ▸ hy)
  | cons u q =>
   simp at h;exact ih h.2 (fun z hz=>hp z (List.mem_cons_of_mem _ hz)) (fun z hz=>hq z (List.mem_cons_of_mem _ hz))
theorem seqR_place (l:List UInt8):∀ (f i:Nat),(seqR f l i).2.2=0→(seqR f l i).2.1=0
 | 0,_,_=>rfl
 | f+1,i,h=>by
  rw[seqR_S] at h ⊢;unfold seqS at h ⊢;split
  ·rfl
  ·rename_i h1;rw[if_neg h1] at h;split
   ·rename_i h2;rw[if_pos h2] at h;exact absurd h h2
   ·rename_i h2;rw[if_neg h2] at h;exact seqR_place l f _ h
theorem allR_place {l:List UInt8} (h:(allR l).2.2=0):(allR l).2.1=0:=by
 unfold allR at h ⊢;split
 ·rfl
 ·rename_i h1;rw[if_neg h1] at h;exact seqR_place l _ _ h
theorem all_ok {l:List UInt8} (h:∀ x ∈ allF l,x.2=0):(allR l).2.1=0∧(allR l).2.2=0∧allF l=(allR l).1.map (fun t=>(t,0)):=by
 have e:=same_all l;unfold toldR at e;by_cases h0:(allR l).2.2=0
 ·rw[if_pos h0,List.append_nil] at e;exact⟨allR_place h0,h0,e⟩
 ·rw[if_neg h0] at e;exact absurd (h (⟨0,[],0,0,(allR l).2.1,0⟩,(allR l).2.2) (by rw[e];simp)) h0
theorem map_zero {xs:List Tok}:∀ y ∈ xs.map (fun t=>(t,0)),(y:Tok × Nat).2=0:=by
 intro y hy;obtain⟨t,_,rfl⟩:=List.mem_map.1 hy;rfl
theorem all_bad {l:List UInt8} {p r:List (Tok × Nat)} {x:Tok × Nat} (h:allF l=p++x :: r) (hp:∀ y ∈ p,y.2=0) (hx:x.2≠0):(allR l).2.1=x.1.at_∧(allR l).2.2=x.2:=by
 have e:=same_all l;unfold toldR at e;by_cases h0:(allR l).2.2=0
 ·rw[if_pos h0,List.append_nil] at e;exact absurd (map_zero x (by rw[← e,h];simp)) hx
 ·rw[if_neg h0] at e;have:=firstBad (h.symm.trans e) hp map_zero hx h0;rw[this];exact⟨rfl,rfl⟩
theorem flatT_map (xs:List Tok):flatT (xs.map (fun t=>(t,0)))=flatR xs:=by unfold flatT flatR;rw[List.flatMap_map]
def EScan (l:List UInt8) (w:World) (e:Ending) (w':World):Prop :=
 (((allR l).2.2=0∧∃ v,e=.returned (.tuple #[v,.int .i64 0,.int .i64 0])∧w'.ownsRow w.heap.size 158 6 v (allR l).1.length (flatR (allR l).1)) ∨
  ((allR l).2.2≠0∧e=.returned (.tuple #[.slice none 0 0,.int .i64 (allR l).2.1,.int .i64 (allR l).2.2])))∧Below w.heap.size w w'
theorem escan_any (a:Option Addr) (n cap:Nat) (l:List UInt8) (w:World) (hT:Txt w a n cap l) (hG:Glob w) :
  Calls Tryz.prog 64 #[.slice a n cap] w (EScan l w):=by
 refine(Scan_any a n cap l w hT hG).mono ?_;rintro e W' ⟨hb,⟨v,he,hz,hr⟩|⟨p,x,r,h1,h2,h3,he⟩⟩
 ·obtain⟨q1,q2,q3⟩:=all_ok hz;rw[q3,flatT_map,List.length_map] at hr;exact⟨.inl ⟨q2,v,he,hr⟩,hb⟩
 ·obtain⟨q1,q2⟩:=all_bad h1 h2 h3;exact⟨.inr ⟨by rw[q2];exact h3,by rw[q1,q2];exact he⟩,hb⟩
theorem realBits_lt (m e:Int):realBits m e<18446744073709551616:=Ieee.Format.nearest_lt Ieee.double _ _ _
def smallT (n:Nat) (t:Tok):Prop:=t.real<18446744073709551616∧t.text.length≤n
theorem z64:(0:Nat)<18446744073709551616:=by decide
theorem zero_small (n:Nat):smallT n zeroTok:=⟨by decide,Nat.zero_le _⟩
theorem real_small (n A N M:Nat) (D1 D2:List UInt8) (below:Bool):smallT n (realT A N M D1 D2 below).1:=by
 unfold realT;split
 ·split
  ·rename_i b hb;refine⟨?_,Nat.zero_le _⟩;unfold realC at hb
   repeat' split at hb
   all_goals first
    | (cases hb;done)
    | (cases hb;exact realBits_lt _ _)
    | (cases hb;decide)
  ·exact zero_small n
 ·exact zero_small n
theorem refTok_small (l:List UInt8) (A:Nat) (he:(refTok l A).2=0):smallT (l.length+256) (refTok l A).1:=by
 have ht:∀ a b:Nat,((l.drop a).take b).length≤l.length+256:=fun a b=>by rw[List.length_take,List.length_drop];omega
 unfold refTok at he ⊢;split
 ·unfold refName;split
  ·exact zero_small _
  ·exact⟨z64,ht _ _⟩
 ·split
  ·unfold refNum;split
   ·exact zero_small _
   ·split
    ·exact real_small _ _ _ _ _ _ _
    ·split
     ·exact⟨z64,Nat.zero_le _⟩
     ·exact zero_small _
  ·split
   ·unfold refText;split
    ·rename_i h;exact⟨z64,by have:=h.2.2;simp only;omega⟩
    ·exact zero_small _
   ·unfold refMarkT;split
    ·exact⟨z64,ht _ _⟩
    ·split
     ·exact⟨z64,ht _ _⟩
     ·exact zero_small _
theorem seqR_small (l:List UInt8):∀ (f i:Nat),∀ t ∈ (seqR f l i).1,smallT (l.length+256) t
 | 0,i,t,h=>by unfold seqR at h;cases h
 | f+1,i,t,h=>by
  rw[seqR_S] at h;unfold seqS at h;split at h
  ·cases h
  ·split at h
   ·cases h
   ·rename_i h1 h2;rcases List.mem_cons.1 h with rfl|h3
    ·exact refTok_small l _ (Classical.not_not.1 h2)
    ·exact seqR_small l f _ t h3
theorem allR_small (l:List UInt8):∀ t ∈ (allR l).1,smallT 33024 t:=by
 intro t h;unfold allR at h;split at h
 ·cases h
 ·rename_i hl;have:=seqR_small l _ _ t h;exact⟨this.1,by have:=this.2;omega⟩
theorem allR_few (l:List UInt8):(allR l).1.length≤32768:=by
 unfold allR;split
 ·exact Nat.zero_le _
 ·have:=seqR_few (l:=l) (l.length+1) 0 (Nat.zero_le _);omega
def toksL (l:List UInt8):List TokE:=(allR l).1.map tokE
theorem toksL_len (l:List UInt8):(toksL l).length=(allR l).1.length:=List.length_map ..
theorem toksL_few (l:List UInt8):(toksL l).length≤32768:=by rw[toksL_len];exact allR_few l
theorem toksL_at {l:List UInt8} {i:Nat} (h:i<(toksL l).length):∃ x ∈ (allR l).1,(allR l).1[i]?=some x∧(toksL l).getD i default=tokE x:=by
 rw[toksL_len] at h;refine⟨_,List.getElem_mem h,List.getElem?_eq_getElem h,?_⟩;unfold toksL;rw[List.getD_eq_getElem?_getD,List.getElem?_map,List.getElem?_eq_getElem h];rfl
theorem toksL_real (l:List UInt8) (i:Nat):((toksL l).getD i default).rl<18446744073709551616:=by
 rcases Nat.lt_or_ge i (toksL l).length with h|h
 ·obtain⟨x,hx,_,e⟩:=toksL_at h;rw[e];exact(allR_small l x hx).1
 ·rw[List.getD_eq_getElem?_getD,List.getElem?_eq_none h]
  decide
theorem toksL_size (l:List UInt8) (i:Nat):((toksL l).getD i default).tx.size≤140737488351232:=by
 rcases Nat.lt_or_ge i (toksL l).length with h|h
 ·obtain⟨x,hx,_,e⟩:=toksL_at h;rw[e];have:=(allR_small l x hx).2;show x.text.toArray.size≤_;simp;omega
 ·rw[List.getD_eq_getElem?_getD,List.getElem?_eq_none h]
  decide
theorem toks_own {w:World} {base N:Nat} {e:TypeId} {v:Value} {l:List UInt8} (hN:(allR l).1.length=N) (h:w.ownsRow base e 6 v N (flatR (allR l).1)) :
  ∃ a c,v=.slice a (toksL l).length c∧Toks w a (toksL l)∧(∀ x,a=some x→∀ n,base≤(x.add n).block∧(x.add n).block<w.heap.size):=by
 have hlen:=toksL_len l;rcases Nat.eq_zero_or_pos N with h0|h0
 ·rcases h.2 with ⟨he,_⟩|⟨g,cap,cur,he,hb,hgg,_⟩
  ·refine⟨none,0,by rw[he,hlen,hN,h0],fun i hi=>by omega,fun x hx=>by cases hx⟩
  ·refine⟨_,_,by rw[he,hlen,hN],fun i hi=>by omega,fun x hx n=>?_⟩;cases hx;rw[show ((⟨g,0,none⟩:Addr).add n).block=g by unfold Addr.add;split <;> rfl];exact⟨hb,lt_of_block hgg⟩
 ·obtain⟨g,c,he,hb,hl,hc⟩:=etok_row hN h h0;have hadd:∀ n,(⟨g,0,none⟩:Addr).add n=⟨g,n,none⟩:=fun n=>by unfold Addr.add;split <;> simp_all
  refine⟨_,_,by rw[he,hlen,hN],fun i hi=>?_,fun x hx n=>?_⟩
  ·obtain⟨x,_,hx,e1⟩:=toksL_at hi;refine⟨_,rfl,?_⟩;rw[hadd,e1];exact⟨hc i 0 x _ hx rfl,hc i 1 x _ hx rfl,hc i 2 x _ hx rfl,hc i 3 x _ hx rfl,hc i 4 x _ hx rfl,hc i 5 x _ hx rfl⟩
  ·cases hx;rw[hadd];exact⟨hb,hl⟩
end Go.Proofs.YtenlhcgpajphhaaGreatDoor
