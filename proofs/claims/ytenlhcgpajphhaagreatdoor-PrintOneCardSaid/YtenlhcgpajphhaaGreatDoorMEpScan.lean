import Derived.Test.YtenlhcgpajphhaaGreatDoorScan
import Derived.Test.YtenlhcgpajphhaaGreatDoorMWhole
import Derived.Test.YtenlhcgpajphhaaGreatDoorMTokSame
import Derived.Test.YtenlhcgpajphhaaGreatDoorMEbPlace
import Derived.Test.YtenlhcgpajphhaaGreatDoorMEbSmall
import Derived.Laws.FloatBits
import Derived.Test.YtenlhcgpajphhaaGreatDoorMErSize
import Derived.Test.YtenlhcgpajphhaaGreatDoorMDrIs
namespace Go.Proofs.YtenlhcgpajphhaaGreatDoor
open Go.RowKit Go.Shelf
set_option maxRecDepth 100000
set_option linter.all false
theorem q61 (a:Option Addr) (n cap:Nat) (l:List UInt8) (w:World) (hT:Txt w a n cap l) (hG:qq3 w) :
  Calls Tryz.prog 64 #[.slice a n cap] w fun e W'=>Below w.heap.size w W' ∧
   ((∃ v,e=.returned (.tuple #[v,.int .i64 0,.int .i64 0])∧(∀ x ∈ qfH l,x.2=0)∧W'.ownsRow w.heap.size 158 6 v (qfH l).length (qmV (qfH l))) ∨
    (∃ p x r,qfH l=p++x :: r∧(∀ y ∈ p,y.2=0)∧x.2≠0∧e=.returned (.tuple #[.slice none 0 0,.int .i64 x.1.at_,.int .i64 x.2]))) :=
 (callsIn_wide (n:=3)).1 (q9N 3 a n cap l w (Nat.le_refl _) q1D hT hG)
theorem q54 {p q r s:List (Tok × Nat)} {x y:Tok × Nat} (h:p++x :: r=q++y :: s) (hp:∀ z ∈ p,z.2=0) (hq:∀ z ∈ q,z.2=0) (hx:x.2≠0) (hy:y.2≠0):x=y:=by
 induction p generalizing q with
 | nil =>
  cases q with
  | nil=>simp at h;exact h.1
  | cons z q=>simp at h;exact absurd (hq z (by simp)) (h.1 ▸ hx)
 | cons z p ih =>
  cases q with
  | nil=>simp at h;exact absurd (hp z (by simp)) (h.1 ▸ hy)
  | cons u q =>
   simp at h;exact ih h.2 (fun z hz=>hp z (List.mem_cons_of_mem _ hz)) (fun z hz=>hq z (List.mem_cons_of_mem _ hz))
theorem qn6 (l:List UInt8):∀ (f i:Nat),(qs8 f l i).2.2=0→(qs8 f l i).2.1=0
 | 0,_,_=>rfl
 | f+1,i,h=>by
  rw[qzP] at h ⊢;unfold q9W at h ⊢;split
  ·rfl
  ·rename_i h1;rw[if_neg h1] at h;split
   ·rename_i h2;rw[if_pos h2] at h;exact absurd h h2
   ·rename_i h2;rw[if_neg h2] at h;exact qn6 l f _ h
theorem qyD {l:List UInt8} (h:(qdF l).2.2=0):(qdF l).2.1=0:=by
 unfold qdF at h ⊢;split
 ·rfl
 ·rename_i h1;rw[if_neg h1] at h;exact qn6 l _ _ h
theorem q78 {l:List UInt8} (h:∀ x ∈ qfH l,x.2=0):(qdF l).2.1=0∧(qdF l).2.2=0∧qfH l=(qdF l).1.map (fun t=>(t,0)):=by
 have e:=qiJ l;unfold qmO at e;by_cases h0:(qdF l).2.2=0
 ·rw[if_pos h0,List.append_nil] at e;exact⟨qyD h0,h0,e⟩
 ·rw[if_neg h0] at e;exact absurd (h (⟨0,[],0,0,(qdF l).2.1,0⟩,(qdF l).2.2) (by rw[e];simp)) h0
theorem qv4 {xs:List Tok}:∀ y ∈ xs.map (fun t=>(t,0)),(y:Tok × Nat).2=0:=by
 intro y hy;obtain⟨t,_,rfl⟩:=List.mem_map.1 hy;rfl
theorem q9H {l:List UInt8} {p r:List (Tok × Nat)} {x:Tok × Nat} (h:qfH l=p++x :: r) (hp:∀ y ∈ p,y.2=0) (hx:x.2≠0):(qdF l).2.1=x.1.at_∧(qdF l).2.2=x.2:=by
 have e:=qiJ l;unfold qmO at e;by_cases h0:(qdF l).2.2=0
 ·rw[if_pos h0,List.append_nil] at e;exact absurd (qv4 x (by rw[← e,h];simp)) hx
 ·rw[if_neg h0] at e;have:=q54 (h.symm.trans e) hp qv4 hx h0;rw[this];exact⟨rfl,rfl⟩
theorem q22 (xs:List Tok):qmV (xs.map (fun t=>(t,0)))=qpH xs:=by unfold qmV qpH;rw[List.flatMap_map]
def q9U (l:List UInt8) (w:World) (e:Ending) (w':World):Prop :=
 (((qdF l).2.2=0∧∃ v,e=.returned (.tuple #[v,.int .i64 0,.int .i64 0])∧w'.ownsRow w.heap.size 158 6 v (qdF l).1.length (qpH (qdF l).1)) ∨
  ((qdF l).2.2≠0∧e=.returned (.tuple #[.slice none 0 0,.int .i64 (qdF l).2.1,.int .i64 (qdF l).2.2])))∧Below w.heap.size w w'
theorem qrU (a:Option Addr) (n cap:Nat) (l:List UInt8) (w:World) (hT:Txt w a n cap l) (hG:qq3 w) :
  Calls Tryz.prog 64 #[.slice a n cap] w (q9U l w):=by
 refine(q61 a n cap l w hT hG).mono ?_;rintro e W' ⟨hb,⟨v,he,hz,hr⟩|⟨p,x,r,h1,h2,h3,he⟩⟩
 ·obtain⟨q1,q2,q3⟩:=q78 hz;rw[q3,q22,List.length_map] at hr;exact⟨.inl ⟨q2,v,he,hr⟩,hb⟩
 ·obtain⟨q1,q2⟩:=q9H h1 h2 h3;exact⟨.inr ⟨by rw[q2];exact h3,by rw[q1,q2];exact he⟩,hb⟩
theorem qsO (m e:Int):qaA m e<18446744073709551616:=Ieee.Format.nearest_lt Ieee.double _ _ _
def qqK (n:Nat) (t:Tok):Prop:=t.real<18446744073709551616∧t.text.length≤n
theorem z64:(0:Nat)<18446744073709551616:=by decide
theorem qe7 (n:Nat):qqK n qcY:=⟨by decide,Nat.zero_le _⟩
theorem qx5 (n A N M:Nat) (D1 D2:List UInt8) (below:Bool):qqK n (q01 A N M D1 D2 below).1:=by
 unfold q01;split
 ·split
  ·rename_i b hb;refine⟨?_,Nat.zero_le _⟩;unfold qx7 at hb
   repeat' split at hb
   all_goals first
    | (cases hb;done)
    | (cases hb;exact qsO _ _)
    | (cases hb;decide)
  ·exact qe7 n
 ·exact qe7 n
theorem qqP (l:List UInt8) (A:Nat) (he:(qd1 l A).2=0):qqK (l.length+256) (qd1 l A).1:=by
 have ht:∀ a b:Nat,((l.drop a).take b).length≤l.length+256:=fun a b=>by rw[List.length_take,List.length_drop];omega
 unfold qd1 at he ⊢;split
 ·unfold qoK;split
  ·exact qe7 _
  ·exact⟨z64,ht _ _⟩
 ·split
  ·unfold qqQ;split
   ·exact qe7 _
   ·split
    ·exact qx5 _ _ _ _ _ _ _
    ·split
     ·exact⟨z64,Nat.zero_le _⟩
     ·exact qe7 _
  ·split
   ·unfold qjI;split
    ·rename_i h;exact⟨z64,by have:=h.2.2;simp only;omega⟩
    ·exact qe7 _
   ·unfold qkR;split
    ·exact⟨z64,ht _ _⟩
    ·split
     ·exact⟨z64,ht _ _⟩
     ·exact qe7 _
theorem qn5 (l:List UInt8):∀ (f i:Nat),∀ t ∈ (qs8 f l i).1,qqK (l.length+256) t
 | 0,i,t,h=>by unfold qs8 at h;cases h
 | f+1,i,t,h=>by
  rw[qzP] at h;unfold q9W at h;split at h
  ·cases h
  ·split at h
   ·cases h
   ·rename_i h1 h2;rcases List.mem_cons.1 h with rfl|h3
    ·exact qqP l _ (Classical.not_not.1 h2)
    ·exact qn5 l f _ t h3
theorem qo1 (l:List UInt8):∀ t ∈ (qdF l).1,qqK 33024 t:=by
 intro t h;unfold qdF at h;split at h
 ·cases h
 ·rename_i hl;have:=qn5 l _ _ t h;exact⟨this.1,by have:=this.2;omega⟩
theorem q5T (l:List UInt8):(qdF l).1.length≤32768:=by
 unfold qdF;split
 ·exact Nat.zero_le _
 ·have:=quE (l:=l) (l.length+1) 0 (Nat.zero_le _);omega
def qb2 (l:List UInt8):List TokE:=(qdF l).1.map qzB
theorem qgS (l:List UInt8):(qb2 l).length=(qdF l).1.length:=List.length_map ..
theorem qqF (l:List UInt8):(qb2 l).length≤32768:=by rw[qgS];exact q5T l
theorem qkP {l:List UInt8} {i:Nat} (h:i<(qb2 l).length):∃ x ∈ (qdF l).1,(qdF l).1[i]?=some x∧(qb2 l).getD i default=qzB x:=by
 rw[qgS] at h;refine⟨_,List.getElem_mem h,List.getElem?_eq_getElem h,?_⟩;unfold qb2;rw[List.getD_eq_getElem?_getD,List.getElem?_map,List.getElem?_eq_getElem h];rfl
theorem qn0 (l:List UInt8) (i:Nat):((qb2 l).getD i default).rl<18446744073709551616:=by
 rcases Nat.lt_or_ge i (qb2 l).length with h|h
 ·obtain⟨x,hx,_,e⟩:=qkP h;rw[e];exact(qo1 l x hx).1
 ·rw[List.getD_eq_getElem?_getD,List.getElem?_eq_none h]
  decide
theorem qmZ (l:List UInt8) (i:Nat):((qb2 l).getD i default).tx.size≤140737488351232:=by
 rcases Nat.lt_or_ge i (qb2 l).length with h|h
 ·obtain⟨x,hx,_,e⟩:=qkP h;rw[e];have:=(qo1 l x hx).2;show x.text.toArray.size≤_;simp;omega
 ·rw[List.getD_eq_getElem?_getD,List.getElem?_eq_none h]
  decide
theorem qu9 {w:World} {base N:Nat} {e:TypeId} {v:Value} {l:List UInt8} (hN:(qdF l).1.length=N) (h:w.ownsRow base e 6 v N (qpH (qdF l).1)) :
  ∃ a c,v=.slice a (qb2 l).length c∧qw7 w a (qb2 l)∧(∀ x,a=some x→∀ n,base≤(x.add n).block∧(x.add n).block<w.heap.size):=by
 have hlen:=qgS l;rcases Nat.eq_zero_or_pos N with h0|h0
 ·rcases h.2 with ⟨he,_⟩|⟨g,cap,cur,he,hb,hgg,_⟩
  ·refine⟨none,0,by rw[he,hlen,hN,h0],fun i hi=>by omega,fun x hx=>by cases hx⟩
  ·refine⟨_,_,by rw[he,hlen,hN],fun i hi=>by omega,fun x hx n=>?_⟩;cases hx;rw[show ((⟨g,0,none⟩:Addr).add n).block=g by unfold Addr.add;split <;> rfl];exact⟨hb,lt_of_block hgg⟩
 ·obtain⟨g,c,he,hb,hl,hc⟩:=q58 hN h h0;have hadd:∀ n,(⟨g,0,none⟩:Addr).add n=⟨g,n,none⟩:=fun n=>by unfold Addr.add;split <;> simp_all
  refine⟨_,_,by rw[he,hlen,hN],fun i hi=>?_,fun x hx n=>?_⟩
  ·obtain⟨x,_,hx,e1⟩:=qkP hi;refine⟨_,rfl,?_⟩;rw[hadd,e1];exact⟨hc i 0 x _ hx rfl,hc i 1 x _ hx rfl,hc i 2 x _ hx rfl,hc i 3 x _ hx rfl,hc i 4 x _ hx rfl,hc i 5 x _ hx rfl⟩
  ·cases hx;rw[hadd];exact⟨hb,hl⟩
def outR (n:Nat) (fi:Int):Prop:=fi<0∨(n:Int)<fi
def RArg (w:World) (e:Ending) (w':World):Prop:=e=.returned (.tuple #[.agg #[.slice none 0 0],.int .i64 0,.int .i64 2])∧Below w.heap.size w w'
theorem q4D {w:World} {B s n:Nat} {T:TypeId} {v:Value} {xs:List Value} (h:w.ownsRow B T s v n xs):w.ownsRow 0 T s v n xs:=by
  refine⟨h.1,?_⟩
  rcases h.2 with h|⟨g,cap,cur,hv,_,rest⟩
  · exact .inl h
  · exact .inr ⟨g,cap,cur,hv,Nat.zero_le _,rest⟩
theorem Itm.same {α:Type} {E:Shp α} {s lo:Nat} {w w':World} {c:List Value} {x:α} (ke:KE E s) (h:Itm E lo w c x) (hs:∀ b,lo≤b→b<w.heap.size→w'.heap[b]?=w.heap[b]?) (hz:w.heap.size≤w'.heap.size):Itm E lo w' c x:=by
  obtain⟨F,h1,h2⟩:=h
  exact⟨F,ke.keep h1 (fun b hb=>hs b (h2.lies b hb).1 (h2.lies b hb).2),h2.wide (Nat.le_refl _) hz⟩
theorem Itm.wide {α:Type} {E:Shp α} {lo lo':Nat} {w:World} {c:List Value} {x:α} (h:Itm E lo w c x) (hl:lo'≤lo):Itm E lo' w c x:=by
  obtain⟨F,h1,h2⟩:=h
  exact⟨F,h1,h2.wide hl (Nat.le_refl _)⟩
theorem qpO (lo:Nat) (w:World):Itm exE lo w [.slice none 0 0] none:=⟨[],⟨_,rfl,rfl,World.ownsRow_nil _ _ _ _⟩,Good.nil _ _⟩
theorem jbK {w:World} {B g c lo:Nat} {t:Ex} (h:w.ownsRow B 109 9 (.slice (some ⟨g,0,none⟩) (0+cnt t) c) (0+cnt t) (qg3 ([]++lay 0 t))) (hB:lo≤B):Itm exE lo w [.slice (some ⟨g,0,none⟩) (cnt t) c] (some t):=by
  rw[Nat.zero_add,List.nil_append] at h
  have hl:=h.lt g rfl
  refine⟨[g],⟨_,rfl,rfl,?_⟩,by simp,fun b hb=>?_⟩
  · show w.ownsRow 0 109 9 _ (lay 0 t).length (qg3 (lay 0 t))
    rw[qaF]
    exact q4D h
  · simp at hb
    subst hb
    omega
def q62 (L:List TokE) (k:Nat) (w:World) (e:Ending) (w':World):Prop :=
  ((∃ at_ f:Int,RdR L k none at_ f∧e=.returned (.tuple #[.agg #[.slice none 0 0],.int .i64 at_,.int .i64 f])) ∨
   (∃ t v,∃ at_:Int,RdR L k (some t) at_ 0∧e=.returned (.tuple #[.agg #[v],.int .i64 at_,.int .i64 0])∧Itm exE w.heap.size w' [v] (some t)))∧Below w.heap.size w w'
theorem Eff.mine {p b:Nat} {w w1:World} (h:Eff p w w1) (hp:p<w.heap.size) (hb:w.heap.size≤b) (j:Nat) (v:Value):Eff p w (w1.setCell ⟨b,j,none⟩ v) :=
  ⟨h.1.setCell (by show p≤b;omega) _,by have:=h.2.1;simpa using this,fun k hk hkp=>(Below.heap_setCell _ _ _ _ (by show k≠b;omega)).trans (h.2.2 k hk hkp)⟩
theorem qf0 {lo:Nat} {w:World} {v:Value} {o:Option Ex} (h:Itm exE lo w [v] o):∃ ad m c,v=.slice ad m c:=by
  obtain⟨F,⟨v',hv,_,hr⟩,_⟩:=h
  cases hv
  rcases hr.2 with ⟨rfl,_⟩|⟨g,cap,cur,rfl,_⟩
  · exact⟨_,_,_,rfl⟩
  · exact⟨_,_,_,rfl⟩
def jbZ (L:List TokE) (k:Nat) (w:World) (e:Ending) (w':World):Prop :=
  ∃ (o:Option Ex) (ad:Option Addr) (m c:Nat) (at_ f:Int),RdR L k o at_ f∧e=.returned (.tuple #[.agg #[.slice ad m c],.int .i64 at_,.int .i64 f])∧Itm exE w.heap.size w' [.slice ad m c] o∧Below w.heap.size w w'
theorem q43 {L:List TokE} {k:Nat} {w w':World} {e:Ending} (h:q62 L k w e w'):jbZ L k w e w':=by
  obtain⟨h,hb⟩:=h
  rcases h with ⟨a,f,h1,he⟩|⟨t,v,a,h1,he,h2⟩
  · exact⟨none,none,0,0,a,f,h1,he,qpO _ _,hb⟩
  · obtain⟨ad,m,c,rfl⟩:=qf0 h2
    exact⟨some t,ad,m,c,a,0,h1,he,h2,hb⟩
theorem q56 {fn:Func} {p:Tmp} {tmps:Array Value} {W:World} {g:Nat} {v:Value} (hf:fn.results=#[.cell p 41]) (hp:tmps.getD p undef=.pointer (some ⟨g,0,none⟩)) (h:Bx W g 41 [v]) :
    (results fn tmps).run Tryz.prog W=.ok (.agg #[v]) W:=results_cell_row hf _ _ g 41 _ (0,0) _ hp h Tryz.underlying41 rfl (by kernel_rfl)
structure ExF (w Wr:World) (X p cap n:Nat) (a:Option Addr) (L:List TokE) (s:S8) (v:Value) (o:Option Ex):Prop where
  box:Bx Wr X 41 [v]
  res:Bx Wr w.heap.size 41 [.slice none 0 0]
  ne:w.heap.size<X
  st:DSt Wr p cap n a L s
  it:Itm exE (w.heap.size+1) Wr [v] o
  eff:Eff p w Wr
def ExprP (p cap n:Nat) (a:Option Addr) (L:List TokE) (s:S8) (w:World) (e:Ending) (w':World):Prop :=
  ∃ v,e=.returned (.agg #[v])∧Itm exE w.heap.size w' [v] (qaY L n s).2∧St8 p cap n a L (qaY L n s).1 w w'
theorem jbF:(Tryz.prog.info? 41).map (fun i=>(i.zero,i.size,i.bytes))=some (some (.agg #[.slice none 0 0]),1,24):=by kernel_rfl
structure LpS {α:Type} (E:Shp α) (T:TypeId) (sz lo:Nat) (w:World) (p cap n:Nat) (a:Option Addr) (L:List TokE) (wr:World) (v:Value) (s:S8) (l:List α) (cs:List Value):Prop where
 lst:Lst E T sz lo wr v l cs
 st:DSt wr p cap n a L s
 eff:Eff p w wr
 few:l.length+qeA L s≤L.length+2
 base:w.heap.size≤lo
 top:lo≤wr.heap.size
theorem qxL {α:Type} {E:Shp α} {T:TypeId} {sz lo:Nat} {w:World} {v:Value} {xs:List α} {c:List Value} (h:Lst E T sz lo w v xs c):∃ ad cp,v=.slice ad xs.length cp:=by
 rcases h.row.2 with ⟨rfl,hn⟩|⟨g,cap,cur,rfl,_⟩
 ·exact⟨none,0,by rw[hn]⟩
 ·exact⟨_,_,rfl⟩
section
variable {α:Type} {E:Shp α} {T:TypeId} {sz lo:Nat} {w:World} {p cap n:Nat} {a:Option Addr} {L:List TokE}
end
def ListP {α:Type} (E:Shp α) (T:TypeId) (sz p cap n:Nat) (a:Option Addr) (L:List TokE) (R:S8 × List α) (w:World) (e:Ending) (w':World):Prop :=
 ∃ v cs,e=.returned v∧Lst E T sz w.heap.size w' v R.2 cs∧St8 p cap n a L R.1 w w'
open Lib(hid)
set_option maxHeartbeats 8000000
def okM (n:Nd):Prop:=n.re=0∧n.im=0∧(n.vk=0∨∃ l,okL l=true∧n=qaG l)
theorem q4I {l:Lf} (h:okL l=true):okM (qaG l):=by
 refine⟨?_,?_,.inr ⟨l,h,rfl⟩⟩ <;> cases l <;> rfl
theorem quX (k a b:Int):okM (qdU k a b):=⟨rfl,rfl,.inl rfl⟩
theorem q0Y:∀ (t:Ex) (o:Nat),WfT t→∀ n ∈ lay o t,okM n:=by
 intro t
 induction t with
 | lf l=>intro o h n hn;rcases List.mem_singleton.1 hn with rfl;exact q4I h
 | un k a ih =>
  intro o h n hn;rcases List.mem_append.1 hn with hn|hn
  ·exact ih o h.2.2 n hn
  ·rcases List.mem_singleton.1 hn with rfl;exact quX _ _ _
 | bi k a b iha ihb =>
  intro o h n hn;rcases List.mem_append.1 hn with hn|hn
  ·exact iha o h.2.2.1 n hn
  ·rcases List.mem_append.1 hn with hn|hn
   ·exact ihb _ h.2.2.2 n hn
   ·rcases List.mem_singleton.1 hn with rfl;exact quX _ _ _
def okE (o:Option Ex):Prop:=∀ t,o=some t→WfT t∧cnt t≤64
theorem qsB (ns:List Nd) (g1 g2 c1 c2 N:Nat) (hN:ns.length=N) (hN2:N≤1000000000) (hok:∀ n ∈ ns,okM n) (w:World) (h1:qcO w g1 ns) (h2:qcO w g2 ns) (hg1:g1<w.heap.size) (hg2:g2<w.heap.size) :
  Calls Tryz.prog 45 #[.agg #[.slice (some ⟨g1,0,none⟩) N c1],.agg #[.slice (some ⟨g2,0,none⟩) N c2]] w fun e w'=>e=.returned (.bool true)∧Below w.heap.size w w':=by
 have sf:=qbQ;have sc:=qe9;have hz0:FloatKind.f64.format.order 0 0=some Ordering.eq:=by decide
 obtain⟨W0,hW0,ha,hb,hB,hsz⟩:=qm0 w 41 [.slice (some ⟨g1,0,none⟩) N c1] [.slice (some ⟨g2,0,none⟩) N c2];have HW0:=hid hW0;have HA:=hid ha;have HB:=hid hb;have HBW:=hid hB;have HSZ:=hid hsz;have HN:=hid hN;have HOK:=hid hok;have H1:=hid (h1.keep hB hg1);have H2:=hid (h2.keep hB hg2);have a0:=ha.c 0 rfl;have b0:=hb.c 0 rfl;clear hW0 ha hb hB hN hok h1 h2;go_enter Tryz.func45,Tryz.ntmps45;go_upto_region 1 with (fail);rw[← HW0.out];go_wp2
 go_loopw [5] (fun i wr=>∃ k:Nat,i=.int .i64 k∧k≤N∧Hid (Below (w.heap.size+2) W0 wr)) (fun i _=>N-(intOf i).toNat)
 case atStart=>exact⟨0,rfl,Nat.zero_le _,hid (Below.refl _ _)⟩
 case round =>
  obtain⟨k,rfl,hk,HBR⟩:=hrel;have a0:=(HA.out.keep HBR.out (by omega)).c 0 rfl;have b0:=(HB.out.keep HBR.out (by omega)).c 0 rfl;have hwr:w.heap.size+2≤wr.heap.size:=by have:=HBR.out.size;have:=HSZ.out;omega
  rcases Nat.lt_or_ge k N with hlt|hge
  ·have hkl:k<ns.length:=by rw[HN.out];exact hlt
   have HC1:=H1.out.keep HBR.out (by omega);have HC2:=H2.out.keep HBR.out (by omega);obtain⟨hre,him,hvk⟩:=HOK.out (ns.getD k default) (by rw[List.getD_eq_getElem?_getD,List.getElem?_eq_getElem hkl];exact List.getElem_mem hkl);generalize hn:ns.getD k default=n at *
   have HC1:∀ j v,(qaB n)[j]?=some v→wr.cell? ⟨g1,k * 9+j,none⟩=some v:=fun j v hj=>HC1 k j v hkl (by rw[hn];exact hj);have HC2:∀ j v,(qaB n)[j]?=some v→wr.cell? ⟨g2,k * 9+j,none⟩=some v:=fun j v hj=>HC2 k j v hkl (by rw[hn];exact hj);have x0:wr.cell? ⟨g1,k * 9,none⟩=some (.int .i64 n.k):=HC1 0 _ rfl;have x1:wr.cell? ⟨g1,k * 9+1,none⟩=some (.int .i64 n.a):=HC1 1 _ rfl;have x2:wr.cell? ⟨g1,k * 9+2,none⟩=some (.int .i64 n.b):=HC1 2 _ rfl;have x3:wr.cell? ⟨g1,k * 9+3,none⟩=some (.string n.nm):=HC1 3 _ rfl;have x4:wr.cell? ⟨g1,k * 9+4,none⟩=some (.int .i64 n.vk):=HC1 4 _ rfl;have x5:wr.cell? ⟨g1,k * 9+5,none⟩=some (.int .i64 n.vi):=HC1 5 _ rfl;have x6:wr.cell? ⟨g1,k * 9+6,none⟩=some (.float .f64 n.rl):=HC1 6 _ rfl;have x7:wr.cell? ⟨g1,k * 9+7,none⟩=some (.complex .f64 0 0):=by have:=HC1 7 _ rfl;rw[hre,him] at this;exact this
   have x8:wr.cell? ⟨g1,k * 9+8,none⟩=some (.string n.tx):=HC1 8 _ rfl;have y0:wr.cell? ⟨g2,k * 9,none⟩=some (.int .i64 n.k):=HC2 0 _ rfl;have y1:wr.cell? ⟨g2,k * 9+1,none⟩=some (.int .i64 n.a):=HC2 1 _ rfl;have y2:wr.cell? ⟨g2,k * 9+2,none⟩=some (.int .i64 n.b):=HC2 2 _ rfl;have y3:wr.cell? ⟨g2,k * 9+3,none⟩=some (.string n.nm):=HC2 3 _ rfl;have y4:wr.cell? ⟨g2,k * 9+4,none⟩=some (.int .i64 n.vk):=HC2 4 _ rfl;have y5:wr.cell? ⟨g2,k * 9+5,none⟩=some (.int .i64 n.vi):=HC2 5 _ rfl;have y6:wr.cell? ⟨g2,k * 9+6,none⟩=some (.float .f64 n.rl):=HC2 6 _ rfl;have y7:wr.cell? ⟨g2,k * 9+7,none⟩=some (.complex .f64 0 0):=by have:=HC2 7 _ rfl;rw[hre,him] at this;exact this
   have y8:wr.cell? ⟨g2,k * 9+8,none⟩=some (.string n.tx):=HC2 8 _ rfl;have HLT:=hid hlt;have HVK:=hid hvk;clear HC1 HC2 hn hre him hkl hvk;go_upto_region 6 with (fail)
   go_region_held3 (fun W=>W.cell? ⟨w.heap.size,0,none⟩=some (.slice (some ⟨g1,0,none⟩) N c1)∧W.cell? ⟨w.heap.size+1,0,none⟩=some (.slice (some ⟨g2,0,none⟩) N c2)∧W.cell? ⟨g1,k * 9,none⟩=some (.int .i64 n.k)∧W.cell? ⟨g1,k * 9+1,none⟩=some (.int .i64 n.a)∧W.cell? ⟨g1,k * 9+2,none⟩=some (.int .i64 n.b)∧W.cell? ⟨g1,k * 9+3,none⟩=some (.string n.nm)∧W.cell? ⟨g1,k * 9+4,none⟩=some (.int .i64 n.vk)∧W.cell? ⟨g1,k * 9+5,none⟩=some (.int .i64 n.vi)∧W.cell? ⟨g1,k * 9+6,none⟩=some (.float .f64 n.rl)∧W.cell? ⟨g1,k * 9+7,none⟩=some (.complex .f64 0 0)∧W.cell? ⟨g1,k * 9+8,none⟩=some (.string n.tx)∧W.cell? ⟨g2,k * 9,none⟩=some (.int .i64 n.k)∧W.cell? ⟨g2,k * 9+1,none⟩=some (.int .i64 n.a)∧W.cell? ⟨g2,k * 9+2,none⟩=some (.int .i64 n.b)∧W.cell? ⟨g2,k * 9+3,none⟩=some (.string n.nm)∧W.cell? ⟨g2,k * 9+4,none⟩=some (.int .i64 n.vk)∧W.cell? ⟨g2,k * 9+5,none⟩=some (.int .i64 n.vi)∧W.cell? ⟨g2,k * 9+6,none⟩=some (.float .f64 n.rl)∧W.cell? ⟨g2,k * 9+7,none⟩=some (.complex .f64 0 0)∧W.cell? ⟨g2,k * 9+8,none⟩=some (.string n.tx))
    (first|(refine⟨?_,?_,?_,?_,?_,?_,?_,?_,?_,?_,?_,?_,?_,?_,?_,?_,?_,?_,?_,?_⟩ <;> assumption)|go_keep)
    (fail)
   all_goals
    obtain⟨W1,hW1,hP,hQ,hB1,hs1⟩:=qm0 wr 109 [.int .i64 n.k,.int .i64 n.a,.int .i64 n.b,.string n.nm,.int .i64 n.vk,.int .i64 n.vi,.float .f64 n.rl,.complex .f64 0 0,.string n.tx] [.int .i64 n.k,.int .i64 n.a,.int .i64 n.b,.string n.nm,.int .i64 n.vk,.int .i64 n.vi,.float .f64 n.rl,.complex .f64 0 0,.string n.tx];have hW1':W1.drew=((wr.alloc (.cells #[.int .i64 n.k,.int .i64 n.a,.int .i64 n.b,.string n.nm,.int .i64 n.vk,.int .i64 n.vi,.float .f64 n.rl,.complex .f64 0 0,.string n.tx] 109)).alloc (.cells #[.int .i64 n.k,.int .i64 n.a,.int .i64 n.b,.string n.nm,.int .i64 n.vk,.int .i64 n.vi,.float .f64 n.rl,.complex .f64 0 0,.string n.tx] 109)).drew:=by rw[hW1]
    rw[← hW1'];have HP:=hid (q2L hP);have HQ:=hid (q2L hQ);have HBR1:=hid (HBR.out.trans ((hB1.drew).mono hwr));have hwz:wr.heap.size+2=W1.drew.heap.size:=hs1.symm;rename_i hHeld;clear hHeld hW1' hW1 hP hQ hB1 hs1 a0 b0 x0 x1 x2 x3 x4 x5 x6 x7 x8 y0 y1 y2 y3 y4 y5 y6 y7 y8;generalize W1.drew=WD at HP HQ HBR1 hwz ⊢;generalize hQe:wr.heap.size+1=Q at HQ hwz ⊢;generalize wr.heap.size=P at HP hwr hQe hwz ⊢;have p0:=HP.out.c 0 rfl;have p1:=HP.out.c 1 rfl;have p2:=HP.out.c 2 rfl;have p3:=HP.out.c 3 rfl;have p4:=HP.out.c 4 rfl;have p5:=HP.out.c 5 rfl;have p6:=HP.out.c 6 rfl;have p7:=HP.out.c 7 rfl;have p8:=HP.out.c 8 rfl;have q0:=HQ.out.c 0 rfl;have q1:=HQ.out.c 1 rfl;have q2:=HQ.out.c 2 rfl;have q3:=HQ.out.c 3 rfl;have q4:=HQ.out.c 4 rfl;have q5:=HQ.out.c 5 rfl;have q6:=HQ.out.c 6 rfl;have q7:=HQ.out.c 7 rfl;have q8:=HQ.out.c 8 rfl;have HSZ2:=hid HBR1.out.size;by_cases h0:n.vk=0
    ·rw[h0] at p4 q4;clear HVK h0;go_wp2;exact⟨⟨k+1,by go_num,HLT.out,HBR1⟩,by have:=HLT.out;simp[intOf];omega⟩
    ·have t0:(n.vk==0)=false:=beq_eq_false_iff_ne.2 h0;have t0':(n.vk != 0)=true:=by rw[bne,t0];rfl
     have HSM:Hid (∀ W,Calls Tryz.prog 77 #[.agg #[.int .i64 n.vk,.int .i64 n.vi,.float .f64 n.rl,.complex .f64 0 0,.string n.tx],.agg #[.int .i64 n.vk,.int .i64 n.vi,.float .f64 n.rl,.complex .f64 0 0,.string n.tx]] W fun e w'=>e=.returned (.bool true)∧Below W.heap.size W w'):=hid (fun W=>by
      rcases HVK.out with h|⟨l,hl,hnl⟩
      ·exact absurd h h0
      ·have:=qyN l hl W;unfold qrI qgK at this;rw[← hnl] at this;exact this)
     clear HVK h0;go_wp2_with (go_at_call 77;(with_reducible refine(HSM.out _).mono ?_);rintro e w8 ⟨rfl,hb8⟩;have HB8:=hid (HBR1.out.trans (hb8.mono (by have:=HSZ2.out;have:=HSZ.out;omega)));clear hb8);exact⟨⟨k+1,by go_num,HLT.out,HB8⟩,by have:=HLT.out;simp[intOf];omega⟩
  ·obtain rfl:k=N:=by omega
   have HBR2:=HBR;go_wp2;go_ret;exact⟨rfl,HBW.out.trans (HBR2.out.mono (by omega))⟩
theorem qsC (a1 a2:Option Addr) (c1 c2:Nat) (w:World):Calls Tryz.prog 45 #[.agg #[.slice a1 0 c1],.agg #[.slice a2 0 c2]] w fun e w'=>e=.returned (.bool true)∧Below w.heap.size w w':=by
 obtain⟨W0,hW0,ha,hb,hB,hsz⟩:=qm0 w 41 [.slice a1 0 c1] [.slice a2 0 c2];have HW0:=hid hW0;have HBW:=hid hB;have a0:=ha.c 0 rfl;have b0:=hb.c 0 rfl;clear hW0 ha hb hB hsz;go_enter Tryz.func45,Tryz.ntmps45;go_upto_region 1 with (fail);rw[← HW0.out];go_wp2
 go_loopw [5] (fun i wr=>i=.int .i64 0∧wr=W0) (fun i _=>0)
 case atStart=>exact⟨rfl,rfl⟩
 case round =>
  obtain⟨rfl,rfl⟩:=hrel;go_wp2;go_ret;exact⟨rfl,HBW.out⟩
theorem qpP {w:World} {F:List Nat} {v:Value} {o:Option Ex} (h:exE w F [v] o):(∃ a c,v=.slice a 0 c∧(exN o).length=0)∨∃ g c,v=.slice (some ⟨g,0,none⟩) (exN o).length c∧0<(exN o).length∧g<w.heap.size∧qcO w g (exN o):=by
 obtain⟨v',hv,_,hr⟩:=h;cases hv;rcases Nat.eq_zero_or_pos (exN o).length with h0|h0
 ·rcases hr.2 with ⟨rfl,_⟩|⟨g,cap,cur,rfl,_⟩
  ·exact .inl ⟨none,0,rfl,h0⟩
  ·rw[h0];exact .inl ⟨_,_,rfl,rfl⟩
 ·obtain⟨g,c,rfl,h1,h2,h3⟩:=qlZ rfl h0 hr;exact .inr ⟨g,c,rfl,h0,h2,h3⟩
theorem jaV {o:Option Ex} (h:okE o):(∀ n ∈ exN o,okM n)∧(exN o).length≤1000000000:=by
 cases o with
 | none=>exact⟨fun n hn=>(by cases hn),by show 0≤_;omega⟩
 | some t =>
  obtain⟨h1,h2⟩:=h t rfl;refine⟨q0Y t 0 h1,?_⟩;show (lay 0 t).length≤_;rw[qaF];omega
theorem qjE (o:Option Ex) (ho:okE o) (v1 v2:Value) (w:World) {F1 F2:List Nat} (h1:exE w F1 [v1] o) (h2:exE w F2 [v2] o) :
  Calls Tryz.prog 45 #[.agg #[v1],.agg #[v2]] w fun e w'=>e=.returned (.bool true)∧Below w.heap.size w w':=by
 obtain⟨hok,hlen⟩:=jaV ho;rcases qpP h1 with ⟨a1,c1,rfl,h0⟩|⟨g1,c1,rfl,hp,hg1,hn1⟩
 ·rcases qpP h2 with ⟨a2,c2,rfl,_⟩|⟨g2,c2,rfl,hp,_⟩
  ·exact qsC a1 a2 c1 c2 w
  ·omega
 ·rcases qpP h2 with ⟨a2,c2,rfl,h0⟩|⟨g2,c2,rfl,_,hg2,hn2⟩
  ·omega
  ·exact qsB (exN o) g1 g2 c1 c2 _ rfl hlen hok w hn1 hn2 hg1 hg2
end Go.Proofs.YtenlhcgpajphhaaGreatDoor
