import Derived.Test.YtenlhcgpajphhaaGreatDoorMEbPlace
import Derived.Test.YtenlhcgpajphhaaGreatDoorQuoteLex
import Derived.Lib.AppendStr
import Derived.Deep.AppendLies
namespace Go.Proofs.YtenlhcgpajphhaaGreatDoor
open Go.RowKit
set_option linter.all false
structure TagE where
  nm:ByteArray
  tys:List Int
structure PartE where
  tg:ByteArray
  vs:List ByteArray
structure ActE where
  kd:Int
  to:Option Ex
  nm:ByteArray
  vr:ByteArray
  args:List (Option Ex)
structure ChordE where
  nm:ByteArray
  parts:List PartE
  guard:Option Ex
  body:List ActE
structure KindE where
  nm:ByteArray
  chords:List ChordE
structure ProgE where
  tags:List TagE
  kinds:List KindE
structure S8 where
  k:Nat
  bad:Int
  pl:Int
def eB:ByteArray:=⟨#[]⟩
def kwL:List ByteArray:=[⟨#[116,97,103]⟩,⟨#[107,105,110,100]⟩,⟨#[99,104,111,114,100]⟩,⟨#[119,104,101,110]⟩,⟨#[115,101,110,100]⟩,⟨#[115,112,97,119,110]⟩,⟨#[97,115]⟩,⟨#[114,101,112,108,121]⟩,⟨#[98,101,99,111,109,101]⟩]
def kwB (b:ByteArray):Bool:=kwL.any (fun x=>decide (x=b))
def tkE (L:List TokE) (k:Nat):TokE:=L.getD k default
def plc (L:List TokE) (n:Nat) (k:Int):Int:=if k<L.length then (tkE L k.toNat).pl else n
def qcB (L:List TokE) (n:Nat) (s:S8) (i e:Int):S8:=if s.bad=0 then ⟨s.k,e,plc L n i⟩ else s
def isB (L:List TokE) (s:S8) (t:ByteArray):Bool:=decide (s.bad=0) && (decide (s.k<L.length) && ((decide ((tkE L s.k).kd=1) || decide ((tkE L s.k).kd=5)) && decide ((tkE L s.k).tx=t)))
def qa6 (s:S8):S8:=⟨s.k+1,s.bad,s.pl⟩
def q3R (L:List TokE) (s:S8) (t:ByteArray):S8:=if isB L s t then qa6 s else s
def qa7 (L:List TokE) (n:Nat) (s:S8) (t:ByteArray):S8:=if isB L s t then qa6 s else qcB L n s s.k 80
def qhP (L:List TokE) (s:S8):Bool:=decide (s.bad=0) && (decide (s.k<L.length) && (decide ((tkE L s.k).kd=1) && !kwB (tkE L s.k).tx))
def qaV (L:List TokE) (n:Nat) (s:S8):S8 × ByteArray:=if qhP L s then (qa6 s,(tkE L s.k).tx) else (qcB L n s s.k 80,eB)
noncomputable def rdX (L:List TokE) (k:Nat):Option Ex × Int × Int:=by
  classical
  exact if h:∃ x:Option Ex × Int × Int,RdR L k x.1 x.2.1 x.2.2 then Classical.choose h else (none,0,0)
theorem q44 {L:List TokE} {k:Nat} {o o':Option Ex} {a a' f f':Int} (h:RdR L k o a f) (h':RdR L k o' a' f'):o=o'∧a=a'∧f=f':=by
  rcases h with ⟨q,h1,rfl,rfl,rfl⟩|⟨t,q,h1,hf,rfl,rfl,rfl⟩|⟨t,q,h1,hf,rfl,rfl,rfl⟩ <;>
  rcases h' with ⟨q',h2,rfl,rfl,rfl⟩|⟨t',q',h2,hf',rfl,rfl,rfl⟩|⟨t',q',h2,hf',rfl,rfl,rfl⟩ <;>
  (have e:=h1.one h2
   first
   | (simp only[reduceCtorEq] at e;done)
   | (simp only[Rs.bad.injEq,Rs.ok.injEq] at e
      try (first|(obtain⟨rfl,h3⟩:=e)|subst e)
      first|exact⟨rfl,rfl,rfl⟩|(subst h3;exact⟨rfl,rfl,rfl⟩)|(exfalso;omega)|contradiction))
theorem q05 {L:List TokE} {k:Nat} {o:Option Ex} {a f:Int} (h:RdR L k o a f):rdX L k=(o,a,f):=by
  have hx:∃ x:Option Ex × Int × Int,RdR L k x.1 x.2.1 x.2.2:=⟨(o,a,f),h⟩
  unfold rdX
  rw[dif_pos hx]
  obtain⟨h1,h2,h3⟩:=q44 (Classical.choose_spec hx) h
  exact Prod.ext h1 (Prod.ext h2 h3)
noncomputable def qaY (L:List TokE) (n:Nat) (s:S8):S8 × Option Ex :=
  if s.bad=0 then
    match rdX L s.k with
    | (some t,a,_)=>(⟨a.toNat,s.bad,s.pl⟩,some t)
    | (none,a,f)=>(qcB L n s a f,none)
  else (s,none)
def qdE {α:Type} (L:List TokE) (n:Nat) (item:S8→S8 × α):Nat→S8→List α→S8 × List α
  | 0,s,l=>(s,l)
  | f+1,s,l=>if s.bad=0 then (if isB L s ⟨#[41]⟩ then (qa6 s,l) else qdE L n item f (item (qa7 L n s ⟨#[44]⟩)).1 (l++[(item (qa7 L n s ⟨#[44]⟩)).2])) else (s,l)
def qaX (L:List TokE):Nat:=L.length+2
def qcQ {α:Type} (L:List TokE) (n:Nat) (item:S8→S8 × α) (s:S8):S8 × List α :=
  if isB L (qa7 L n s ⟨#[40]⟩) ⟨#[41]⟩ then (qa6 (qa7 L n s ⟨#[40]⟩),[])
  else qdE L n item (qaX L) (item (qa7 L n s ⟨#[40]⟩)).1 [(item (qa7 L n s ⟨#[40]⟩)).2]
noncomputable def qi9 (L:List TokE) (n:Nat) (s:S8):S8 × List (Option Ex):=qcQ L n (qaY L n) s
def qs6 (l:List UInt8):Nat × Bool :=
  if l=[105,110,116] then (1,true) else if l=[114,101,97,108] then (2,true) else if l=[99,111,109,112] then (3,true) else if l=[116,101,120,116] then (4,true) else if l=[98,111,111,108] then (5,true) else (0,false)
def qiU (L:List TokE) (s:S8):Bool:=decide (s.bad=0) && (decide (s.k<L.length) && decide ((tkE L s.k).kd=1))
def qdK (L:List TokE) (n:Nat) (s:S8):S8 × Int :=
  if qiU L s && ((qs6 (tkE L s.k).tx.toList).2 && decide ((qs6 (tkE L s.k).tx.toList).1≠5)) then (qa6 s,((qs6 (tkE L s.k).tx.toList).1:Nat)) else (qcB L n s s.k 80,0)
def qmL (L:List TokE) (n:Nat) (s:S8):S8 × TagE :=
  (qa7 L n (qcQ L n (qdK L n) (qaV L n s).1).1 ⟨#[59]⟩,⟨(qaV L n s).2,(qcQ L n (qdK L n) (qaV L n s).1).2⟩)
def qhQ (L:List TokE) (n:Nat) (s:S8):S8 × ByteArray:=if isB L s ⟨#[95]⟩ then (qa6 s,⟨#[95]⟩) else qaV L n s
def qdA (L:List TokE) (n:Nat) (s:S8):S8 × PartE :=
  ((qcQ L n (qhQ L n) (qaV L n s).1).1,⟨(qaV L n s).2,(qcQ L n (qhQ L n) (qaV L n s).1).2⟩)
noncomputable def q81 (L:List TokE) (n:Nat) (s:S8):S8 × ActE :=
  let a:=qaY L n (qa6 s)
  let b:=qaV L n a.1
  let c:=qi9 L n b.1
  (c.1,⟨1,a.2,b.2,eB,c.2⟩)
def qzG (L:List TokE) (n:Nat) (s:S8):S8 × ActE :=
  let a:=qaV L n (qa6 s)
  let b:=qaV L n (qa7 L n a.1 ⟨#[97,115]⟩)
  (b.1,⟨2,none,a.2,b.2,[]⟩)
noncomputable def qzX (L:List TokE) (n:Nat) (s:S8):S8 × ActE :=
  let c:=qi9 L n (qa6 s)
  (c.1,⟨3,none,eB,eB,c.2⟩)
def qtN (L:List TokE) (n:Nat) (s:S8):S8 × ActE :=
  let a:=qaV L n (qa6 s)
  (a.1,⟨4,none,a.2,eB,[]⟩)
noncomputable def qcI (L:List TokE) (n:Nat) (s:S8):S8 × ActE :=
  if isB L s ⟨#[115,101,110,100]⟩ then q81 L n s
  else if isB L s ⟨#[115,112,97,119,110]⟩ then qzG L n s
  else if isB L s ⟨#[114,101,112,108,121]⟩ then qzX L n s
  else if isB L s ⟨#[98,101,99,111,109,101]⟩ then qtN L n s
  else (qcB L n s s.k 80,⟨0,none,eB,eB,[]⟩)
noncomputable def qjB (L:List TokE) (n:Nat) (s:S8):S8 × ActE:=(qa7 L n (qcI L n s).1 ⟨#[59]⟩,(qcI L n s).2)
def qk0 (L:List TokE) (n:Nat):Nat→S8→List PartE→S8 × List PartE
  | 0,s,l=>(s,l)
  | f+1,s,l=>if isB L s ⟨#[38]⟩ then qk0 L n f (qdA L n (qa6 s)).1 (l++[(qdA L n (qa6 s)).2]) else (s,l)
def upS {α:Type} (L:List TokE) (item:S8→S8 × α):Nat→S8→List α→S8 × List α
  | 0,s,l=>(s,l)
  | f+1,s,l=>if s.bad=0 then (if isB L s ⟨#[125]⟩ then (qa6 s,l) else upS L item f (item s).1 (l++[(item s).2])) else (s,l)
noncomputable def qbP (L:List TokE) (n:Nat) (s:S8):S8 × ChordE :=
  let a:=qaV L n (qa7 L n s ⟨#[99,104,111,114,100]⟩)
  let b:=qdA L n (qa7 L n a.1 ⟨#[58]⟩)
  let c:=qk0 L n (qaX L) b.1 [b.2]
  let g:=if isB L c.1 ⟨#[119,104,101,110]⟩ then qaY L n (qa6 c.1) else (c.1,none)
  let d:=upS L (qjB L n) (qaX L) (qa7 L n g.1 ⟨#[123]⟩) []
  (d.1,⟨a.2,c.2,g.2,d.2⟩)
noncomputable def qfN (L:List TokE) (n:Nat) (s:S8):S8 × KindE :=
  let a:=qaV L n (qa7 L n s ⟨#[107,105,110,100]⟩)
  let d:=upS L (qbP L n) (qaX L) (qa7 L n a.1 ⟨#[123]⟩) []
  (d.1,⟨a.2,d.2⟩)
noncomputable def qcP (L:List TokE) (n:Nat):Nat→S8→ProgE→S8 × ProgE
  | 0,s,p=>(s,p)
  | f+1,s,p =>
    if s.bad=0∧s.k<L.length then
      (if isB L s ⟨#[116,97,103]⟩ then qcP L n f (qmL L n (qa6 s)).1 ⟨p.tags++[(qmL L n (qa6 s)).2],p.kinds⟩
      else qcP L n f (qfN L n s).1 ⟨p.tags,p.kinds++[(qfN L n s).2]⟩)
    else (s,p)
def qeA (L:List TokE) (s:S8):Nat:=if s.bad=0 then L.length+1-s.k else 0
set_option maxRecDepth 100000
theorem qkU {w w':World} {base size n:Nat} {e:TypeId} {v:Value} {xs:List Value} (h:w.ownsRow base e size v n xs) (hk:∀ g,v.ownBlock=some g→w'.heap[g]?=w.heap[g]?):w'.ownsRow base e size v n xs:=by
 refine⟨h.1,?_⟩;rcases h.2 with hn|⟨g,cap,cur,rfl,hbs,hgg,rest⟩
 ·exact .inl hn
 ·exact .inr ⟨g,cap,cur,rfl,hbs,(hk g rfl).trans hgg,rest⟩
def qg8 (F:List Nat) (w w':World):Prop:=∀ b ∈ F,w'.heap[b]?=w.heap[b]?
theorem qg8.left {F G:List Nat} {w w':World} (h:qg8 (F++G) w w'):qg8 F w w':=fun b hb=>h b (List.mem_append_left _ hb)
theorem qg8.right {F G:List Nat} {w w':World} (h:qg8 (F++G) w w'):qg8 G w w':=fun b hb=>h b (List.mem_append_right _ hb)
abbrev Shp (α:Type):=World→List Nat→List Value→α→Prop
structure KE {α:Type} (E:Shp α) (s:Nat):Prop where
 keep:∀ {w w':World} {F:List Nat} {c:List Value} {x:α},E w F c x→qg8 F w w'→E w' F c x
 one:∀ {w:World} {F:List Nat} {c:List Value} {x:α},E w F c x→∀ u ∈ c,u.oneCell'=true
 len:∀ {w:World} {F:List Nat} {c:List Value} {x:α},E w F c x→c.length=s
def qiB {α:Type} (E:Shp α) (w:World):List Nat→List Value→List α→Prop
 | F,c,[]=>F=[]∧c=[]
 | F,c,x :: xs=>∃ F1 F2 c1 c2,F=F1++F2∧c=c1++c2∧E w F1 c1 x∧qiB E w F2 c2 xs
section
variable {α:Type} {E:Shp α} {s:Nat} {w w':World}
theorem qiB.keep (ke:KE E s):∀ {xs:List α} {F:List Nat} {c:List Value},qiB E w F c xs→qg8 F w w'→qiB E w' F c xs
 | [],_,_,h,_=>h
 | _ :: _,_,_,⟨F1,F2,c1,c2,hF,hc,hx,hr⟩,hs=>by
  subst hF;exact⟨F1,F2,c1,c2,rfl,hc,ke.keep hx hs.left,hr.keep ke hs.right⟩
theorem qiB.snoc {F1:List Nat} {c1:List Value} {x:α} (hx:E w F1 c1 x):∀ {xs:List α} {F:List Nat} {c:List Value},qiB E w F c xs→qiB E w (F++F1) (c++c1) (xs++[x])
 | [],_,_,⟨hF,hc⟩=>by
  subst hF hc;exact⟨F1,[],c1,[],by simp,by simp,hx,rfl,rfl⟩
 | _ :: _,_,_,⟨G1,G2,d1,d2,hF,hc,hy,hr⟩=>by
  subst hF hc;exact⟨G1,G2++F1,d1,d2++c1,by simp,by simp,hy,hr.snoc hx⟩
theorem qiB.get (ke:KE E s):∀ {xs:List α} {F:List Nat} {c:List Value} (_:qiB E w F c xs) (i:Nat) (x:α),xs[i]?=some x→∃ F1 c1,E w F1 c1 x∧(∀ b ∈ F1,b ∈ F)∧∀ j,j<s→c[i * s+j]?=c1[j]?
 | [],_,_,_,i,x,hi=>by simp at hi
 | y :: ys,_,_,⟨G1,G2,d1,d2,hF,hc,hy,hr⟩,0,x,hi=>by
  subst hF hc;simp at hi;subst hi;refine⟨G1,d1,hy,fun b hb=>List.mem_append_left _ hb,fun j hj=>?_⟩;rw[Nat.zero_mul,Nat.zero_add,List.getElem?_append_left (by rw[ke.len hy];exact hj)]
 | y :: ys,_,_,⟨G1,G2,d1,d2,hF,hc,hy,hr⟩,i+1,x,hi=>by
  subst hF hc;obtain⟨F1,c1,h1,h2,h3⟩:=hr.get ke i x (by simpa using hi);refine⟨F1,c1,h1,fun b hb=>List.mem_append_right _ (h2 b hb),fun j hj=>?_⟩;have hl:=ke.len hy;rw[List.getElem?_append_right (by rw[hl,Nat.add_mul];omega),hl,show (i+1) * s+j-s=i * s+j by rw[Nat.add_mul];omega];exact h3 j hj
end
structure ListV {α:Type} (E:Shp α) (T:TypeId) (s:Nat) (w:World) (F:List Nat) (v:Value) (xs:List α) (c:List Value):Prop where
 row:w.ownsRow 0 T s v xs.length c
 els:∃ F2,F=v.ownBlock.toList++F2∧qiB E w F2 c xs
structure Good (F:List Nat) (lo:Nat) (w:World):Prop where
 uniq:F.Nodup
 lies:∀ b ∈ F,lo≤b∧b<w.heap.size
theorem Good.nil (lo:Nat) (w:World):Good [] lo w:=⟨List.nodup_nil,fun _ h=>by cases h⟩
theorem Good.wide {F:List Nat} {lo lo':Nat} {w w':World} (h:Good F lo w) (hl:lo'≤lo) (hs:w.heap.size≤w'.heap.size):Good F lo' w':=⟨h.uniq,fun b hb=>by have:=h.lies b hb;omega⟩
theorem Good.join {F G:List Nat} {lo:Nat} {w w':World} (h:Good F lo w) (h2:Good G w.heap.size w') (hl:lo≤w.heap.size) (hs:w.heap.size≤w'.heap.size):Good (F++G) lo w':=by
 refine⟨List.nodup_append.2 ⟨h.uniq,h2.uniq,fun a ha b hb e=>?_⟩,fun b hb=>?_⟩
 ·subst e;have:=h.lies a ha;have:=h2.lies a hb;omega
 ·rcases List.mem_append.1 hb with hb|hb
  ·have:=h.lies b hb;omega
  ·have:=h2.lies b hb;omega
theorem Good.oth {F:List Nat} {lo p:Nat} {w w':World} (h:Good F lo w) (ho:Oth p w w') (hp:p<lo):qg8 F w w':=fun b hb=>by
 have:=h.lies b hb;exact ho.2 b this.2 (by omega)
def Lst {α:Type} (E:Shp α) (T:TypeId) (s lo:Nat) (w:World) (v:Value) (xs:List α) (c:List Value):Prop:=∃ F,ListV E T s w F v xs c∧Good F lo w
def Itm {α:Type} (E:Shp α) (lo:Nat) (w:World) (c:List Value) (x:α):Prop:=∃ F,E w F c x∧Good F lo w
section
variable {α:Type} {E:Shp α} {T:TypeId} {s lo:Nat} {w w':World} {v:Value} {xs:List α} {c:List Value}
theorem ListV.keep {F:List Nat} (ke:KE E s) (h:ListV E T s w F v xs c) (hs:qg8 F w w'):ListV E T s w' F v xs c:=by
 obtain⟨F2,rfl,he⟩:=h.els;exact⟨qkU h.row (fun g hg=>hs.left g (by rw[hg];simp)),F2,rfl,he.keep ke hs.right⟩
theorem ListV.nil (E:Shp α) (T:TypeId) (s:Nat) (w:World):ListV E T s w [] (.slice none 0 0) [] []:=⟨World.ownsRow_nil _ _ _ _,[],rfl,rfl,rfl⟩
theorem Lst.nil (E:Shp α) (T:TypeId) (s lo:Nat) (w:World):Lst E T s lo w (.slice none 0 0) [] []:=⟨[],ListV.nil E T s w,Good.nil lo w⟩
theorem Lst.keep (ke:KE E s) (h:Lst E T s lo w v xs c) {p:Nat} (ho:Oth p w w') (hp:p<lo):Lst E T s lo w' v xs c:=by
 obtain⟨F,h1,h2⟩:=h;exact⟨F,h1.keep ke (h2.oth ho hp),h2.wide (Nat.le_refl _) ho.1⟩
theorem Lst.row (h:Lst E T s lo w v xs c):w.ownsRow 0 T s v xs.length c:=by obtain⟨F,h1,_⟩:=h;exact h1.row
theorem Itm.keep {x:α} (ke:KE E s) (h:Itm E lo w c x) {p:Nat} (ho:Oth p w w') (hp:p<lo):Itm E lo w' c x:=by
 obtain⟨F,h1,h2⟩:=h;exact⟨F,ke.keep h1 (h2.oth ho hp),h2.wide (Nat.le_refl _) ho.1⟩
theorem Itm.one {x:α} (ke:KE E s) (h:Itm E lo w c x):∀ u ∈ c,u.oneCell'=true:=by obtain⟨F,h1,_⟩:=h;exact ke.one h1
theorem Itm.len {x:α} (ke:KE E s) (h:Itm E lo w c x):c.length=s:=by obtain⟨F,h1,_⟩:=h;exact ke.len h1
theorem Lst.own (h:Lst E T s lo w v xs c):∀ g,v.ownBlock=some g→lo≤g∧g<w.heap.size:=fun g hg=>by
 obtain⟨F,h1,h2⟩:=h;obtain⟨F2,rfl,_⟩:=h1.els;exact h2.lies g (List.mem_append_left _ (by rw[hg];simp))
theorem Lst.snoc {w1 w5 w6 w7:World} {p g cap n:Nat} {x:α} {c1:List Value} (ke:KE E s) (h:Lst E T s lo w1 v xs c) (ho:Oth p w1 w5) (hp:p<lo) (hlo:lo≤w1.heap.size) (hx:Itm E w1.heap.size w5 c1 x)
  (h6:Below w5.heap.size w5 w6) (hn:n=xs.length) (hown:w7.ownsRow 0 T s (.slice (some ⟨g,0,none⟩) (n+1) cap) (n+1) (c++c1)) (hgrow:w6.grownBy w7 v.ownBlock) (hat:v.ownBlock=some g∨g=w6.heap.size) (hlt:g<w7.heap.size) :
  Lst E T s lo w7 (.slice (some ⟨g,0,none⟩) (n+1) cap) (xs++[x]) (c++c1):=by
 subst hn;obtain⟨F,hl,hg⟩:=h;obtain⟨F2,rfl,he⟩:=hl.els;obtain⟨F1,hx1,hg1⟩:=hx;have hs15:=ho.1;have hs56:=h6.size;have hs67:=hgrow.size;have hnod:=List.nodup_append.1 hg.uniq;have hkeep:∀ b,b<w5.heap.size→v.ownBlock≠some b→w7.heap[b]?=w5.heap[b]?:=fun b hb hne=>(hgrow.block b (by omega) (fun e=>hne e.symm)).trans (h6.block b hb);have hF2:qg8 F2 w1 w7:=fun b hb=>by
  have hb1:=hg.lies b (List.mem_append_right _ hb);refine(hkeep b (by omega) (fun e=>?_)).trans (ho.2 b hb1.2 (by omega));exact hnod.2.2 b (by rw[e];simp) b hb rfl
 have hF1:qg8 F1 w5 w7:=fun b hb=>by
  have hb1:=hg1.lies b hb;refine hkeep b hb1.2 (fun e=>?_);have:=hg.lies b (List.mem_append_left _ (by rw[e];simp));omega
 refine⟨[g]++(F2++F1),⟨by rw[List.length_append];exact hown,F2++F1,rfl,(he.keep ke hF2).snoc (ke.keep hx1 hF1)⟩,?_⟩;have hgg:lo≤g∧(g<w1.heap.size∧v.ownBlock=some g∨w5.heap.size≤g):=by
  rcases hat with h|h
  ·have:=hg.lies g (List.mem_append_left _ (by rw[h];simp));exact⟨this.1,.inl ⟨this.2,h⟩⟩
  ·exact⟨by omega,.inr (by omega)⟩
 refine⟨List.nodup_append.2 ⟨by simp,List.nodup_append.2 ⟨hnod.2.1,hg1.uniq,fun a ha b hb e=>?_⟩,fun a ha b hb e=>?_⟩,fun b hb=>?_⟩
 ·subst e;have:=hg.lies a (List.mem_append_right _ ha);have:=hg1.lies a hb;omega
 ·simp at ha;subst ha;subst e;rcases List.mem_append.1 hb with hb|hb
  ·have h1:=hg.lies a (List.mem_append_right _ hb);rcases hgg.2 with ⟨_,h⟩|h
   ·exact hnod.2.2 a (by rw[h];simp) a hb rfl
   ·omega
  ·have h1:=hg1.lies a hb;rcases hgg.2 with ⟨h,_⟩|h <;> omega
 ·rcases List.mem_append.1 hb with hb|hb
  ·simp at hb;subst hb;exact⟨hgg.1,hlt⟩
  ·rcases List.mem_append.1 hb with hb|hb
   ·have:=hg.lies b (List.mem_append_right _ hb);omega
   ·have:=hg1.lies b hb;omega
end
def qrM:Shp Int:=fun _ F c x=>F=[]∧c=[.int .i64 x]
def qs7:Shp ByteArray:=fun _ F c x=>F=[]∧c=[.string x]
def exN:Option Ex→List Nd
 | none=>[]
 | some t=>lay 0 t
def exE:Shp (Option Ex):=fun w F c x=>∃ v,c=[v]∧F=v.ownBlock.toList∧w.ownsRow 0 109 9 v (exN x).length (qg3 (exN x))
def qk7:Shp TagE:=fun w F c x=>∃ v d,c=[.string x.nm,v]∧ListV qrM 3 1 w F v x.tys d
def qdS:Shp PartE:=fun w F c x=>∃ v d,c=[.string x.tg,v]∧ListV qs7 9 1 w F v x.vs d
def qgN:Shp ActE:=fun w F c x=>∃ tv av d F1 F2,c=[.int .i64 x.kd,tv,.string x.nm,.string x.vr,av]∧F=F1++F2∧exE w F1 [tv] x.to∧ListV exE 41 1 w F2 av x.args d
def qbB:Shp ChordE:=fun w F c x=>∃ pv gv bv dp db F1 F2 F3,c=[.string x.nm,pv,gv,bv]∧F=F1++(F2++F3)∧ListV qdS 95 2 w F1 pv x.parts dp∧exE w F2 [gv] x.guard∧ListV qgN 100 5 w F3 bv x.body db
def qfI:Shp KindE:=fun w F c x=>∃ v d,c=[.string x.nm,v]∧ListV qbB 44 4 w F v x.chords d
def qfR:Shp ProgE:=fun w F c x=>∃ tv kv dt dk F1 F2,c=[tv,kv]∧F=F1++F2∧ListV qk7 78 2 w F1 tv x.tags dt∧ListV qfI 69 2 w F2 kv x.kinds dk
theorem qgD {w:World} {base s n:Nat} {T:TypeId} {v:Value} {xs:List Value} (h:w.ownsRow base T s v n xs):v.oneCell'=true:=by
 rcases h.2 with ⟨rfl,_⟩|⟨g,cap,cur,rfl,_⟩ <;> rfl
theorem qkB:KE qrM 1:=⟨fun h _=>h,fun h u hu=>by obtain⟨_,rfl⟩:=h;simp at hu;subst hu;rfl,fun h=>by obtain⟨_,rfl⟩:=h;rfl⟩
theorem qlH:KE qs7 1:=⟨fun h _=>h,fun h u hu=>by obtain⟨_,rfl⟩:=h;simp at hu;subst hu;rfl,fun h=>by obtain⟨_,rfl⟩:=h;rfl⟩
theorem exK:KE exE 1:=by
 refine⟨fun {w w' F c x} h hs=>?_,fun h u hu=>?_,fun h=>?_⟩
 ·obtain⟨v,rfl,rfl,hr⟩:=h;exact⟨v,rfl,rfl,qkU hr (fun g hg=>hs g (by rw[hg];simp))⟩
 ·obtain⟨v,rfl,_,hr⟩:=h;simp at hu;subst hu;exact qgD hr
 ·obtain⟨v,rfl,_⟩:=h;rfl
theorem qfV:KE qk7 2:=by
 refine⟨fun {w w' F c x} h hs=>?_,fun h u hu=>?_,fun h=>?_⟩
 ·obtain⟨v,d,rfl,hr⟩:=h;exact⟨v,d,rfl,hr.keep qkB hs⟩
 ·obtain⟨v,d,rfl,hr⟩:=h;simp at hu;rcases hu with rfl|rfl
  ·rfl
  ·exact qgD hr.row
 ·obtain⟨v,d,rfl,_⟩:=h;rfl
theorem qbK:KE qdS 2:=by
 refine⟨fun {w w' F c x} h hs=>?_,fun h u hu=>?_,fun h=>?_⟩
 ·obtain⟨v,d,rfl,hr⟩:=h;exact⟨v,d,rfl,hr.keep qlH hs⟩
 ·obtain⟨v,d,rfl,hr⟩:=h;simp at hu;rcases hu with rfl|rfl
  ·rfl
  ·exact qgD hr.row
 ·obtain⟨v,d,rfl,_⟩:=h;rfl
theorem qeO:KE qgN 5:=by
 refine⟨fun {w w' F c x} h hs=>?_,fun h u hu=>?_,fun h=>?_⟩
 ·obtain⟨tv,av,d,F1,F2,rfl,rfl,h1,h2⟩:=h;exact⟨tv,av,d,F1,F2,rfl,rfl,exK.keep h1 hs.left,h2.keep exK hs.right⟩
 ·obtain⟨tv,av,d,F1,F2,rfl,rfl,h1,h2⟩:=h;simp at hu;rcases hu with rfl|rfl|rfl|rfl|rfl
  ·rfl
  ·exact exK.one h1 _ (by simp)
  ·rfl
  ·rfl
  ·exact qgD h2.row
 ·obtain⟨tv,av,d,F1,F2,rfl,_⟩:=h;rfl
theorem qaM:KE qbB 4:=by
 refine⟨fun {w w' F c x} h hs=>?_,fun h u hu=>?_,fun h=>?_⟩
 ·obtain⟨pv,gv,bv,dp,db,F1,F2,F3,rfl,rfl,h1,h2,h3⟩:=h;exact⟨pv,gv,bv,dp,db,F1,F2,F3,rfl,rfl,h1.keep qbK hs.left,exK.keep h2 hs.right.left,h3.keep qeO hs.right.right⟩
 ·obtain⟨pv,gv,bv,dp,db,F1,F2,F3,rfl,rfl,h1,h2,h3⟩:=h;simp at hu;rcases hu with rfl|rfl|rfl|rfl
  ·rfl
  ·exact qgD h1.row
  ·exact exK.one h2 _ (by simp)
  ·exact qgD h3.row
 ·obtain⟨pv,gv,bv,dp,db,F1,F2,F3,rfl,_⟩:=h;rfl
theorem qdY:KE qfI 2:=by
 refine⟨fun {w w' F c x} h hs=>?_,fun h u hu=>?_,fun h=>?_⟩
 ·obtain⟨v,d,rfl,hr⟩:=h;exact⟨v,d,rfl,hr.keep qaM hs⟩
 ·obtain⟨v,d,rfl,hr⟩:=h;simp at hu;rcases hu with rfl|rfl
  ·rfl
  ·exact qgD hr.row
 ·obtain⟨v,d,rfl,_⟩:=h;rfl
theorem qhM:KE qfR 2:=by
 refine⟨fun {w w' F c x} h hs=>?_,fun h u hu=>?_,fun h=>?_⟩
 ·obtain⟨tv,kv,dt,dk,F1,F2,rfl,rfl,h1,h2⟩:=h;exact⟨tv,kv,dt,dk,F1,F2,rfl,rfl,h1.keep qfV hs.left,h2.keep qdY hs.right⟩
 ·obtain⟨tv,kv,dt,dk,F1,F2,rfl,rfl,h1,h2⟩:=h;simp at hu;rcases hu with rfl|rfl
  ·exact qgD h1.row
  ·exact qgD h2.row
 ·obtain⟨tv,kv,dt,dk,F1,F2,rfl,_⟩:=h;rfl
structure Fr (F:List Nat) (v:Value) (w w':World) (v':Value):Prop where
 os:w'.os=w.os
 tape:w'.tape=w.tape
 output:w'.output=w.output
 size:w.heap.size≤w'.heap.size
 block:∀ x,x<w.heap.size→x ∉ F→v.ownBlock≠some x→w'.heap[x]?=w.heap[x]?
 own:∀ x,x<w.heap.size→v.ownBlock≠some x→v'.ownBlock≠some x
section
variable {F:List Nat} {v v1 v2:Value} {w w1 w2:World}
theorem Fr.refl (F:List Nat) (v:Value) (w:World):Fr F v w w v:=⟨rfl,rfl,rfl,Nat.le_refl _,fun _ _ _ _=>rfl,fun _ _ h=>h⟩
theorem Fr.trans (h:Fr F v w w1 v1) (k:Fr F v1 w1 w2 v2):Fr F v w w2 v2 :=
 ⟨k.os.trans h.os,k.tape.trans h.tape,k.output.trans h.output,Nat.le_trans h.size k.size,
  fun x hx hF hv=>(k.block x (Nat.lt_of_lt_of_le hx h.size) hF (h.own x hx hv)).trans (h.block x hx hF hv),
  fun x hx hv=>k.own x (Nat.lt_of_lt_of_le hx h.size) (h.own x hx hv)⟩
theorem Fr.wide {G:List Nat} (h:Fr F v w w1 v1) (hs:∀ x ∈ F,x ∈ G):Fr G v w w1 v1:=⟨h.os,h.tape,h.output,h.size,fun x hx hG hv=>h.block x hx (fun e=>hG (hs x e)) hv,h.own⟩
theorem Fr.of_below (h:Below w.heap.size w w1):Fr F v w w1 v:=⟨h.os,h.tape,h.output,h.size,fun x hx _ _=>h.block x hx,fun _ _ h=>h⟩
theorem Fr.below (h:Fr F v w w1 v1) (k:Below w1.heap.size w1 w2):Fr F v w w2 v1:=h.trans (Fr.of_below k)
theorem Fr.alloc (h:Fr F v w w1 v1) (o:Obj):Fr F v w (w1.alloc o) v1:=h.below ((Below.refl _ w1).alloc (Nat.le_refl _) o)
theorem Fr.drew (h:Fr F v w w1 v1):Fr F v w w1.drew v1:=h.below (Below.refl _ w1).drew
theorem Fr.setCell (h:Fr F v w w1 v1) {b:Nat} (hb:b ∈ F∨w.heap.size≤b) (k:Nat) (u:Value):Fr F v w (w1.setCell ⟨b,k,none⟩ u) v1:=by
 refine⟨h.os,h.tape,h.output,by rw[World.size_setCell];exact h.size,fun x hx hF hv=>(Below.heap_setCell _ _ _ _ ?_).trans (h.block x hx hF hv),h.own⟩;show x≠b;rintro rfl;exact hb.elim hF (by omega)
theorem Fr.grown (h:w.grownBy w1 v.ownBlock) (hl:v1.ownBlock=v.ownBlock∨v1.ownBlock=some w.heap.size∨∃ g,v1.ownBlock=some g∧w.heap.size≤g):Fr F v w w1 v1:=by
 refine⟨h.os,h.tape,h.output,h.size,fun x hx _ hv=>h.block x hx (fun e=>hv e.symm),fun x hx hv e=>?_⟩;rcases hl with hl|hl|⟨g,hl,hg⟩
 ·exact hv (hl.symm.trans e)
 ·rw[hl] at e;cases e;omega
 ·rw[hl] at e;cases e;omega
theorem Fr.toBelow {B:Nat} {W0:World} (h:Fr F v w w1 v1) (hb:Below B W0 w) (hB:B≤w.heap.size) (hF:∀ x ∈ F,B≤x) (hv:∀ x,v.ownBlock=some x→B≤x):Below B W0 w1 :=
 ⟨h.os.trans hb.os,h.tape.trans hb.tape,h.output.trans hb.output,Nat.le_trans hb.size h.size,fun x hx=>(h.block x (by omega) (fun e=>by have:=hF x e;omega) (fun e=>by have:=hv x e;omega)).trans (hb.block x hx)⟩
theorem Fr.bx {x:Nat} {T:TypeId} {cs:List Value} (h:Fr F v w w1 v1) (hx:Bx w x T cs) (hF:x ∉ F) (hv:v.ownBlock≠some x):Bx w1 x T cs:=(h.block x hx.lt hF hv).trans hx
end
theorem qlW {w:World} {B n:Nat} {e:TypeId} {sz:Nat} {v:Value} {xs:List Value} (h:w.ownsRow B e sz v n xs):∀ g,v.ownBlock=some g→B≤g∧g<w.heap.size:=by
 intro g hg;rcases h.2 with ⟨rfl,_⟩|⟨g',cap,cur,rfl,hb,hc,_⟩
 ·cases hg
 ·cases hg;exact⟨hb,(Array.getElem?_eq_some_iff.1 hc).1⟩
theorem qsV {w:World} {B n:Nat} {e:TypeId} {sz:Nat} {v:Value} {xs:List Value} (h:w.ownsRow B e sz v n xs):v.ownBlock≠some w.heap.size:=fun hg=>by
 have:=qlW h _ hg;omega
theorem qbN {w:World} {base sz N:Nat} {T:TypeId} {v:Value} {xs:List Value} (h:w.ownsRow base T sz v N xs):∃ a c,v=.slice a N c:=by
 rcases h.2 with ⟨h,h0⟩|⟨g,cap,cur,h,_⟩
 ·exact⟨none,0,by rw[h,h0]⟩
 ·exact⟨_,_,h⟩
theorem qhS {w:World} {B n m:Nat} {T:TypeId} {v:Value} {xs ys:List Value} (h:w.ownsRow B T 1 v n xs) (h1:n=m) (h2:xs=ys):w.ownsRow B T 1 v m ys:=by subst h1 h2;exact h
theorem qfM {w:World} {B:Nat} {v:Value} {T X:List UInt8} (h:w.ownsRow B 5 1 v (T.length+X.length) (u8s T++u8s X)):w.ownsRow B 5 1 v (T++X).length (u8s (T++X)) :=
 qhS h (by rw[List.length_append]) (by rw[qf2])
theorem qhW {w:World} {B:Nat} {v:Value} {T:List UInt8} {s:ByteArray} (h:w.ownsRow B 5 1 v (T.length+s.size) (u8s T++u8s s.data.toList)):w.ownsRow B 5 1 v (T++s.data.toList).length (u8s (T++s.data.toList)) :=
 qhS h (by rw[List.length_append];rfl) (by rw[qf2])
theorem qmQ (w:World) (ty:TypeId) (base:Nat) (v:Value) (n:Nat) (xs:List Value) (hown:w.ownsRow base 5 1 v n xs) (s:ByteArray) (hn:n+s.size≤1000000000) (hbase:base≤w.heap.size) :
  ∃ v' w',(Builtin.append_ #[22,9] ty #[v,.string s]).run Tryz.prog w=.ok v' w'∧w'.ownsRow base 5 1 v' (n+s.size) (xs++u8s s.data.toList)∧Fr [] v w w' v':=by
 obtain⟨i,hi,hz0,hz1,hz2⟩:=info_parts q8Q;have h63:n+s.size≤maxLen:=by unfold maxLen;omega
 obtain⟨v',w',hr,h2,h3,h4⟩:=Lib.run_append_own_string (P:=Tryz.prog) w base 22 9 ty 5 i Tryz.underlying22 Tryz.underlying9 hi hz0 hz1 hz2 v n xs hown s h63 (by omega) hbase;refine⟨v',w',hr,h2,Fr.grown h3 ?_⟩;have hxl:xs.length=n:=by simpa using hown.1
 rcases hown.2 with ⟨rfl,rfl⟩|⟨g,cap,cur,rfl,hbg,hg,hnc,hcm,hcs,htake⟩
 ·by_cases hm:s.size=0
  ·rw[h4.2 ⟨rfl,hm⟩];exact .inl rfl
  ·have hr2:=run_append_nil_string (P:=Tryz.prog) w 22 9 ty 5 i (.int .u8 0) Tryz.underlying22 Tryz.underlying9 hi hz0 s (by omega) (by omega) (by rw[hz2];omega);rw[hr2] at hr;injection hr with e1 e2
   rw[← e1];exact .inr (.inl rfl)
 ·by_cases hroom:n+s.size≤cap
  ·have hcc:cur.size=cap:=by simpa using hcs
   have hfit:n+s.size≤cur.size:=by omega
   have hr2:=Lib.run_append_room_string (P:=Tryz.prog) w 22 9 ty 5 i Tryz.underlying22 Tryz.underlying9 hi hz1 g n cap cur hg s hroom hfit;rw[hr2] at hr;injection hr with e1 e2
   rw[← e1];exact .inl rfl
  ·have holds:∀ j u,xs[j]?=some u→w.cell? ((⟨g,0,none⟩:Addr).add j)=some u:=hown.cells (g:=g) rfl;have hr2:=Lib.run_append_grow_string (P:=Tryz.prog) w 22 9 ty 5 i (.int .u8 0) Tryz.underlying22 Tryz.underlying9 hi hz0 ⟨g,0,none⟩ n cap xs (by rw[hz1];simpa using hxl) holds s (by omega) (by omega) (by rw[hz2];exact growslice_fits (by omega) (by omega));rw[hr2] at hr;injection hr with e1 e2
   rw[← e1];exact .inr (.inl rfl)
theorem qiE {w:World} {o:Oper} {a:Act} {K:Act→World→Prop} {Q:Exit→Act→World→Prop} (sl x:Operand)
  (ho:o.op=.call { callee:=.builtin .append,args:=#[sl,x],argTypes:=#[22,9] }) (base:Nat) (v:Value) (n:Nat) (xs:List Value) (hs:a.eval sl=v) (hown:w.ownsRow base 5 1 v n xs) (s:ByteArray) (hx:a.eval x=.string s)
  (hn:n+s.size≤1000000000) (hbase:base≤w.heap.size) (h:∀ v' w',w'.ownsRow base 5 1 v' (n+s.size) (xs++u8s s.data.toList)→Fr [] v w w' v'→K (a.put o.dst v') w'):o.wp Tryz.prog a w K Q:=by
 obtain⟨v',w',hr,h2,h3⟩:=qmQ w o.type base v n xs hown s hn hbase;unfold Oper.wp execOp;simp only[ho,resolve,invoke,builtin,Sem.run_bind,Sem.run_pure,Result.andThen_ok,List.map_toArray,List.map_cons,List.map_nil,hs,hx,hr];exact h v' w' h2 h3
theorem qbF {w:World} {ops:Array Oper} {rest:List Oper} {o:Oper} {a:Act} {Q:Exit→Act→World→Prop} (hgd:o.guard=none) (sl x:Operand)
  (ho:o.op=.call { callee:=.builtin .append,args:=#[sl,x],argTypes:=#[22,9] }) (base:Nat) (v:Value) (n:Nat) (xs:List Value) (hs:a.eval sl=v) (hown:w.ownsRow base 5 1 v n xs) (s:ByteArray) (hx:a.eval x=.string s)
  (hn:n+s.size≤1000000000) (hbase:base≤w.heap.size) (h:∀ v' w',w'.ownsRow base 5 1 v' (n+s.size) (xs++u8s s.data.toList)→Fr [] v w w' v'→wpList Tryz.prog ops Q rest (a.put o.dst v') w'):wpList Tryz.prog ops Q (o :: rest) a w :=
 wpList_plain hgd fun _ hK=>qiE sl x ho base v n xs hs hown s hx hn hbase fun v' w' h2 h3=>hK _ _ (h v' w' h2 h3)
theorem qlI {w:World} {ops:Array Oper} {o:Oper} {a:Act} {K:Act→World→Prop} {Q:Exit→Act→World→Prop} {E:Prop} (hgd:o.guard=none) (sl x:Operand)
  (ho:o.op=.call { callee:=.builtin .append,args:=#[sl,x],argTypes:=#[22,9] }) (base:Nat) (v:Value) (n:Nat) (xs:List Value) (hs:a.eval sl=v) (hown:w.ownsRow base 5 1 v n xs) (s:ByteArray) (hx:a.eval x=.string s)
  (hn:n+s.size≤1000000000) (hbase:base≤w.heap.size) (h:∀ v' w',w'.ownsRow base 5 1 v' (n+s.size) (xs++u8s s.data.toList)→Fr [] v w w' v'→K (a.put o.dst v') w') :
  if Region.wanted o (yielded ops a.tmps)=true then Oper.wp Tryz.prog o a w K Q else E:=by
 have hw:Region.wanted o (yielded ops a.tmps)=true:=by simp[Region.wanted,hgd]
 rw[if_pos hw];exact qiE sl x ho base v n xs hs hown s hx hn hbase h
theorem qaS {w w0:World} {ops:Array Oper} {rest:List Oper} {o:Oper} {a:Act} {Q:Exit→Act→World→Prop} (hgd:o.guard=none) (sl x:Operand)
  (ho:o.op=.call { callee:=.builtin .append,args:=#[sl,x],argTypes:=#[22,22] }) (base:Nat) (v:Value) (n:Nat) (xs:List Value) (hs:a.eval sl=v) (hown:w0.ownsRow base 5 1 v n xs)
  (news:List UInt8) (c:Nat) (hw:w=w0.alloc (.cells (u8s news).toArray 5)) (hx:a.eval x=.slice (some ⟨w0.heap.size,0,none⟩) news.length c) (hm:0<news.length)
  (hn:n+news.length≤1000000000) (hbase:base≤w0.heap.size) (h:∀ v' w',w'.ownsRow base 5 1 v' (n+news.length) (xs++u8s news)→Fr [] v w0 w' v'→wpList Tryz.prog ops Q rest (a.put o.dst v') w'):wpList Tryz.prog ops Q (o :: rest) a w:=by
 subst hw;obtain⟨i,hi,hz0,hz1,hz2⟩:=info_parts q8Q;refine wpList_append_lies _ hgd sl x 22 ho base 5 i (.int .u8 0) 1 1 Tryz.underlying22 hi hz0 hz1 hz2 rfl (by decide) v n xs hs (qdB hown ((Below.refl _ w0).alloc (Nat.le_refl _) _) (Nat.le_refl _)) ⟨w0.heap.size,0,none⟩ news.length c (u8s news) hx (by rw[qf1,Nat.mul_one]) (qfF _ _ _) (qhU _) hm (by unfold maxLen;omega) (by omega) (by rw[World.size_alloc];omega) _ rfl fun g cap w' h1 h2 h3 h4=>?_;refine h _ w' h1 ?_;have f1:Fr [] v w0 (w0.alloc (.cells (u8s news).toArray 5)) v:=(Fr.refl [] v w0).alloc _;refine f1.trans (Fr.grown h2 ?_);rcases h3 with h3|h3
 ·exact .inl h3.symm
 ·exact .inr (.inl (by rw[h3];rfl))
theorem jaC (g:Nat→Cl):∀ (f:Nat) (X:Nt) (p:Nat) (t:Ex) (q:Nat),rd g f X p=some (.ok t q)→(match X with|.lvl _=>p<q|.loop _ _=>p≤q):=by
 intro f
 induction f with
 | zero=>intro X p t q h;unfold rd at h;cases h
 | succ f ih =>
  intro X p t q h;cases X with
  | lvl n =>
   show p<q;rw[rd] at h;split at h
   ·cases hg:g p with
    | leaf l=>rw[hg] at h;simp at h;omega
    | mark s =>
     rw[hg] at h;simp only at h;split at h
     ·obtain⟨a,e,h1,h2⟩:=qb5 h;have:=ih _ _ _ _ h1;simp only at this;split at h2
      ·simp at h2;omega
      ·cases h2
     ·cases h
    | word k =>
     rw[hg] at h;simp only at h;split at h
     ·obtain⟨a,e,h1,h2⟩:=qb5 h;have:=ih _ _ _ _ h1;simp only at this;split at h2
      ·split at h2
       ·simp at h2;omega
       ·cases h2
      ·split at h2
       ·obtain⟨b,e2,h3,h4⟩:=qb5 h2;have:=ih _ _ _ _ h3;simp only at this;split at h4
        ·simp at h4;omega
        ·cases h4
       ·cases h2
     ·cases h
    | no=>rw[hg] at h;cases h
   ·split at h
    ·split at h
     ·exact ih _ _ _ _ h
     ·obtain⟨a,e,h1,h2⟩:=qb5 h;have:=ih _ _ _ _ h1;simp only at this;simp at h2;omega
    ·obtain⟨a,e,h1,h2⟩:=qb5 h;have h3:=ih _ _ _ _ h1;have h4:=ih _ _ _ _ h2;simp only at h3 h4;omega
  | loop n a =>
   show p≤q;rw[rd] at h;split at h
   ·obtain⟨b,e,h1,h2⟩:=qb5 h;have h3:=ih _ _ _ _ h1;simp only at h3;split at h2
    ·simp at h2;omega
    ·have h4:=ih _ _ _ _ h2;simp only at h4;omega
   ·simp at h;omega
theorem Rd.far {g:Nat→Cl} {n p q:Nat} {t:Ex} (h:Rd g (.lvl n) p (.ok t q)):p<q:=by
 obtain⟨f,hf⟩:=h;exact jaC g f _ _ _ _ hf
theorem qoM {L:List TokE} {k:Nat} {t:Ex} {a f:Int} (h:rdX L k=(some t,a,f)):RdR L k (some t) a f:=by
 unfold rdX at h;split at h
 ·rename_i hx;have:=Classical.choose_spec hx;rw[h] at this;exact this
 ·cases h
theorem q07 {L:List TokE} {k:Nat} {t:Ex} {a f:Int} (hk:k≤L.length) (h:RdR L k (some t) a f):∃ q:Nat,a=q∧f=0∧k<q∧q≤L.length:=by
 rcases h with ⟨q,_,h,_⟩|⟨_,q,_,_,h,_⟩|⟨t',q,h1,_,h,rfl,rfl⟩
 ·cases h
 ·cases h
 ·exact⟨q,rfl,rfl,h1.far,h1.ok_le (by omega) hk⟩
def Le8 (L:List TokE) (s s':S8):Prop:=s.k≤L.length→s'.k≤L.length∧qeA L s'≤qeA L s
def Lt8 (L:List TokE) (s s':S8):Prop:=s.k≤L.length→s'.k≤L.length∧qeA L s'<qeA L s
section
variable {L:List TokE} {n:Nat} {s s' s2:S8}
theorem Le8.refl (L:List TokE) (s:S8):Le8 L s s:=fun h=>⟨h,Nat.le_refl _⟩
theorem Le8.trans (h:Le8 L s s') (h2:Le8 L s' s2):Le8 L s s2:=fun hk=>by
 obtain⟨h3,h4⟩:=h hk;obtain⟨h5,h6⟩:=h2 h3;exact⟨h5,by omega⟩
theorem Lt8.le (h:Lt8 L s s'):Le8 L s s':=fun hk=>⟨(h hk).1,Nat.le_of_lt (h hk).2⟩
theorem Lt8.trans (h:Lt8 L s s') (h2:Le8 L s' s2):Lt8 L s s2:=fun hk=>by
 obtain⟨h3,h4⟩:=h hk;obtain⟨h5,h6⟩:=h2 h3;exact⟨h5,by omega⟩
theorem qi4 {t:ByteArray} (h:isB L s t=true):s.bad=0∧s.k<L.length∧((tkE L s.k).kd=1∨(tkE L s.k).kd=5)∧(tkE L s.k).tx=t:=by
 simpa [isB] using h
theorem qjV {t:ByteArray} (h:s.bad≠0):isB L s t=false:=by simp[isB,h]
theorem qt3 (hb:s.bad=0) (hk:s.k<L.length):Lt8 L s (qa6 s):=fun _=>by
 refine⟨hk,?_⟩;unfold qeA qa6;rw[if_pos hb,if_pos hb];show L.length+1-(s.k+1)<_;omega
theorem qfC {t:ByteArray} (h:isB L s t=true):Lt8 L s (qa6 s):=qt3 (qi4 h).1 (qi4 h).2.1
theorem qmC (i e:Int):Le8 L s (qcB L n s i e):=fun hk=>by
 unfold qcB qeA;by_cases hb:s.bad=0
 ·rw[if_pos hb,if_pos hb];refine⟨hk,?_⟩;show (if e=0 then L.length+1-s.k else 0)≤_;split <;> omega
 ·rw[if_neg hb];exact⟨hk,Nat.le_refl _⟩
theorem q25 {i e:Int} (hb:s.bad=0) (he:e≠0):Lt8 L s (qcB L n s i e):=fun hk=>by
 unfold qcB qeA;rw[if_pos hb,if_pos hb];refine⟨hk,?_⟩;show (if e=0 then L.length+1-s.k else 0)<_;rw[if_neg he];omega
theorem qc9 (t:ByteArray):Le8 L s (qa7 L n s t):=by
 unfold qa7;split
 ·rename_i h;exact(qfC h).le
 ·exact qmC _ _
theorem qyT {t:ByteArray} (hb:s.bad=0):Lt8 L s (qa7 L n s t):=by
 unfold qa7;split
 ·rename_i h;exact qfC h
 ·exact q25 hb (by decide)
theorem qtT (h:qhP L s=true):s.bad=0∧s.k<L.length∧(tkE L s.k).kd=1∧kwB (tkE L s.k).tx=false:=by simpa [qhP] using h
theorem qdQ:Le8 L s (qaV L n s).1:=by
 unfold qaV;split
 ·rename_i h;exact(qt3 (qtT h).1 (qtT h).2.1).le
 ·exact qmC _ _
theorem qjX:Le8 L s (qaY L n s).1:=by
 unfold qaY;by_cases hb:s.bad=0
 ·rw[if_pos hb];rcases hx:rdX L s.k with ⟨_|t,a,f⟩
  ·exact qmC _ _
  ·intro hk;obtain⟨q,rfl,_,h1,h2⟩:=q07 hk (qoM hx);refine⟨by show (q:Int).toNat≤_;omega,?_⟩;show qeA L ⟨(q:Int).toNat,s.bad,s.pl⟩≤qeA L s;unfold qeA;rw[if_pos hb,if_pos hb];show L.length+1-(q:Int).toNat≤_;omega
 ·rw[if_neg hb];exact Le8.refl _ _
theorem q18 {α:Type} {item:S8→S8 × α} (hi:∀ s,Le8 L s (item s).1):∀ (f:Nat) (s:S8) (l:List α),Le8 L s (qdE L n item f s l).1
 | 0,s,l=>Le8.refl _ _
 | f+1,s,l=>by
  unfold qdE;split
  ·split
   ·rename_i h;exact(qfC h).le
   ·exact((qc9 _).trans (hi _)).trans (q18 hi f _ _)
  ·exact Le8.refl _ _
theorem qt6 {α:Type} {item:S8→S8 × α} (hi:∀ s,Le8 L s (item s).1):Le8 L s (qcQ L n item s).1:=by
 unfold qcQ;split
 ·rename_i h;exact(qc9 _).trans (qfC h).le
 ·exact((qc9 _).trans (hi _)).trans (q18 hi _ _ _)
theorem qq1:Le8 L s (qi9 L n s).1:=qt6 (fun _=>qjX)
theorem qtA:Le8 L s (qdK L n s).1:=by
 unfold qdK;split
 ·rename_i h;have:qiU L s=true:=by simp at h;exact h.1
  have h2:s.bad=0∧s.k<L.length∧(tkE L s.k).kd=1:=by simpa [qiU] using this
  exact(qt3 h2.1 h2.2.1).le
 ·exact qmC _ _
theorem ja8:Le8 L s (qmL L n s).1:=(qdQ.trans (qt6 (fun _=>qtA))).trans (qc9 _)
theorem qyW:Le8 L s (qhQ L n s).1:=by
 unfold qhQ;split
 ·rename_i h;exact(qfC h).le
 ·exact qdQ
theorem qlS:Le8 L s (qdA L n s).1:=qdQ.trans (qt6 (fun _=>qyW))
theorem q96:Le8 L s (qcI L n s).1:=by
 unfold qcI;split
 ·rename_i h;exact(((qfC h).le.trans qjX).trans qdQ).trans qq1
 split
 ·rename_i h;exact(((qfC h).le.trans qdQ).trans (qc9 _)).trans qdQ
 split
 ·rename_i h;exact(qfC h).le.trans qq1
 split
 ·rename_i h;exact(qfC h).le.trans qdQ
 ·exact qmC _ _
theorem q79:Le8 L s (qjB L n s).1:=q96.trans (qc9 _)
theorem q95 (hb:s.bad=0):Lt8 L s (qcI L n s).1:=by
 unfold qcI;split
 ·rename_i h;exact((qfC h).trans qjX |>.trans qdQ).trans qq1
 split
 ·rename_i h;exact((qfC h).trans qdQ |>.trans (qc9 _)).trans qdQ
 split
 ·rename_i h;exact(qfC h).trans qq1
 split
 ·rename_i h;exact(qfC h).trans qdQ
 ·exact q25 hb (by decide)
theorem qw4 (hb:s.bad=0):Lt8 L s (qjB L n s).1:=(q95 hb).trans (qc9 _)
theorem q2W:∀ (f:Nat) (s:S8) (l:List PartE),Le8 L s (qk0 L n f s l).1
 | 0,s,l=>Le8.refl _ _
 | f+1,s,l=>by
  unfold qk0;split
  ·rename_i h;exact((qfC h).le.trans qlS).trans (q2W f _ _)
  ·exact Le8.refl _ _
theorem q3H {α:Type} {item:S8→S8 × α} (hi:∀ s,Le8 L s (item s).1):∀ (f:Nat) (s:S8) (l:List α),Le8 L s (upS L item f s l).1
 | 0,s,l=>Le8.refl _ _
 | f+1,s,l=>by
  unfold upS;split
  ·split
   ·rename_i h;exact(qfC h).le
   ·exact(hi _).trans (q3H hi f _ _)
  ·exact Le8.refl _ _
theorem qvN {t:ByteArray}:Le8 L s (if isB L s t then qaY L n (qa6 s) else (s,none)).1:=by
 split
 ·rename_i h;exact(qfC h).le.trans qjX
 ·exact Le8.refl _ _
theorem q5P:Le8 L s (qbP L n s).1 :=
 ((((((qc9 _).trans qdQ).trans (qc9 _)).trans qlS).trans (q2W _ _ _)).trans qvN).trans ((qc9 _).trans (q3H (fun _=>q79) _ _ _))
theorem q5O (hb:s.bad=0):Lt8 L s (qbP L n s).1 :=
 (((((qyT hb).trans qdQ).trans (qc9 _)).trans qlS).trans (q2W _ _ _)).trans (qvN.trans ((qc9 _).trans (q3H (fun _=>q79) _ _ _)))
theorem qgT (L:List TokE) (s:S8):qeA L s<qaX L:=by unfold qeA qaX;split <;> omega
end
open Go.Shelf
def rdC (cap n:Nat) (a:Option Addr) (L:List TokE) (s:S8):List Value:=[.slice a L.length cap,.int .i64 (s.k:Nat),.int .i64 (n:Nat),.int .i64 s.bad,.int .i64 s.pl]
structure DSt (w:World) (p cap n:Nat) (a:Option Addr) (L:List TokE) (s:S8):Prop where
 box:Bx w p 76 (rdC cap n a L s)
 toks:qw7 w a L
 low:∀ x,a=some x→∀ n,(x.add n).block<p
 len:L.length≤1000000
 at_:s.k≤L.length
 sized:∀ i,(L.getD i default).tx.size≤140737488351232
 real:∀ i,(L.getD i default).rl<18446744073709551616
def Eff (p:Nat) (w w':World):Prop:=Below p w w'∧Oth p w w'
theorem Eff.refl (p:Nat) (w:World):Eff p w w:=⟨Below.refl _ _,Nat.le_refl _,fun _ _ _=>rfl⟩
theorem Eff.trans {p:Nat} {w w1 w2:World} (h:Eff p w w1) (h2:Eff p w1 w2):Eff p w w2:=⟨h.1.trans h2.1,h.2.trans h2.2⟩
theorem Eff.of_below {p:Nat} {w w':World} (h:Below w.heap.size w w') (hp:p<w.heap.size):Eff p w w':=⟨h.mono (Nat.le_of_lt hp),Oth.of_below h⟩
theorem Eff.set {p:Nat} {w w1:World} (h:Eff p w w1) (j:Nat) (v:Value):Eff p w (w1.setCell ⟨p,j,none⟩ v):=⟨h.1.setCell (Nat.le_refl _) _,h.2.set j v⟩
theorem Eff.size {p:Nat} {w w1:World} (h:Eff p w w1):w.heap.size≤w1.heap.size:=h.2.1
theorem bEq8 (a b:ByteArray):(a.toList==b.toList)=decide (a=b):=by
 by_cases h:a=b
 ·subst h;simp
 ·rw[decide_eq_false h];refine beq_eq_false_iff_ne.2 (fun e=>h ?_);rw[qbT,qbT] at e;obtain⟨⟨a⟩⟩:=a;obtain⟨⟨b⟩⟩:=b;simp at e;rw[e]
end Go.Proofs.YtenlhcgpajphhaaGreatDoor
namespace Go.Proofs.YtenlhcgpajphhaaGreatDoor
open Go.RowKit
set_option linter.all false
def plR:Rs→Nat
 | .ok _ q=>q
 | .bad q=>q
structure Beg (m:Nat) (g g':Nat→Cl):Prop where
 same:∀ p,p<m→g' p=g p
 no:∀ p,m≤p→g p=.no
def LeE (t u:Ex):Prop:=cnt t≤cnt u∧dep t≤dep u
def Grows (t:Ex) (r:Rs):Prop:=∀ t' q',r=.ok t' q'→LeE t t'
theorem qf3 {g:Nat→Cl} {X:Nt} {p:Nat} {K:Ex→Nat→Rs→Prop} (h:∃ r,Rd g X p r) (hk:∀ a q,Rd g X p (.ok a q)→∃ r,K a q r):∃ r,qyJ g X p K r:=by
 obtain⟨r,hr⟩:=h;cases r with
 | bad e=>exact⟨.bad e,.inl ⟨e,hr,rfl⟩⟩
 | ok a q =>
  obtain⟨r,h2⟩:=hk a q hr;exact⟨r,.inr ⟨a,q,hr,h2⟩⟩
theorem quW:opL (clK .no)=0:=by decide
theorem quJ {g:Nat→Cl} {M:Nat} (hno:∀ p,M≤p→g p=.no):∀ (d p:Nat),M-p≤d→(∀ n,1≤n→n≤7→∃ r,Rd g (.lvl n) p r)∧∀ n a,1≤n→n≤5→∃ r,Rd g (.loop n a) p r
 | d,p,hd=>by
  have more:∀ q,p<q→p<M→(∀ n,1≤n→n≤7→∃ r,Rd g (.lvl n) q r)∧∀ n a,1≤n→n≤5→∃ r,Rd g (.loop n a) q r:=fun q hq hm=>by
   match d,hd with
   | 0,hd=>omega
   | d+1,hd=>exact quJ hno d q (by omega)
  have here:g p≠.no→p<M:=fun h=>by
   rcases Nat.lt_or_ge p M with h1|h1
   ·exact h1
   ·exact absurd (hno p h1) h
  have h7:∃ r,Rd g (.lvl 7) p r:=by
   cases hg:g p with
   | no=>exact⟨_,Rd.no hg⟩
   | leaf l=>exact⟨_,Rd.leaf hg⟩
   | mark s =>
    have hm:p<M:=here (by rw[hg];simp);by_cases hs:s=[40]
    ·subst hs;obtain⟨r,hr⟩:=qf3 (g:=g) (X:=.lvl 1) (p:=p+1) (K:=fun a q r=>r=if isM (g q) [41] then .ok a (q+1) else .bad q) ((more (p+1) (by omega) hm).1 1 (by omega) (by omega)) (fun a q _=>⟨_,rfl⟩);exact⟨r,Rd.bracket hg hr⟩
    ·exact⟨_,Rd.mark hg hs⟩
   | word k =>
    have hm:p<M:=here (by rw[hg];simp);by_cases hb:isM (g (p+1)) [40]=true
    ·obtain⟨r,hr⟩:=qf3 (g:=g) (X:=.lvl 1) (p:=p+2) (K:=fun a q r =>
       if wdN k=1 then r=(if isM (g q) [41] then .ok (.un k a) (q+1) else .bad q)
       else if isM (g q) [44] then qyJ g (.lvl 1) (q+1) (fun b q2 r=>r=if isM (g q2) [41] then .ok (.bi k a b) (q2+1) else .bad q2) r
       else r=.bad q) ((more (p+2) (by omega) hm).1 1 (by omega) (by omega)) (fun a q ha=>by
      have hf:=Rd.far ha;by_cases hw:wdN k=1
      ·simp only[if_pos hw];exact⟨_,rfl⟩
      ·simp only[if_neg hw];by_cases hc:isM (g q) [44]=true
       ·simp only[if_pos hc];exact qf3 ((more (q+1) (by omega) hm).1 1 (by omega) (by omega)) (fun b q2 _=>⟨_,rfl⟩)
       ·simp only[if_neg hc];exact⟨_,rfl⟩)
     exact⟨r,Rd.word hg (by rw[if_pos hb];exact hr)⟩
    ·exact⟨_,Rd.word hg (by rw[if_neg hb])⟩
  have h6:∃ r,Rd g (.lvl 6) p r:=by
   by_cases hs:sgK (g p)=0
   ·obtain⟨r,hr⟩:=h7;exact⟨r,Rd.six hs hr⟩
   ·have hm:p<M:=here (fun h=>hs (by rw[h];rfl));obtain⟨r,hr⟩:=qf3 (g:=g) (X:=.lvl 6) (p:=p+1) (K:=fun a q r=>r=.ok (.un (sgK (g p)) a) q) ((more (p+1) (by omega) hm).1 6 (by omega) (by omega)) (fun a q _=>⟨_,rfl⟩);exact⟨r,Rd.sign hs hr⟩
  have hl:∀ n a,1≤n→n≤5→∃ r,Rd g (.loop n a) p r:=fun n a h1 h5=>by
   by_cases ho:opL (clK (g p))=n
   ·have hm:p<M:=here (fun h=>by rw[h,quW] at ho;omega);obtain⟨r,hr⟩:=qf3 (g:=g) (X:=.lvl (n+1)) (p:=p+1) (K:=fun b q r=>if n=3 then r=.ok (.bi (clK (g p)) a b) q else Rd g (.loop n (.bi (clK (g p)) a b)) q r) ((more (p+1) (by omega) hm).1 (n+1) (by omega) (by omega)) (fun b q hb=>by
     have hf:=Rd.far hb;by_cases h3:n=3
     ·simp only[if_pos h3];exact⟨_,rfl⟩
     ·simp only[if_neg h3];exact(more q (by omega) hm).2 n _ h1 h5)
    exact⟨r,Rd.more ho hr⟩
   ·exact⟨_,Rd.stop ho⟩
  have hn:∀ k n,n+k=6→1≤n→∃ r,Rd g (.lvl n) p r:=by
   intro k
   induction k with
   | zero =>
    intro n h _;obtain rfl:n=6:=by omega
    exact h6
   | succ k ih =>
    intro n h h1;obtain⟨r,hr⟩:=qf3 (g:=g) (X:=.lvl (n+1)) (p:=p) (K:=fun a q r=>Rd g (.loop n a) q r) (ih (n+1) (by omega) (by omega)) (fun a q ha=>by
     have hf:=Rd.far ha;rcases Nat.lt_or_ge p M with hm|hm
     ·exact(more q hf hm).2 n a h1 (by omega)
     ·exact⟨_,Rd.stop (by rw[hno q (by omega),quW];omega)⟩)
    exact⟨r,Rd.lvl h1 (by omega) hr⟩
  exact⟨fun n h1 h2=>by
   rcases Nat.lt_or_ge n 7 with h|h
   ·exact hn (6-n) n (by omega) h1
   ·obtain rfl:n=7:=by omega
    exact h7,hl⟩
theorem q06 (L:List TokE) (k:Nat):∃ r,Rd (gL L) (.lvl 1) k r:=(quJ (M:=L.length) (fun p hp=>qtF (by omega)) (L.length-k) k (Nat.le_refl _)).1 1 (by omega) (by omega)
end Go.Proofs.YtenlhcgpajphhaaGreatDoor
