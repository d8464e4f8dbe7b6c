import Derived.Test.YtenlhcgpajphhaaGreatDoorMQuotePlain
import Derived.WalkKit
namespace Go.Proofs.YtenlhcgpajphhaaGreatDoor
open Go.RowKit
set_option linter.all false
inductive Lf where
 | int (v:Int)
 | real (b:Nat)
 | text (t:ByteArray)
 | bool (b:Bool)
 | var (t:ByteArray)
inductive Cl where
 | mark (s:List UInt8)
 | leaf (l:Lf)
 | word (k:Nat)
 | no
inductive Ex where
 | lf (l:Lf)
 | un (k:Nat) (a:Ex)
 | bi (k:Nat) (a b:Ex)
inductive Rs where
 | ok (t:Ex) (at_:Nat)
 | bad (at_:Nat)
def opK (s:List UInt8):Nat :=
 if s=[124,124] then 17 else if s=[38,38] then 16 else if s=[61,61] then 10 else if s=[33,61] then 11 else if s=[60] then 12 else if s=[60,61] then 13
 else if s=[62] then 14 else if s=[62,61] then 15 else if s=[43] then 5 else if s=[45] then 6 else if s=[42] then 7 else if s=[47] then 8 else if s=[37] then 9 else 0
def opL (k:Nat):Nat:=if k=17 then 1 else if k=16 then 2 else if 10≤k∧k≤15 then 3 else if k=5∨k=6 then 4 else if 7≤k∧k≤9 then 5 else 0
def clK:Cl→Nat
 | .mark s=>opK s
 | _=>0
def sgK:Cl→Nat
 | .mark s=>if s=[45] then 3 else if s=[33] then 4 else 0
 | _=>0
def wdN (k:Nat):Nat:=if k=21∨k=24∨k=25 then 2 else 1
def isM (c:Cl) (s:List UInt8):Bool :=
 match c with
 | .mark t=>t==s
 | _=>false
inductive Nt where
 | lvl (n:Nat)
 | loop (n:Nat) (a:Ex)
def thenR (o:Option Rs) (k:Ex→Nat→Option Rs):Option Rs :=
 match o with
 | none=>none
 | some (.bad e)=>some (.bad e)
 | some (.ok a e)=>k a e
def rd (g:Nat→Cl):Nat→Nt→Nat→Option Rs
 | 0,_,_=>none
 | f+1,.lvl n,p =>
  if n=7 then
   match g p with
   | .leaf l=>some (.ok (.lf l) (p+1))
   | .mark s=>if s=[40] then thenR (rd g f (.lvl 1) (p+1)) fun a q=>if isM (g q) [41] then some (.ok a (q+1)) else some (.bad q) else some (.bad p)
   | .word k =>
    if isM (g (p+1)) [40] then
     thenR (rd g f (.lvl 1) (p+2)) fun a q =>
      if wdN k=1 then (if isM (g q) [41] then some (.ok (.un k a) (q+1)) else some (.bad q))
      else if isM (g q) [44] then
       thenR (rd g f (.lvl 1) (q+1)) fun b q2=>if isM (g q2) [41] then some (.ok (.bi k a b) (q2+1)) else some (.bad q2)
      else some (.bad q)
    else some (.bad (p+1))
   | .no=>some (.bad p)
  else if n=6 then
   if sgK (g p)=0 then rd g f (.lvl 7) p else thenR (rd g f (.lvl 6) (p+1)) fun a q=>some (.ok (.un (sgK (g p)) a) q)
  else thenR (rd g f (.lvl (n+1)) p) fun a q=>rd g f (.loop n a) q
 | f+1,.loop n a,p =>
  if opL (clK (g p))=n then
   thenR (rd g f (.lvl (n+1)) (p+1)) fun b q=>if n=3 then some (.ok (.bi (clK (g p)) a b) q) else rd g f (.loop n (.bi (clK (g p)) a b)) q
  else some (.ok a p)
theorem thenR_mono {o o':Option Rs} {k k':Ex→Nat→Option Rs} {r:Rs} (h1:∀ x,o=some x→o'=some x) (h2:∀ a q x,k a q=some x→k' a q=some x) (h:thenR o k=some r):thenR o' k'=some r:=by
 unfold thenR at h ⊢;cases ho:o with
 | none=>rw[ho] at h;cases h
 | some x =>
  rw[h1 x ho];rw[ho] at h;cases x with
  | ok a e=>exact h2 a e r h
  | bad e=>exact h
theorem rd_succ (g:Nat→Cl):∀ (f:Nat) (X:Nt) (p:Nat) (r:Rs),rd g f X p=some r→rd g (f+1) X p=some r:=by
 intro f
 induction f with
 | zero=>intro X p r h;unfold rd at h;cases h
 | succ f ih =>
  intro X p r h;cases X with
  | lvl n =>
   rw[rd] at h ⊢;split
   ·rename_i hn;rw[if_pos hn] at h;cases hg:g p with
    | leaf l=>rw[hg] at h;exact h
    | mark s =>
     rw[hg] at h;simp only at h ⊢;split
     ·rename_i hs;rw[if_pos hs] at h;exact thenR_mono (fun x=>ih _ _ x) (fun a q x hx=>hx) h
     ·rename_i hs;rw[if_neg hs] at h;exact h
    | word k =>
     rw[hg] at h;simp only at h ⊢;split
     ·rename_i hs;rw[if_pos hs] at h;refine thenR_mono (fun x=>ih _ _ x) (fun a q x hx=>?_) h;split
      ·rename_i hw;rw[if_pos hw] at hx;exact hx
      ·rename_i hw;rw[if_neg hw] at hx;split
       ·rename_i hc;rw[if_pos hc] at hx;exact thenR_mono (fun x=>ih _ _ x) (fun a q x hx=>hx) hx
       ·rename_i hc;rw[if_neg hc] at hx;exact hx
     ·rename_i hs;rw[if_neg hs] at h;exact h
    | no=>rw[hg] at h;exact h
   ·rename_i hn;rw[if_neg hn] at h;split
    ·rename_i h6;rw[if_pos h6] at h;split
     ·rename_i hs;rw[if_pos hs] at h;exact ih _ _ _ h
     ·rename_i hs;rw[if_neg hs] at h;exact thenR_mono (fun x=>ih _ _ x) (fun a q x hx=>hx) h
    ·rename_i h6;rw[if_neg h6] at h;exact thenR_mono (fun x=>ih _ _ x) (fun a q x=>ih _ _ x) h
  | loop n a =>
   rw[rd] at h ⊢;split
   ·rename_i hn;rw[if_pos hn] at h;refine thenR_mono (fun x=>ih _ _ x) (fun b q x hx=>?_) h;split
    ·rename_i h3;rw[if_pos h3] at hx;exact hx
    ·rename_i h3;rw[if_neg h3] at hx;exact ih _ _ _ hx
   ·rename_i hn;rw[if_neg hn] at h;exact h
theorem rd_le {g:Nat→Cl} {f f':Nat} {X:Nt} {p:Nat} {r:Rs} (h:rd g f X p=some r) (hf:f≤f'):rd g f' X p=some r:=by
 obtain⟨d,rfl⟩:=Nat.le.dest hf
 induction d with
 | zero=>exact h
 | succ d ih=>exact rd_succ g _ _ _ _ (ih (by omega))
def Rd (g:Nat→Cl) (X:Nt) (p:Nat) (r:Rs):Prop:=∃ f,rd g f X p=some r
theorem Rd.one {g:Nat→Cl} {X:Nt} {p:Nat} {r r':Rs} (h:Rd g X p r) (h':Rd g X p r'):r=r':=by
 obtain⟨f,hf⟩:=h;obtain⟨f',hf'⟩:=h';have h1:=rd_le hf (Nat.le_max_left f f');have h2:=rd_le hf' (Nat.le_max_right f f');rw[h1] at h2;exact Option.some.inj h2
def Then (g:Nat→Cl) (X:Nt) (p:Nat) (K:Ex→Nat→Rs→Prop) (r:Rs):Prop:=(∃ e,Rd g X p (.bad e)∧r=.bad e)∨∃ a q,Rd g X p (.ok a q)∧K a q r
theorem Rd.lvl {g:Nat→Cl} {n p:Nat} {r:Rs} (h1:1≤n) (h5:n≤5) (h:Then g (.lvl (n+1)) p (fun a q r=>Rd g (.loop n a) q r) r):Rd g (.lvl n) p r:=by
 rcases h with ⟨e,⟨f,hf⟩,rfl⟩|⟨a,q,⟨f,hf⟩,f',hf'⟩
 ·refine⟨f+1,?_⟩;rw[rd,if_neg (by omega),if_neg (by omega),hf];rfl
 ·refine⟨max f f'+1,?_⟩;rw[rd,if_neg (by omega),if_neg (by omega),rd_le hf (Nat.le_max_left f f')];exact rd_le hf' (Nat.le_max_right f f')
theorem Rd.stop {g:Nat→Cl} {n p:Nat} {a:Ex} (h:opL (clK (g p))≠n):Rd g (.loop n a) p (.ok a p):=⟨1,by rw[rd,if_neg h]⟩
theorem Rd.more {g:Nat→Cl} {n p:Nat} {a:Ex} {r:Rs} (h:opL (clK (g p))=n)
  (h2:Then g (.lvl (n+1)) (p+1) (fun b q r=>if n=3 then r=.ok (.bi (clK (g p)) a b) q else Rd g (.loop n (.bi (clK (g p)) a b)) q r) r):Rd g (.loop n a) p r:=by
 rcases h2 with ⟨e,⟨f,hf⟩,rfl⟩|⟨b,q,⟨f,hf⟩,h3⟩
 ·exact⟨f+1,by rw[rd,if_pos h,hf];rfl⟩
 ·by_cases hn:n=3
  ·rw[if_pos hn] at h3;exact⟨f+1,by rw[rd,if_pos h,hf,h3];show (if n=3 then _ else _)=_;rw[if_pos hn]⟩
  ·rw[if_neg hn] at h3;obtain⟨f',hf'⟩:=h3;refine⟨max f f'+1,?_⟩;rw[rd,if_pos h,rd_le hf (Nat.le_max_left f f')];show (if n=3 then _ else _)=_;rw[if_neg hn];exact rd_le hf' (Nat.le_max_right f f')
theorem Rd.sign {g:Nat→Cl} {p:Nat} {r:Rs} (hs:sgK (g p)≠0) (h:Then g (.lvl 6) (p+1) (fun a q r=>r=.ok (.un (sgK (g p)) a) q) r):Rd g (.lvl 6) p r:=by
 rcases h with ⟨e,⟨f,hf⟩,rfl⟩|⟨a,q,⟨f,hf⟩,rfl⟩
 ·exact⟨f+1,by rw[rd,if_neg (by decide),if_pos rfl,if_neg hs,hf];rfl⟩
 ·exact⟨f+1,by rw[rd,if_neg (by decide),if_pos rfl,if_neg hs,hf];rfl⟩
theorem Rd.six {g:Nat→Cl} {p:Nat} {r:Rs} (hs:sgK (g p)=0) (h:Rd g (.lvl 7) p r):Rd g (.lvl 6) p r:=by
 obtain⟨f,hf⟩:=h;exact⟨f+1,by rw[rd,if_neg (by decide),if_pos rfl,if_pos hs,hf]⟩
theorem Rd.leaf {g:Nat→Cl} {p:Nat} {l:Lf} (h:g p=.leaf l):Rd g (.lvl 7) p (.ok (.lf l) (p+1)):=⟨1,by rw[rd,if_pos rfl,h]⟩
theorem Rd.no {g:Nat→Cl} {p:Nat} (h:g p=.no):Rd g (.lvl 7) p (.bad p):=⟨1,by rw[rd,if_pos rfl,h]⟩
theorem Rd.mark {g:Nat→Cl} {p:Nat} {s:List UInt8} (h:g p=.mark s) (hs:s≠[40]):Rd g (.lvl 7) p (.bad p):=⟨1,by rw[rd,if_pos rfl,h];exact if_neg hs⟩
theorem Rd.bracket {g:Nat→Cl} {p:Nat} {r:Rs} (h:g p=.mark [40]) (h2:Then g (.lvl 1) (p+1) (fun a q r=>r=if isM (g q) [41] then .ok a (q+1) else .bad q) r):Rd g (.lvl 7) p r:=by
 rcases h2 with ⟨e,⟨f,hf⟩,rfl⟩|⟨a,q,⟨f,hf⟩,rfl⟩
 ·refine⟨f+1,?_⟩;rw[rd,if_pos rfl,h];simp only;rw[if_pos trivial,hf];rfl
 ·refine⟨f+1,?_⟩;rw[rd,if_pos rfl,h];simp only;rw[if_pos trivial,hf];show (if isM (g q) [41]=true then _ else _)=_;split <;> rfl
theorem Rd.word {g:Nat→Cl} {p k:Nat} {r:Rs} (h:g p=.word k)
  (h2:if isM (g (p+1)) [40] then
    Then g (.lvl 1) (p+2) (fun a q r =>
     if wdN k=1 then r=(if isM (g q) [41] then .ok (.un k a) (q+1) else .bad q)
     else if isM (g q) [44] then Then g (.lvl 1) (q+1) (fun b q2 r=>r=if isM (g q2) [41] then .ok (.bi k a b) (q2+1) else .bad q2) r
     else r=.bad q) r
   else r=.bad (p+1)):Rd g (.lvl 7) p r:=by
 by_cases hb:isM (g (p+1)) [40]=true
 ·rw[if_pos hb] at h2;rcases h2 with ⟨e,⟨f,hf⟩,rfl⟩|⟨a,q,⟨f,hf⟩,h3⟩
  ·refine⟨f+1,?_⟩;rw[rd,if_pos rfl,h];simp only;rw[if_pos hb,hf];rfl
  ·by_cases hw:wdN k=1
   ·rw[if_pos hw] at h3;refine⟨f+1,?_⟩;rw[rd,if_pos rfl,h];simp only;rw[if_pos hb,hf];show (if wdN k=1 then _ else _)=_;rw[if_pos hw,h3];split <;> rfl
   ·rw[if_neg hw] at h3;by_cases hc:isM (g q) [44]=true
    ·rw[if_pos hc] at h3;rcases h3 with ⟨e,⟨f',hf'⟩,rfl⟩|⟨b,q2,⟨f',hf'⟩,rfl⟩
     ·refine⟨max f f'+1,?_⟩;rw[rd,if_pos rfl,h];simp only;rw[if_pos hb,rd_le hf (Nat.le_max_left f f')];show (if wdN k=1 then _ else _)=_;rw[if_neg hw,if_pos hc,rd_le hf' (Nat.le_max_right f f')];rfl
     ·refine⟨max f f'+1,?_⟩;rw[rd,if_pos rfl,h];simp only;rw[if_pos hb,rd_le hf (Nat.le_max_left f f')];show (if wdN k=1 then _ else _)=_;rw[if_neg hw,if_pos hc,rd_le hf' (Nat.le_max_right f f')];show (if isM (g q2) [41]=true then _ else _)=_;split <;> rfl
    ·rw[if_neg hc] at h3;refine⟨f+1,?_⟩;rw[rd,if_pos rfl,h];simp only;rw[if_pos hb,hf];show (if wdN k=1 then _ else _)=_;rw[if_neg hw,if_neg hc,h3]
 ·rw[if_neg hb] at h2;refine⟨1,?_⟩;rw[rd,if_pos rfl,h];simp only;rw[if_neg hb,h2]
def topL (on:Nat):Nat:=if on=3 then 2 else min on 5
def lowP (l:Nat) (isB:Bool):Nat:=if isB=true∨l=3 then l+1 else l
def Chain (g:Nat→Cl) (n:Nat):Nat→Ex→Nat→Rs→Prop
 | 0,a,p,r=>r=.ok a p
 | m+1,a,p,r=>if m+1<n then r=.ok a p else Then g (.loop (m+1) a) p (fun a1 q r=>Chain g n m a1 q r) r
theorem chain_end {g:Nat→Cl} {n m:Nat} {a:Ex} {p:Nat} {r:Rs} (h:m<n):Chain g n m a p r ↔ r=.ok a p:=by
 cases m with
 | zero=>exact Iff.rfl
 | succ m=>rw[Chain,if_pos h]
theorem chain_more {g:Nat→Cl} {n m:Nat} {a:Ex} {p:Nat} {r:Rs} (h:n≤m+1):Chain g n (m+1) a p r ↔ Then g (.loop (m+1) a) p (fun a1 q r=>Chain g n m a1 q r) r:=by
 rw[Chain,if_neg (by omega)]
theorem chain_split {g:Nat→Cl} {n:Nat} (h1:1≤n):∀ (m:Nat) (a:Ex) (p:Nat) (r:Rs),n≤m→Chain g n m a p r →
  (∃ e,Chain g (n+1) m a p (.bad e)∧r=.bad e)∨∃ a1 q,Chain g (n+1) m a p (.ok a1 q)∧Rd g (.loop n a1) q r:=by
 intro m
 induction m with
 | zero=>intro a p r h _;omega
 | succ m ih =>
  intro a p r h hc;rw[chain_more h] at hc;rcases Nat.lt_or_ge m n with hlt|hge
  ·have hmn:m+1=n:=by omega
   refine .inr ⟨a,p,(chain_end (by omega)).2 rfl,?_⟩;rcases hc with ⟨e,h2,rfl⟩|⟨a1,q,h2,h3⟩
   ·rw[hmn] at h2;exact h2
   ·rw[chain_end (by omega)] at h3;rw[h3,← hmn];exact h2
  ·rcases hc with ⟨e,h2,rfl⟩|⟨a1,q,h2,h3⟩
   ·exact .inl ⟨e,(chain_more (by omega)).2 (.inl ⟨e,h2,rfl⟩),rfl⟩
   ·rcases ih a1 q r hge h3 with ⟨e,h4,rfl⟩|⟨a2,q2,h4,h5⟩
    ·exact .inl ⟨e,(chain_more (by omega)).2 (.inr ⟨a1,q,h2,h4⟩),rfl⟩
    ·exact .inr ⟨a2,q2,(chain_more (by omega)).2 (.inr ⟨a1,q,h2,h4⟩),h5⟩
theorem chain_lvl {g:Nat→Cl}:∀ (d n p:Nat) (r:Rs),n+d=6→1≤n→Then g (.lvl 6) p (fun a q r=>Chain g n 5 a q r) r→Rd g (.lvl n) p r:=by
 intro d
 induction d with
 | zero =>
  intro n p r hn h1 h;obtain rfl:n=6:=by omega
  rcases h with ⟨e,h2,rfl⟩|⟨a,q,h2,h3⟩
  ·exact h2
  ·rw[chain_end (by omega)] at h3;rw[h3];exact h2
 | succ d ih =>
  intro n p r hn h1 h;refine Rd.lvl h1 (by omega) ?_;rcases h with ⟨e,h2,rfl⟩|⟨a,q,h2,h3⟩
  ·exact .inl ⟨e,ih (n+1) p _ (by omega) (by omega) (.inl ⟨e,h2,rfl⟩),rfl⟩
  ·rcases chain_split h1 5 a q r (by omega) h3 with ⟨e,h4,rfl⟩|⟨a1,q1,h4,h5⟩
   ·exact .inl ⟨e,ih (n+1) p _ (by omega) (by omega) (.inr ⟨a,q,h2,h4⟩),rfl⟩
   ·exact .inr ⟨a1,q1,ih (n+1) p _ (by omega) (by omega) (.inr ⟨a,q,h2,h4⟩),h5⟩
theorem chain_stop {g:Nat→Cl} {n:Nat} {a:Ex} {p:Nat}:∀ s:Nat,¬ (n≤opL (clK (g p))∧opL (clK (g p))≤s)→Chain g n s a p (.ok a p):=by
 intro s
 induction s with
 | zero=>intro _;exact rfl
 | succ s ih =>
  intro h;rcases Nat.lt_or_ge (s+1) n with hlt|hge
  ·exact(chain_end hlt).2 rfl
  ·refine(chain_more hge).2 (.inr ⟨a,p,Rd.stop (by omega),ih (by omega)⟩)
theorem chain_step {g:Nat→Cl} {n l:Nat} {a:Ex} {p:Nat} {r:Rs} (hl:opL (clK (g p))=l) (h1:1≤l) (hn:n≤l)
  (h:Then g (.lvl (l+1)) (p+1) (fun b q r=>Chain g n (if l=3 then 2 else l) (.bi (clK (g p)) a b) q r) r):∀ s:Nat,l≤s→Chain g n s a p r:=by
 intro s
 induction s with
 | zero=>intro hs;omega
 | succ s ih =>
  intro hs;refine(chain_more (by omega)).2 ?_;rcases Nat.lt_or_ge s l with hlt|hge
  ·have hsl:s+1=l:=by omega
   rcases h with ⟨e,h2,rfl⟩|⟨b,q,h2,h3⟩
   ·exact .inl ⟨e,Rd.more (by rw[hsl];exact hl) (.inl ⟨e,by rw[hsl];exact h2,rfl⟩),rfl⟩
   ·by_cases h33:l=3
    ·rw[if_pos h33] at h3;refine .inr ⟨.bi (clK (g p)) a b,q,Rd.more (by rw[hsl];exact hl) (.inr ⟨b,q,by rw[hsl];exact h2,?_⟩),?_⟩
     ·simp only;rw[if_pos (by omega)]
      trivial
     ·rw[show s=2 by omega];exact h3
    ·rw[if_neg h33,← hsl,chain_more (by omega)] at h3;rcases h3 with ⟨e,h4,rfl⟩|⟨a1,q1,h4,h5⟩
     ·refine .inl ⟨e,Rd.more (by rw[hsl];exact hl) (.inr ⟨b,q,by rw[hsl];exact h2,?_⟩),rfl⟩;simp only;rw[if_neg (by omega)];exact h4
     ·refine .inr ⟨a1,q1,Rd.more (by rw[hsl];exact hl) (.inr ⟨b,q,by rw[hsl];exact h2,?_⟩),h5⟩;simp only;rw[if_neg (by omega)];exact h4
  ·exact .inr ⟨a,p,Rd.stop (by omega),ih hge⟩
theorem climb_ends {n l on:Nat} (h1:1≤n) (hl:l≤5) (ho:1≤on) (ho2:on≤6):(l<n∨on<lowP l false) ↔ ¬ (n≤l∧l≤topL on):=by
 unfold lowP topL;simp only[Bool.false_eq_true,false_or];constructor
 ·intro h;split at h <;> split <;> omega
 ·intro h;split at h <;> split <;> omega
theorem opL_le (k:Nat):opL k≤5:=by
 unfold opL
 repeat' split
 all_goals omega
structure TokE where
 kd:Int
 tx:ByteArray
 iv:Int
 rl:Nat
 pl:Int
 sz:Int
instance:Inhabited TokE:=⟨⟨0,⟨#[]⟩,0,0,0,0⟩⟩
def nameB (l:List UInt8):Bool:=decide (0<l.length) && decide (l.length≤32) && letterB (bAt l 0) && l.all wordB
def wordK (l:List UInt8):Nat :=
 if l=[114,101] then 18 else if l=[105,109] then 19 else if l=[115,105,122,101,50] then 20 else if l=[99,111,109,112] then 21 else if l=[114,101,97,108] then 22
 else if l=[108,101,110] then 23 else if l=[97,116] then 24 else if l=[99,97,116] then 25 else if l=[115,116,114] then 26 else 0
def clT (t:TokE):Cl :=
 if t.kd=5 then .mark t.tx.data.toList
 else if t.kd=2 then (if 0≤t.iv then .leaf (.int t.iv) else .no)
 else if t.kd=3 then (if t.rl<9218868437227405312 then .leaf (.real t.rl) else .no)
 else if t.kd=4 then (if t.tx.size≤256 then .leaf (.text t.tx) else .no)
 else if t.kd=1 then
  (if nameB t.tx.data.toList=true then
   (if t.tx.data.toList=[116,114,117,101] then .leaf (.bool true) else if t.tx.data.toList=[102,97,108,115,101] then .leaf (.bool false)
    else if wordK t.tx.data.toList=0 then .leaf (.var t.tx) else .word (wordK t.tx.data.toList))
   else .no)
 else .no
def gL (L:List TokE) (k:Nat):Cl:=if k<L.length then clT (L.getD k default) else .no
def markT (L:List TokE) (k:Nat):ByteArray:=if k<L.length∧(L.getD k default).kd=5 then (L.getD k default).tx else ⟨#[]⟩
theorem clK_mark (L:List TokE) (k:Nat):clK (gL L k)=opK (markT L k).data.toList:=by
 unfold gL markT;by_cases h:k<L.length
 ·rw[if_pos h];by_cases h5:(L.getD k default).kd=5
  ·rw[if_pos ⟨h,h5⟩];unfold clT;rw[if_pos h5];rfl
  ·rw[if_neg (fun x=>h5 x.2)];unfold clT;rw[if_neg h5];have e:opK (⟨#[]⟩:ByteArray).data.toList=0:=by decide
   rw[e]
   repeat' split
   all_goals rfl
 ·rw[if_neg h,if_neg (fun x=>h x.1)];rfl
theorem isM_mark (L:List TokE) (k:Nat) (s:List UInt8) (hs:s≠[]):isM (gL L k) s=((markT L k).data.toList==s):=by
 unfold gL markT;have e0:((⟨#[]⟩:ByteArray).data.toList==s)=false:=beq_eq_false_iff_ne.2 (fun h=>hs h.symm);by_cases h:k<L.length
 ·rw[if_pos h];by_cases h5:(L.getD k default).kd=5
  ·rw[if_pos ⟨h,h5⟩];unfold clT;rw[if_pos h5];rfl
  ·rw[if_neg (fun x=>h5 x.2),e0];unfold clT;rw[if_neg h5]
   repeat' split
   all_goals rfl
 ·rw[if_neg h,if_neg (fun x=>h x.1),e0];rfl
def sgM (s:List UInt8):Nat:=if s=[45] then 3 else if s=[33] then 4 else 0
theorem sgK_mark (L:List TokE) (k:Nat):sgK (gL L k)=sgM (markT L k).data.toList:=by
 unfold gL markT;by_cases h:k<L.length
 ·rw[if_pos h];by_cases h5:(L.getD k default).kd=5
  ·rw[if_pos ⟨h,h5⟩];unfold clT;rw[if_pos h5];rfl
  ·rw[if_neg (fun x=>h5 x.2)];unfold clT;rw[if_neg h5];have e:sgM (⟨#[]⟩:ByteArray).data.toList=0:=by decide
   rw[e]
   repeat' split
   all_goals rfl
 ·rw[if_neg h,if_neg (fun x=>h x.1)];rfl
def shTx (i:Nat):List UInt8:=[[],[],[],[45],[33],[43],[45],[42],[47],[37],[61,61],[33,61],[60],[60,61],[62],[62,61],[38,38],[124,124],[114,101],[105,109],[115,105,122,101,50],[99,111,109,112],[114,101,97,108],[108,101,110],[97,116],[99,97,116],[115,116,114]].getD i []
def shLv (i:Nat):Nat:=[0,7,7,6,6,4,4,5,5,5,3,3,3,3,3,3,2,1,7,7,7,7,7,7,7,7,7].getD i 0
def shCh (i:Nat):Nat:=[0,0,0,1,1,2,2,2,2,2,2,2,2,2,2,2,2,2,1,1,1,2,1,1,2,2,1].getD i 0
theorem ite_of {P:Nat→Prop} {c:Prop} [Decidable c] {a b:Nat} (h1:P a) (h2:P b):P (if c then a else b):=by
 by_cases h:c
 ·rw[if_pos h];exact h1
 ·rw[if_neg h];exact h2
theorem opK_of (P:Nat→Prop) (h0:P 0) (h:∀ k,5≤k→k≤17→P k) (s:List UInt8):P (opK s):=by
 unfold opK;exact ite_of (h 17 (by omega) (by omega)) (ite_of (h 16 (by omega) (by omega)) (ite_of (h 10 (by omega) (by omega)) (ite_of (h 11 (by omega) (by omega)) (ite_of (h 12 (by omega) (by omega)) (ite_of (h 13 (by omega) (by omega)) (ite_of (h 14 (by omega) (by omega))
  (ite_of (h 15 (by omega) (by omega)) (ite_of (h 5 (by omega) (by omega)) (ite_of (h 6 (by omega) (by omega)) (ite_of (h 7 (by omega) (by omega)) (ite_of (h 8 (by omega) (by omega)) (ite_of (h 9 (by omega) (by omega)) h0))))))))))))
theorem opK_lt (s:List UInt8):opK s<27:=opK_of (fun k=>k<27) (by omega) (fun k _ _=>by omega) s
theorem shLv_op (s:List UInt8):shLv (opK s)=opL (opK s):=by
 refine opK_of (fun k=>shLv k=opL k) rfl (fun k h5 h17=>?_) s;have:∀ k:Fin 18,5≤k.val→shLv k.val=opL k.val:=by decide
 exact this ⟨k,by omega⟩ h5
structure Nd where
 k:Int
 a:Int
 b:Int
 nm:ByteArray
 vk:Int
 vi:Int
 rl:Nat
 re:Nat
 im:Nat
 tx:ByteArray
def ndCells (n:Nd):List Value:=[.int .i64 n.k,.int .i64 n.a,.int .i64 n.b,.string n.nm,.int .i64 n.vk,.int .i64 n.vi,.float .f64 n.rl,.complex .f64 n.re n.im,.string n.tx]
def flatN (ns:List Nd):List Value:=ns.flatMap ndCells
def leafN:Lf→Nd
 | .int v=>⟨1,0,0,⟨#[]⟩,1,v,0,0,0,⟨#[]⟩⟩
 | .real b=>⟨1,0,0,⟨#[]⟩,2,0,b,0,0,⟨#[]⟩⟩
 | .text t=>⟨1,0,0,⟨#[]⟩,4,0,0,0,0,t⟩
 | .bool b=>⟨1,0,0,⟨#[]⟩,5,if b then 1 else 0,0,0,0,⟨#[]⟩⟩
 | .var t=>⟨2,0,0,t,0,0,0,0,0,⟨#[]⟩⟩
def pairN (k a b:Int):Nd:=⟨k,a,b,⟨#[]⟩,0,0,0,0,0,⟨#[]⟩⟩
def cnt:Ex→Nat
 | .lf _=>1
 | .un _ a=>cnt a+1
 | .bi _ a b=>cnt a+cnt b+1
def dep:Ex→Nat
 | .lf _=>1
 | .un _ a=>dep a+1
 | .bi _ a b=>max (dep a) (dep b)+1
def lay:Nat→Ex→List Nd
 | _,.lf l=>[leafN l]
 | o,.un k a=>lay o a++[pairN k (o+cnt a-1:Nat) 0]
 | o,.bi k a b=>lay o a++(lay (o+cnt a) b++[pairN k (o+cnt a-1:Nat) (o+cnt a+cnt b-1:Nat)])
theorem cnt_pos (t:Ex):1≤cnt t:=by
 cases t <;> simp[cnt]
theorem lay_len:∀ (t:Ex) (o:Nat),(lay o t).length=cnt t:=by
 intro t
 induction t with
 | lf l=>intro o;rfl
 | un k a ih=>intro o;simp[lay,cnt,ih o]
 | bi k a b iha ihb=>intro o;simp[lay,cnt,iha o,ihb (o+cnt a)];omega
def okL:Lf→Bool
 | .int v=>decide (0≤v)
 | .real b=>decide (b<9218868437227405312)
 | .text t=>decide (t.size≤256)
 | .bool _=>true
 | .var t=>nameB t.data.toList && !(t.data.toList==[116,114,117,101]) && !(t.data.toList==[102,97,108,115,101]) && decide (wordK t.data.toList=0)
def WfT:Ex→Prop
 | .lf l=>okL l=true
 | .un k a=>k<27∧shCh k=1∧WfT a
 | .bi k a b=>k<27∧shCh k=2∧WfT a∧WfT b
theorem thenR_ok {o:Option Rs} {k:Ex→Nat→Option Rs} {t:Ex} {q:Nat} (h:thenR o k=some (.ok t q)):∃ a e,o=some (.ok a e)∧k a e=some (.ok t q):=by
 unfold thenR at h;cases o with
 | none=>cases h
 | some r =>
  cases r with
  | bad e=>cases h
  | ok a e=>exact⟨a,e,rfl,h⟩
theorem rd_wf {g:Nat→Cl} (hl:∀ k l,g k=.leaf l→okL l=true) (hw:∀ k v,g k=.word v→v<27∧shCh v=wdN v) :
  ∀ (f:Nat) (X:Nt) (p:Nat) (t:Ex) (q:Nat),(∀ n a,X=.loop n a→WfT a∧1≤n)→(∀ n,X=.lvl n→1≤n)→rd g f X p=some (.ok t q)→WfT t:=by
 intro f
 induction f with
 | zero=>intro X p t q _ _ h;unfold rd at h;cases h
 | succ f ih =>
  intro X p t q hX hX2 h;have ih2:∀ (n p:Nat) (t:Ex) (q:Nat),1≤n→rd g f (.lvl n) p=some (.ok t q)→WfT t:=fun n p t q hn h=>ih (.lvl n) p t q (fun _ _ e=>by cases e) (fun _ e=>by cases e;exact hn) h;cases X with
  | lvl n =>
   rw[rd] at h;split at h
   ·cases hg:g p with
    | leaf l =>
     rw[hg] at h;simp only[Option.some.injEq,Rs.ok.injEq] at h;rw[← h.1];exact hl p l hg
    | mark s =>
     rw[hg] at h;simp only at h;split at h
     ·obtain⟨a,e,h1,h2⟩:=thenR_ok h;split at h2
      ·simp only[Option.some.injEq,Rs.ok.injEq] at h2;rw[← h2.1];exact ih2 _ _ _ _ (by omega) h1
      ·cases h2
     ·cases h
    | word k =>
     rw[hg] at h;simp only at h;split at h
     ·obtain⟨a,e,h1,h2⟩:=thenR_ok h;obtain⟨hk,hc⟩:=hw p k hg;split at h2
      ·rename_i hn;split at h2
       ·simp only[Option.some.injEq,Rs.ok.injEq] at h2;rw[← h2.1];exact⟨hk,hc.trans hn,ih2 _ _ _ _ (by omega) h1⟩
       ·cases h2
      ·rename_i hn;split at h2
       ·obtain⟨b,e2,h3,h4⟩:=thenR_ok h2;split at h4
        ·simp only[Option.some.injEq,Rs.ok.injEq] at h4;rw[← h4.1];refine⟨hk,?_,ih2 _ _ _ _ (by omega) h1,ih2 _ _ _ _ (by omega) h3⟩;rw[hc];unfold wdN at hn ⊢;split
         ·rfl
         ·rename_i h5;rw[if_neg h5] at hn;exact absurd rfl hn
        ·cases h4
       ·cases h2
     ·cases h
    | no=>rw[hg] at h;cases h
   ·split at h
    ·split at h
     ·exact ih2 _ _ _ _ (by omega) h
     ·rename_i hs;obtain⟨a,e,h1,h2⟩:=thenR_ok h;simp only[Option.some.injEq,Rs.ok.injEq] at h2;rw[← h2.1];have hk:sgK (g p)=3∨sgK (g p)=4:=by
       cases hg:g p with
       | mark s =>
        rw[hg] at hs;unfold sgK at hs ⊢;simp only at hs ⊢;split
        ·exact .inl rfl
        ·rename_i h3;rw[if_neg h3] at hs;split
         ·exact .inr rfl
         ·rename_i h4;rw[if_neg h4] at hs;exact absurd rfl hs
       | leaf l=>rw[hg] at hs;exact absurd rfl hs
       | word k=>rw[hg] at hs;exact absurd rfl hs
       | no=>rw[hg] at hs;exact absurd rfl hs
      rcases hk with hk|hk <;> rw[hk] <;> exact⟨by omega,rfl,ih2 _ _ _ _ (by omega) h1⟩
    ·rename_i h7 h6;obtain⟨a,e,h1,h2⟩:=thenR_ok h;have hn:=hX2 n rfl;exact ih _ _ _ _ (fun n' a' he=>by cases he;exact⟨ih2 _ _ _ _ (by omega) h1,hn⟩) (fun _ e=>by cases e) h2
  | loop n a =>
   obtain⟨ha,hn1⟩:=hX n a rfl;rw[rd] at h;split at h
   ·rename_i hop;obtain⟨b,e,h1,h2⟩:=thenR_ok h;have hb:=ih2 _ _ _ _ (by omega) h1;have hk:clK (g p)<27∧shCh (clK (g p))=2:=by
     cases hg:g p with
     | mark s =>
      rw[hg] at hop;show opK s<27∧shCh (opK s)=2;refine⟨opK_lt s,?_⟩;have h0:opK s≠0:=fun h0=>by
       have:opL (opK s)=n:=hop;rw[h0] at this;have e0:opL 0=0:=by decide
       omega
      exact opK_of (fun k=>k≠0→shCh k=2) (fun h=>absurd rfl h) (fun k h5 h17 _=>by
       have:∀ k:Fin 18,5≤k.val→shCh k.val=2:=by decide
       exact this ⟨k,by omega⟩ h5) s h0
     | leaf l=>rw[hg] at hop;have e0:opL (clK (.leaf l))=0:=rfl;omega
     | word k=>rw[hg] at hop;have e0:opL (clK (.word k))=0:=rfl;omega
     | no=>rw[hg] at hop;have e0:opL (clK .no)=0:=rfl;omega
    have hnew:WfT (.bi (clK (g p)) a b):=⟨hk.1,hk.2,ha,hb⟩
    split at h2
    ·simp only[Option.some.injEq,Rs.ok.injEq] at h2;rw[← h2.1];exact hnew
    ·exact ih _ _ _ _ (fun n' a' he=>by cases he;exact⟨hnew,hn1⟩) (fun _ e=>by cases e) h2
   ·simp only[Option.some.injEq,Rs.ok.injEq] at h;rw[← h.1];exact ha
theorem wordK_of (P:Nat→Prop) (h0:P 0) (h:∀ k,18≤k→k≤26→P k) (s:List UInt8):P (wordK s):=by
 unfold wordK;exact ite_of (h 18 (by omega) (by omega)) (ite_of (h 19 (by omega) (by omega)) (ite_of (h 20 (by omega) (by omega)) (ite_of (h 21 (by omega) (by omega)) (ite_of (h 22 (by omega) (by omega)) (ite_of (h 23 (by omega) (by omega)) (ite_of (h 24 (by omega) (by omega))
  (ite_of (h 25 (by omega) (by omega)) (ite_of (h 26 (by omega) (by omega)) h0))))))))
theorem wordK_lt (s:List UInt8):wordK s<27:=wordK_of (fun k=>k<27) (by omega) (fun k _ _=>by omega) s
theorem wordK_ch (s:List UInt8):wordK s≠0→shCh (wordK s)=wdN (wordK s) :=
 wordK_of (fun k=>k≠0→shCh k=wdN k) (fun h=>absurd rfl h) (fun k h18 h26 _=>by
  have:∀ k:Fin 27,18≤k.val→shCh k.val=wdN k.val:=by decide
  exact this ⟨k,by omega⟩ h18) s
theorem clT_leaf {t:TokE} {l:Lf} (h:clT t=.leaf l):okL l=true:=by
 unfold clT at h;split at h
 ·cases h
 split at h
 ·split at h
  ·rename_i h1;cases h;exact decide_eq_true h1
  ·cases h
 split at h
 ·split at h
  ·rename_i h1;cases h;exact decide_eq_true h1
  ·cases h
 split at h
 ·split at h
  ·rename_i h1;cases h;exact decide_eq_true h1
  ·cases h
 split at h
 ·split at h
  ·rename_i h1;split at h
   ·cases h;rfl
   ·rename_i h2;split at h
    ·cases h;rfl
    ·rename_i h3;split at h
     ·rename_i h4;cases h;show (nameB t.tx.data.toList && !(t.tx.data.toList==[116,114,117,101]) && !(t.tx.data.toList==[102,97,108,115,101]) && decide (wordK t.tx.data.toList=0))=true;rw[h1,beq_eq_false_iff_ne.2 h2,beq_eq_false_iff_ne.2 h3,decide_eq_true h4];rfl
     ·cases h
  ·cases h
 ·cases h
theorem clT_word {t:TokE} {v:Nat} (h:clT t=.word v):v<27∧shCh v=wdN v:=by
 unfold clT at h;split at h
 ·cases h
 split at h
 ·split at h <;> cases h
 split at h
 ·split at h <;> cases h
 split at h
 ·split at h <;> cases h
 split at h
 ·split at h
  ·split at h
   ·cases h
   ·split at h
    ·cases h
    ·split at h
     ·cases h
     ·rename_i h4;cases h;exact⟨wordK_lt _,wordK_ch _ h4⟩
  ·cases h
 ·cases h
theorem Rd.wf {L:List TokE} {n p:Nat} {t:Ex} {q:Nat} (hn:1≤n) (h:Rd (gL L) (.lvl n) p (.ok t q)):WfT t:=by
 obtain⟨f,hf⟩:=h;refine rd_wf (g:=gL L) (fun k l hk=>?_) (fun k v hk=>?_) f (.lvl n) p t q (fun _ _ e=>by cases e) (fun _ e=>by cases e;exact hn) hf
 ·unfold gL at hk;split at hk
  ·exact clT_leaf hk
  ·cases hk
 ·unfold gL at hk;split at hk
  ·exact clT_word hk
  ·cases hk
def fstL:Nat→Ex→List Nat
 | o,.lf _=>[o]
 | o,.un _ a=>fstL o a++[o]
 | o,.bi _ a b=>fstL o a++(fstL (o+cnt a) b++[o])
def depL:Ex→List Nat
 | .lf _=>[1]
 | .un _ a=>depL a++[dep a+1]
 | .bi _ a b=>depL a++(depL b++[max (dep a) (dep b)+1])
theorem fstL_len:∀ (t:Ex) (o:Nat),(fstL o t).length=cnt t:=by
 intro t
 induction t with
 | lf l=>intro o;rfl
 | un k a ih=>intro o;simp[fstL,cnt,ih o]
 | bi k a b iha ihb=>intro o;simp[fstL,cnt,iha o,ihb (o+cnt a)];omega
theorem depL_len:∀ (t:Ex),(depL t).length=cnt t:=by
 intro t
 induction t with
 | lf l=>rfl
 | un k a ih=>simp[depL,cnt,ih]
 | bi k a b iha ihb=>simp[depL,cnt,iha,ihb];omega
theorem getD_l {α:Type} {xs ys:List α} {d:α} {j:Nat} (h:j<xs.length):(xs++ys).getD j d=xs.getD j d:=by
 rw[List.getD_eq_getElem?_getD,List.getD_eq_getElem?_getD,List.getElem?_append_left h]
theorem getD_r {α:Type} {xs ys:List α} {d:α} {n j:Nat} (hn:xs.length=n) (h:n≤j):(xs++ys).getD j d=ys.getD (j-n) d:=by
 rw[List.getD_eq_getElem?_getD,List.getD_eq_getElem?_getD,List.getElem?_append_right (by omega),hn]
theorem fst_last:∀ (t:Ex) (o:Nat),(fstL o t).getD (cnt t-1) 0=o:=by
 intro t o;cases t with
 | lf l=>rfl
 | un k a=>show (fstL o a++[o]).getD (cnt a+1-1) 0=o;rw[getD_r (fstL_len a o) (by omega),show cnt a+1-1-cnt a=0 by omega];rfl
 | bi k a b =>
  show (fstL o a++(fstL (o+cnt a) b++[o])).getD (cnt a+cnt b+1-1) 0=o;rw[getD_r (fstL_len a o) (by omega),getD_r (fstL_len b _) (by omega),show cnt a+cnt b+1-1-cnt a-cnt b=0 by omega];rfl
theorem dep_last:∀ (t:Ex),(depL t).getD (cnt t-1) 0=dep t:=by
 intro t;cases t with
 | lf l=>rfl
 | un k a=>show (depL a++[dep a+1]).getD (cnt a+1-1) 0=_;rw[getD_r (depL_len a) (by omega),show cnt a+1-1-cnt a=0 by omega];rfl
 | bi k a b =>
  show (depL a++(depL b++[max (dep a) (dep b)+1])).getD (cnt a+cnt b+1-1) 0=_;rw[getD_r (depL_len a) (by omega),getD_r (depL_len b) (by omega),show cnt a+cnt b+1-1-cnt a-cnt b=0 by omega];rfl
inductive StepN (F D:Nat→Nat) (i:Nat) (n:Nd):Prop
 | leaf (l:Lf) (hl:okL l=true) (hn:n=leafN l) (hF:F i=i) (hD:D i=1)
 | un (k:Nat) (hk:k<27) (hc:shCh k=1) (hi:1≤i) (hn:n=pairN k (i-1:Nat) 0) (hF:F i=F (i-1)) (hD:D i=D (i-1)+1)
 | bi (k m:Nat) (hk:k<27) (hc:shCh k=2) (hi:m+2≤i) (hm:F (i-1)=m+1) (hn:n=pairN k (m:Nat) (i-1:Nat)) (hF:F i=F m) (hD:D i=max (D m) (D (i-1))+1)
instance:Inhabited Nd:=⟨pairN 0 0 0⟩
theorem steps (F D:Nat→Nat):∀ (t:Ex) (o:Nat),WfT t→(∀ j,j<cnt t→F (o+j)=(fstL o t).getD j 0)→(∀ j,j<cnt t→D (o+j)=(depL t).getD j 0) →
  ∀ j,j<cnt t→StepN F D (o+j) ((lay o t).getD j default):=by
 intro t
 induction t with
 | lf l =>
  intro o hw hF hD j hj;have hj0:j=0:=by have:j<1:=hj;omega
  subst hj0;exact .leaf l hw rfl (hF 0 hj) (hD 0 hj)
 | un k a ih =>
  intro o hw hF hD j hj;obtain⟨hk,hc,ha⟩:=hw;have hcn:cnt (.un k a)=cnt a+1:=rfl;have hp:=cnt_pos a;have hFa:∀ j,j<cnt a→F (o+j)=(fstL o a).getD j 0:=fun j h=>(hF j (by omega)).trans (getD_l (by rw[fstL_len];exact h));have hDa:∀ j,j<cnt a→D (o+j)=(depL a).getD j 0:=fun j h=>(hD j (by omega)).trans (getD_l (by rw[depL_len];exact h));rcases Nat.lt_or_ge j (cnt a) with h1|h1
  ·have:=ih o ha hFa hDa j h1;rw[show (lay o (.un k a)).getD j default=(lay o a).getD j default from getD_l (by rw[lay_len];exact h1)];exact this
  ·have hje:j=cnt a:=by omega
   subst hje;have e1:(lay o (.un k a)).getD (cnt a) default=pairN k (o+cnt a-1:Nat) 0:=by
    show (lay o a++[pairN k (o+cnt a-1:Nat) 0]).getD (cnt a) default=_;rw[getD_r (lay_len a o) (Nat.le_refl _),Nat.sub_self];rfl
   have e2:=hF (cnt a) (by omega);have e3:=hD (cnt a) (by omega);rw[show (fstL o (.un k a)).getD (cnt a) 0=o by show (fstL o a++[o]).getD (cnt a) 0=o;rw[getD_r (fstL_len a o) (Nat.le_refl _),Nat.sub_self];rfl] at e2;rw[show (depL (.un k a)).getD (cnt a) 0=dep a+1 by show (depL a++[dep a+1]).getD (cnt a) 0=_;rw[getD_r (depL_len a) (Nat.le_refl _),Nat.sub_self];rfl] at e3;have e4:=hFa (cnt a-1) (by omega);have e5:=hDa (cnt a-1) (by omega);rw[fst_last] at e4;rw[dep_last] at e5;have e6:o+cnt a-1=o+(cnt a-1):=by omega
   rw[e1];exact .un k hk hc (by omega) rfl (by rw[e6,e4];exact e2) (by rw[e6,e5];exact e3)
 | bi k a b iha ihb =>
  intro o hw hF hD j hj;obtain⟨hk,hc,ha,hb⟩:=hw;have hcn:cnt (.bi k a b)=cnt a+cnt b+1:=rfl;have hp:=cnt_pos a;have hpb:=cnt_pos b;have hFa:∀ j,j<cnt a→F (o+j)=(fstL o a).getD j 0:=fun j h=>(hF j (by omega)).trans (getD_l (by rw[fstL_len];exact h));have hDa:∀ j,j<cnt a→D (o+j)=(depL a).getD j 0:=fun j h=>(hD j (by omega)).trans (getD_l (by rw[depL_len];exact h));have hFb:∀ j,j<cnt b→F (o+cnt a+j)=(fstL (o+cnt a) b).getD j 0:=fun j h=>by
   have:=hF (cnt a+j) (by omega);rw[← Nat.add_assoc] at this;rw[this];show (fstL o a++(fstL (o+cnt a) b++[o])).getD (cnt a+j) 0=_;rw[getD_r (fstL_len a o) (by omega),getD_l (by rw[fstL_len];omega),Nat.add_sub_cancel_left]
  have hDb:∀ j,j<cnt b→D (o+cnt a+j)=(depL b).getD j 0:=fun j h=>by
   have:=hD (cnt a+j) (by omega);rw[← Nat.add_assoc] at this;rw[this];show (depL a++(depL b++[max (dep a) (dep b)+1])).getD (cnt a+j) 0=_;rw[getD_r (depL_len a) (by omega),getD_l (by rw[depL_len];omega),Nat.add_sub_cancel_left]
  rcases Nat.lt_or_ge j (cnt a) with h1|h1
  ·have:=iha o ha hFa hDa j h1;rw[show (lay o (.bi k a b)).getD j default=(lay o a).getD j default from getD_l (by rw[lay_len];exact h1)];exact this
  rcases Nat.lt_or_ge j (cnt a+cnt b) with h2|h2
  ·have:=ihb (o+cnt a) hb hFb hDb (j-cnt a) (by omega);rw[show o+cnt a+(j-cnt a)=o+j by omega] at this;rw[show (lay o (.bi k a b)).getD j default=(lay (o+cnt a) b).getD (j-cnt a) default by
    show (lay o a++(lay (o+cnt a) b++_)).getD j default=_;rw[getD_r (lay_len a o) h1,getD_l (by rw[lay_len];omega)]]
   exact this
  ·have hje:j=cnt a+cnt b:=by omega
   subst hje;have e1:(lay o (.bi k a b)).getD (cnt a+cnt b) default=pairN k (o+cnt a-1:Nat) (o+cnt a+cnt b-1:Nat):=by
    show (lay o a++(lay (o+cnt a) b++[pairN k (o+cnt a-1:Nat) (o+cnt a+cnt b-1:Nat)])).getD (cnt a+cnt b) default=_;rw[getD_r (lay_len a o) (by omega),getD_r (lay_len b _) (by omega),show cnt a+cnt b-cnt a-cnt b=0 by omega];rfl
   have e2:=hF (cnt a+cnt b) (by omega);have e3:=hD (cnt a+cnt b) (by omega);rw[show (fstL o (.bi k a b)).getD (cnt a+cnt b) 0=o by
    show (fstL o a++(fstL (o+cnt a) b++[o])).getD (cnt a+cnt b) 0=o;rw[getD_r (fstL_len a o) (by omega),getD_r (fstL_len b _) (by omega),show cnt a+cnt b-cnt a-cnt b=0 by omega];rfl] at e2
   rw[show (depL (.bi k a b)).getD (cnt a+cnt b) 0=max (dep a) (dep b)+1 by
    show (depL a++(depL b++[max (dep a) (dep b)+1])).getD (cnt a+cnt b) 0=_;rw[getD_r (depL_len a) (by omega),getD_r (depL_len b) (by omega),show cnt a+cnt b-cnt a-cnt b=0 by omega];rfl] at e3
   have e4:=hFa (cnt a-1) (by omega);have e5:=hDa (cnt a-1) (by omega);rw[fst_last] at e4;rw[dep_last] at e5;have e7:=hFb (cnt b-1) (by omega);have e8:=hDb (cnt b-1) (by omega);rw[fst_last] at e7;rw[dep_last] at e8;have e6:o+cnt a-1=o+(cnt a-1):=by omega
   have e9:o+(cnt a+cnt b)-1=o+cnt a+(cnt b-1):=by omega
   rw[e1];refine .bi k (o+cnt a-1) hk hc (by omega) (by rw[e9,e7];omega) ?_ (by rw[e6,e4];exact e2) (by rw[e9,e6,e5,e8];exact e3);rw[show o+(cnt a+cnt b)-1=o+cnt a+cnt b-1 by omega]
end Go.Proofs.YtenlhcgpajphhaaGreatDoor
