import Derived.Test.YtenlhcgpajphhaaGreatDoorMEpShut
import Derived.Test.YtenlhcgpajphhaaGreatDoorMEbPlace
namespace Go.Proofs.YtenlhcgpajphhaaGreatDoor
open Go.RowKit
set_option linter.all false
structure TagE where
  nm:ByteArray
  tys:List Int
structure PartE where
  tg:ByteArray
  vs:List ByteArray
structure ActE where
  kd:Int
  to:Option Ex
  nm:ByteArray
  vr:ByteArray
  args:List (Option Ex)
structure ChordE where
  nm:ByteArray
  parts:List PartE
  guard:Option Ex
  body:List ActE
structure KindE where
  nm:ByteArray
  chords:List ChordE
structure ProgE where
  tags:List TagE
  kinds:List KindE
structure S8 where
  k:Nat
  bad:Int
  pl:Int
def eB:ByteArray:=⟨#[]⟩
def kwL:List ByteArray:=[⟨#[116,97,103]⟩,⟨#[107,105,110,100]⟩,⟨#[99,104,111,114,100]⟩,⟨#[119,104,101,110]⟩,⟨#[115,101,110,100]⟩,⟨#[115,112,97,119,110]⟩,⟨#[97,115]⟩,⟨#[114,101,112,108,121]⟩,⟨#[98,101,99,111,109,101]⟩]
def kwB (b:ByteArray):Bool:=kwL.any (fun x=>decide (x=b))
def tkE (L:List TokE) (k:Nat):TokE:=L.getD k default
def plc (L:List TokE) (n:Nat) (k:Int):Int:=if k<L.length then (tkE L k.toNat).pl else n
def failS (L:List TokE) (n:Nat) (s:S8) (i e:Int):S8:=if s.bad=0 then ⟨s.k,e,plc L n i⟩ else s
def isB (L:List TokE) (s:S8) (t:ByteArray):Bool:=decide (s.bad=0) && (decide (s.k<L.length) && ((decide ((tkE L s.k).kd=1) || decide ((tkE L s.k).kd=5)) && decide ((tkE L s.k).tx=t)))
def nextS (s:S8):S8:=⟨s.k+1,s.bad,s.pl⟩
def takeS (L:List TokE) (s:S8) (t:ByteArray):S8:=if isB L s t then nextS s else s
def wantS (L:List TokE) (n:Nat) (s:S8) (t:ByteArray):S8:=if isB L s t then nextS s else failS L n s s.k 80
def wordB8 (L:List TokE) (s:S8):Bool:=decide (s.bad=0) && (decide (s.k<L.length) && (decide ((tkE L s.k).kd=1) && !kwB (tkE L s.k).tx))
def wordS (L:List TokE) (n:Nat) (s:S8):S8 × ByteArray:=if wordB8 L s then (nextS s,(tkE L s.k).tx) else (failS L n s s.k 80,eB)
noncomputable def rdX (L:List TokE) (k:Nat):Option Ex × Int × Int:=by
  classical
  exact if h:∃ x:Option Ex × Int × Int,RdR L k x.1 x.2.1 x.2.2 then Classical.choose h else (none,0,0)
theorem rdR_one8 {L:List TokE} {k:Nat} {o o':Option Ex} {a a' f f':Int} (h:RdR L k o a f) (h':RdR L k o' a' f'):o=o'∧a=a'∧f=f':=by
  rcases h with ⟨q,h1,rfl,rfl,rfl⟩|⟨t,q,h1,hf,rfl,rfl,rfl⟩|⟨t,q,h1,hf,rfl,rfl,rfl⟩ <;>
  rcases h' with ⟨q',h2,rfl,rfl,rfl⟩|⟨t',q',h2,hf',rfl,rfl,rfl⟩|⟨t',q',h2,hf',rfl,rfl,rfl⟩ <;>
  (have e:=h1.one h2
   first
   | (simp only[reduceCtorEq] at e;done)
   | (simp only[Rs.bad.injEq,Rs.ok.injEq] at e
      try (first|(obtain⟨rfl,h3⟩:=e)|subst e)
      first|exact⟨rfl,rfl,rfl⟩|(subst h3;exact⟨rfl,rfl,rfl⟩)|(exfalso;omega)|contradiction))
theorem rdX_of {L:List TokE} {k:Nat} {o:Option Ex} {a f:Int} (h:RdR L k o a f):rdX L k=(o,a,f):=by
  have hx:∃ x:Option Ex × Int × Int,RdR L k x.1 x.2.1 x.2.2:=⟨(o,a,f),h⟩
  unfold rdX
  rw[dif_pos hx]
  obtain⟨h1,h2,h3⟩:=rdR_one8 (Classical.choose_spec hx) h
  exact Prod.ext h1 (Prod.ext h2 h3)
noncomputable def exprS (L:List TokE) (n:Nat) (s:S8):S8 × Option Ex :=
  if s.bad=0 then
    match rdX L s.k with
    | (some t,a,_)=>(⟨a.toNat,s.bad,s.pl⟩,some t)
    | (none,a,f)=>(failS L n s a f,none)
  else (s,none)
def loopS {α:Type} (L:List TokE) (n:Nat) (item:S8→S8 × α):Nat→S8→List α→S8 × List α
  | 0,s,l=>(s,l)
  | f+1,s,l=>if s.bad=0 then (if isB L s ⟨#[41]⟩ then (nextS s,l) else loopS L n item f (item (wantS L n s ⟨#[44]⟩)).1 (l++[(item (wantS L n s ⟨#[44]⟩)).2])) else (s,l)
def fuel8 (L:List TokE):Nat:=L.length+2
def listS {α:Type} (L:List TokE) (n:Nat) (item:S8→S8 × α) (s:S8):S8 × List α :=
  if isB L (wantS L n s ⟨#[40]⟩) ⟨#[41]⟩ then (nextS (wantS L n s ⟨#[40]⟩),[])
  else loopS L n item (fuel8 L) (item (wantS L n s ⟨#[40]⟩)).1 [(item (wantS L n s ⟨#[40]⟩)).2]
noncomputable def argsS (L:List TokE) (n:Nat) (s:S8):S8 × List (Option Ex):=listS L n (exprS L n) s
def tyF8 (l:List UInt8):Nat × Bool :=
  if l=[105,110,116] then (1,true) else if l=[114,101,97,108] then (2,true) else if l=[99,111,109,112] then (3,true) else if l=[116,101,120,116] then (4,true) else if l=[98,111,111,108] then (5,true) else (0,false)
def kindB8 (L:List TokE) (s:S8):Bool:=decide (s.bad=0) && (decide (s.k<L.length) && decide ((tkE L s.k).kd=1))
def kindS (L:List TokE) (n:Nat) (s:S8):S8 × Int :=
  if kindB8 L s && ((tyF8 (tkE L s.k).tx.toList).2 && decide ((tyF8 (tkE L s.k).tx.toList).1≠5)) then (nextS s,((tyF8 (tkE L s.k).tx.toList).1:Nat)) else (failS L n s s.k 80,0)
def tagS (L:List TokE) (n:Nat) (s:S8):S8 × TagE :=
  (wantS L n (listS L n (kindS L n) (wordS L n s).1).1 ⟨#[59]⟩,⟨(wordS L n s).2,(listS L n (kindS L n) (wordS L n s).1).2⟩)
def varS (L:List TokE) (n:Nat) (s:S8):S8 × ByteArray:=if isB L s ⟨#[95]⟩ then (nextS s,⟨#[95]⟩) else wordS L n s
def partS (L:List TokE) (n:Nat) (s:S8):S8 × PartE :=
  ((listS L n (varS L n) (wordS L n s).1).1,⟨(wordS L n s).2,(listS L n (varS L n) (wordS L n s).1).2⟩)
noncomputable def sendS (L:List TokE) (n:Nat) (s:S8):S8 × ActE :=
  let a:=exprS L n (nextS s)
  let b:=wordS L n a.1
  let c:=argsS L n b.1
  (c.1,⟨1,a.2,b.2,eB,c.2⟩)
def spawnS (L:List TokE) (n:Nat) (s:S8):S8 × ActE :=
  let a:=wordS L n (nextS s)
  let b:=wordS L n (wantS L n a.1 ⟨#[97,115]⟩)
  (b.1,⟨2,none,a.2,b.2,[]⟩)
noncomputable def replyS (L:List TokE) (n:Nat) (s:S8):S8 × ActE :=
  let c:=argsS L n (nextS s)
  (c.1,⟨3,none,eB,eB,c.2⟩)
def becomeS (L:List TokE) (n:Nat) (s:S8):S8 × ActE :=
  let a:=wordS L n (nextS s)
  (a.1,⟨4,none,a.2,eB,[]⟩)
noncomputable def doneS (L:List TokE) (n:Nat) (s:S8):S8 × ActE :=
  if isB L s ⟨#[115,101,110,100]⟩ then sendS L n s
  else if isB L s ⟨#[115,112,97,119,110]⟩ then spawnS L n s
  else if isB L s ⟨#[114,101,112,108,121]⟩ then replyS L n s
  else if isB L s ⟨#[98,101,99,111,109,101]⟩ then becomeS L n s
  else (failS L n s s.k 80,⟨0,none,eB,eB,[]⟩)
noncomputable def actS (L:List TokE) (n:Nat) (s:S8):S8 × ActE:=(wantS L n (doneS L n s).1 ⟨#[59]⟩,(doneS L n s).2)
def ampS (L:List TokE) (n:Nat):Nat→S8→List PartE→S8 × List PartE
  | 0,s,l=>(s,l)
  | f+1,s,l=>if isB L s ⟨#[38]⟩ then ampS L n f (partS L n (nextS s)).1 (l++[(partS L n (nextS s)).2]) else (s,l)
def upS {α:Type} (L:List TokE) (item:S8→S8 × α):Nat→S8→List α→S8 × List α
  | 0,s,l=>(s,l)
  | f+1,s,l=>if s.bad=0 then (if isB L s ⟨#[125]⟩ then (nextS s,l) else upS L item f (item s).1 (l++[(item s).2])) else (s,l)
noncomputable def chordS (L:List TokE) (n:Nat) (s:S8):S8 × ChordE :=
  let a:=wordS L n (wantS L n s ⟨#[99,104,111,114,100]⟩)
  let b:=partS L n (wantS L n a.1 ⟨#[58]⟩)
  let c:=ampS L n (fuel8 L) b.1 [b.2]
  let g:=if isB L c.1 ⟨#[119,104,101,110]⟩ then exprS L n (nextS c.1) else (c.1,none)
  let d:=upS L (actS L n) (fuel8 L) (wantS L n g.1 ⟨#[123]⟩) []
  (d.1,⟨a.2,c.2,g.2,d.2⟩)
noncomputable def kindDS (L:List TokE) (n:Nat) (s:S8):S8 × KindE :=
  let a:=wordS L n (wantS L n s ⟨#[107,105,110,100]⟩)
  let d:=upS L (chordS L n) (fuel8 L) (wantS L n a.1 ⟨#[123]⟩) []
  (d.1,⟨a.2,d.2⟩)
noncomputable def progS (L:List TokE) (n:Nat):Nat→S8→ProgE→S8 × ProgE
  | 0,s,p=>(s,p)
  | f+1,s,p =>
    if s.bad=0∧s.k<L.length then
      (if isB L s ⟨#[116,97,103]⟩ then progS L n f (tagS L n (nextS s)).1 ⟨p.tags++[(tagS L n (nextS s)).2],p.kinds⟩
      else progS L n f (kindDS L n s).1 ⟨p.tags,p.kinds++[(kindDS L n s).2]⟩)
    else (s,p)
def rem8 (L:List TokE) (s:S8):Nat:=if s.bad=0 then L.length+1-s.k else 0
theorem rd_far (g:Nat→Cl):∀ (f:Nat) (X:Nt) (p:Nat) (t:Ex) (q:Nat),rd g f X p=some (.ok t q)→(match X with|.lvl _=>p<q|.loop _ _=>p≤q):=by
 intro f
 induction f with
 | zero=>intro X p t q h;unfold rd at h;cases h
 | succ f ih =>
  intro X p t q h;cases X with
  | lvl n =>
   show p<q;rw[rd] at h;split at h
   ·cases hg:g p with
    | leaf l=>rw[hg] at h;simp at h;omega
    | mark s =>
     rw[hg] at h;simp only at h;split at h
     ·obtain⟨a,e,h1,h2⟩:=thenR_ok h;have:=ih _ _ _ _ h1;simp only at this;split at h2
      ·simp at h2;omega
      ·cases h2
     ·cases h
    | word k =>
     rw[hg] at h;simp only at h;split at h
     ·obtain⟨a,e,h1,h2⟩:=thenR_ok h;have:=ih _ _ _ _ h1;simp only at this;split at h2
      ·split at h2
       ·simp at h2;omega
       ·cases h2
      ·split at h2
       ·obtain⟨b,e2,h3,h4⟩:=thenR_ok h2;have:=ih _ _ _ _ h3;simp only at this;split at h4
        ·simp at h4;omega
        ·cases h4
       ·cases h2
     ·cases h
    | no=>rw[hg] at h;cases h
   ·split at h
    ·split at h
     ·exact ih _ _ _ _ h
     ·obtain⟨a,e,h1,h2⟩:=thenR_ok h;have:=ih _ _ _ _ h1;simp only at this;simp at h2;omega
    ·obtain⟨a,e,h1,h2⟩:=thenR_ok h;have h3:=ih _ _ _ _ h1;have h4:=ih _ _ _ _ h2;simp only at h3 h4;omega
  | loop n a =>
   show p≤q;rw[rd] at h;split at h
   ·obtain⟨b,e,h1,h2⟩:=thenR_ok h;have h3:=ih _ _ _ _ h1;simp only at h3;split at h2
    ·simp at h2;omega
    ·have h4:=ih _ _ _ _ h2;simp only at h4;omega
   ·simp at h;omega
theorem Rd.far {g:Nat→Cl} {n p q:Nat} {t:Ex} (h:Rd g (.lvl n) p (.ok t q)):p<q:=by
 obtain⟨f,hf⟩:=h;exact rd_far g f _ _ _ _ hf
theorem rdX_some {L:List TokE} {k:Nat} {t:Ex} {a f:Int} (h:rdX L k=(some t,a,f)):RdR L k (some t) a f:=by
 unfold rdX at h;split at h
 ·rename_i hx;have:=Classical.choose_spec hx;rw[h] at this;exact this
 ·cases h
theorem rdR_far {L:List TokE} {k:Nat} {t:Ex} {a f:Int} (hk:k≤L.length) (h:RdR L k (some t) a f):∃ q:Nat,a=q∧f=0∧k<q∧q≤L.length:=by
 rcases h with ⟨q,_,h,_⟩|⟨_,q,_,_,h,_⟩|⟨t',q,h1,_,h,rfl,rfl⟩
 ·cases h
 ·cases h
 ·exact⟨q,rfl,rfl,h1.far,h1.ok_le (by omega) hk⟩
def Le8 (L:List TokE) (s s':S8):Prop:=s.k≤L.length→s'.k≤L.length∧rem8 L s'≤rem8 L s
def Lt8 (L:List TokE) (s s':S8):Prop:=s.k≤L.length→s'.k≤L.length∧rem8 L s'<rem8 L s
section
variable {L:List TokE} {n:Nat} {s s' s2:S8}
theorem Le8.refl (L:List TokE) (s:S8):Le8 L s s:=fun h=>⟨h,Nat.le_refl _⟩
theorem Le8.trans (h:Le8 L s s') (h2:Le8 L s' s2):Le8 L s s2:=fun hk=>by
 obtain⟨h3,h4⟩:=h hk;obtain⟨h5,h6⟩:=h2 h3;exact⟨h5,by omega⟩
theorem Lt8.le (h:Lt8 L s s'):Le8 L s s':=fun hk=>⟨(h hk).1,Nat.le_of_lt (h hk).2⟩
theorem Lt8.trans (h:Lt8 L s s') (h2:Le8 L s' s2):Lt8 L s s2:=fun hk=>by
 obtain⟨h3,h4⟩:=h hk;obtain⟨h5,h6⟩:=h2 h3;exact⟨h5,by omega⟩
theorem isB_yes {t:ByteArray} (h:isB L s t=true):s.bad=0∧s.k<L.length∧((tkE L s.k).kd=1∨(tkE L s.k).kd=5)∧(tkE L s.k).tx=t:=by
 simpa [isB] using h
theorem isB_bad {t:ByteArray} (h:s.bad≠0):isB L s t=false:=by simp[isB,h]
theorem next_lt (hb:s.bad=0) (hk:s.k<L.length):Lt8 L s (nextS s):=fun _=>by
 refine⟨hk,?_⟩;unfold rem8 nextS;rw[if_pos hb,if_pos hb];show L.length+1-(s.k+1)<_;omega
theorem is_lt {t:ByteArray} (h:isB L s t=true):Lt8 L s (nextS s):=next_lt (isB_yes h).1 (isB_yes h).2.1
theorem fail_le (i e:Int):Le8 L s (failS L n s i e):=fun hk=>by
 unfold failS rem8;by_cases hb:s.bad=0
 ·rw[if_pos hb,if_pos hb];refine⟨hk,?_⟩;show (if e=0 then L.length+1-s.k else 0)≤_;split <;> omega
 ·rw[if_neg hb];exact⟨hk,Nat.le_refl _⟩
theorem fail_lt {i e:Int} (hb:s.bad=0) (he:e≠0):Lt8 L s (failS L n s i e):=fun hk=>by
 unfold failS rem8;rw[if_pos hb,if_pos hb];refine⟨hk,?_⟩;show (if e=0 then L.length+1-s.k else 0)<_;rw[if_neg he];omega
theorem want_le (t:ByteArray):Le8 L s (wantS L n s t):=by
 unfold wantS;split
 ·rename_i h;exact(is_lt h).le
 ·exact fail_le _ _
theorem want_lt {t:ByteArray} (hb:s.bad=0):Lt8 L s (wantS L n s t):=by
 unfold wantS;split
 ·rename_i h;exact is_lt h
 ·exact fail_lt hb (by decide)
theorem word_yes (h:wordB8 L s=true):s.bad=0∧s.k<L.length∧(tkE L s.k).kd=1∧kwB (tkE L s.k).tx=false:=by simpa [wordB8] using h
theorem word_le:Le8 L s (wordS L n s).1:=by
 unfold wordS;split
 ·rename_i h;exact(next_lt (word_yes h).1 (word_yes h).2.1).le
 ·exact fail_le _ _
theorem expr_le:Le8 L s (exprS L n s).1:=by
 unfold exprS;by_cases hb:s.bad=0
 ·rw[if_pos hb];rcases hx:rdX L s.k with ⟨_|t,a,f⟩
  ·exact fail_le _ _
  ·intro hk;obtain⟨q,rfl,_,h1,h2⟩:=rdR_far hk (rdX_some hx);refine⟨by show (q:Int).toNat≤_;omega,?_⟩;show rem8 L ⟨(q:Int).toNat,s.bad,s.pl⟩≤rem8 L s;unfold rem8;rw[if_pos hb,if_pos hb];show L.length+1-(q:Int).toNat≤_;omega
 ·rw[if_neg hb];exact Le8.refl _ _
theorem loop_le {α:Type} {item:S8→S8 × α} (hi:∀ s,Le8 L s (item s).1):∀ (f:Nat) (s:S8) (l:List α),Le8 L s (loopS L n item f s l).1
 | 0,s,l=>Le8.refl _ _
 | f+1,s,l=>by
  unfold loopS;split
  ·split
   ·rename_i h;exact(is_lt h).le
   ·exact((want_le _).trans (hi _)).trans (loop_le hi f _ _)
  ·exact Le8.refl _ _
theorem list_le {α:Type} {item:S8→S8 × α} (hi:∀ s,Le8 L s (item s).1):Le8 L s (listS L n item s).1:=by
 unfold listS;split
 ·rename_i h;exact(want_le _).trans (is_lt h).le
 ·exact((want_le _).trans (hi _)).trans (loop_le hi _ _ _)
theorem args_le:Le8 L s (argsS L n s).1:=list_le (fun _=>expr_le)
theorem kind_le:Le8 L s (kindS L n s).1:=by
 unfold kindS;split
 ·rename_i h;have:kindB8 L s=true:=by simp at h;exact h.1
  have h2:s.bad=0∧s.k<L.length∧(tkE L s.k).kd=1:=by simpa [kindB8] using this
  exact(next_lt h2.1 h2.2.1).le
 ·exact fail_le _ _
theorem tag_le:Le8 L s (tagS L n s).1:=(word_le.trans (list_le (fun _=>kind_le))).trans (want_le _)
theorem var_le:Le8 L s (varS L n s).1:=by
 unfold varS;split
 ·rename_i h;exact(is_lt h).le
 ·exact word_le
theorem part_le:Le8 L s (partS L n s).1:=word_le.trans (list_le (fun _=>var_le))
theorem done_le:Le8 L s (doneS L n s).1:=by
 unfold doneS;split
 ·rename_i h;exact(((is_lt h).le.trans expr_le).trans word_le).trans args_le
 split
 ·rename_i h;exact(((is_lt h).le.trans word_le).trans (want_le _)).trans word_le
 split
 ·rename_i h;exact(is_lt h).le.trans args_le
 split
 ·rename_i h;exact(is_lt h).le.trans word_le
 ·exact fail_le _ _
theorem act_le:Le8 L s (actS L n s).1:=done_le.trans (want_le _)
theorem done_lt (hb:s.bad=0):Lt8 L s (doneS L n s).1:=by
 unfold doneS;split
 ·rename_i h;exact((is_lt h).trans expr_le |>.trans word_le).trans args_le
 split
 ·rename_i h;exact((is_lt h).trans word_le |>.trans (want_le _)).trans word_le
 split
 ·rename_i h;exact(is_lt h).trans args_le
 split
 ·rename_i h;exact(is_lt h).trans word_le
 ·exact fail_lt hb (by decide)
theorem act_lt (hb:s.bad=0):Lt8 L s (actS L n s).1:=(done_lt hb).trans (want_le _)
theorem amp_le:∀ (f:Nat) (s:S8) (l:List PartE),Le8 L s (ampS L n f s l).1
 | 0,s,l=>Le8.refl _ _
 | f+1,s,l=>by
  unfold ampS;split
  ·rename_i h;exact((is_lt h).le.trans part_le).trans (amp_le f _ _)
  ·exact Le8.refl _ _
theorem up_le {α:Type} {item:S8→S8 × α} (hi:∀ s,Le8 L s (item s).1):∀ (f:Nat) (s:S8) (l:List α),Le8 L s (upS L item f s l).1
 | 0,s,l=>Le8.refl _ _
 | f+1,s,l=>by
  unfold upS;split
  ·split
   ·rename_i h;exact(is_lt h).le
   ·exact(hi _).trans (up_le hi f _ _)
  ·exact Le8.refl _ _
theorem guard_le {t:ByteArray}:Le8 L s (if isB L s t then exprS L n (nextS s) else (s,none)).1:=by
 split
 ·rename_i h;exact(is_lt h).le.trans expr_le
 ·exact Le8.refl _ _
theorem chord_le:Le8 L s (chordS L n s).1 :=
 ((((((want_le _).trans word_le).trans (want_le _)).trans part_le).trans (amp_le _ _ _)).trans guard_le).trans ((want_le _).trans (up_le (fun _=>act_le) _ _ _))
theorem chord_lt (hb:s.bad=0):Lt8 L s (chordS L n s).1 :=
 (((((want_lt hb).trans word_le).trans (want_le _)).trans part_le).trans (amp_le _ _ _)).trans (guard_le.trans ((want_le _).trans (up_le (fun _=>act_le) _ _ _)))
theorem kindD_le:Le8 L s (kindDS L n s).1:=((want_le _).trans word_le).trans ((want_le _).trans (up_le (fun _=>chord_le) _ _ _))
theorem rem8_le (L:List TokE) (s:S8):rem8 L s<fuel8 L:=by unfold rem8 fuel8;split <;> omega
end
set_option maxRecDepth 100000
theorem own_blk8 {w w':World} {base size n:Nat} {e:TypeId} {v:Value} {xs:List Value} (h:w.ownsRow base e size v n xs) (hk:∀ g,v.ownBlock=some g→w'.heap[g]?=w.heap[g]?):w'.ownsRow base e size v n xs:=by
 refine⟨h.1,?_⟩;rcases h.2 with hn|⟨g,cap,cur,rfl,hbs,hgg,rest⟩
 ·exact .inl hn
 ·exact .inr ⟨g,cap,cur,rfl,hbs,(hk g rfl).trans hgg,rest⟩
def SameB (F:List Nat) (w w':World):Prop:=∀ b ∈ F,w'.heap[b]?=w.heap[b]?
theorem SameB.left {F G:List Nat} {w w':World} (h:SameB (F++G) w w'):SameB F w w':=fun b hb=>h b (List.mem_append_left _ hb)
theorem SameB.right {F G:List Nat} {w w':World} (h:SameB (F++G) w w'):SameB G w w':=fun b hb=>h b (List.mem_append_right _ hb)
abbrev Shp (α:Type):=World→List Nat→List Value→α→Prop
structure KE {α:Type} (E:Shp α) (s:Nat):Prop where
 keep:∀ {w w':World} {F:List Nat} {c:List Value} {x:α},E w F c x→SameB F w w'→E w' F c x
 one:∀ {w:World} {F:List Nat} {c:List Value} {x:α},E w F c x→∀ u ∈ c,u.oneCell'=true
 len:∀ {w:World} {F:List Nat} {c:List Value} {x:α},E w F c x→c.length=s
def Elems {α:Type} (E:Shp α) (w:World):List Nat→List Value→List α→Prop
 | F,c,[]=>F=[]∧c=[]
 | F,c,x :: xs=>∃ F1 F2 c1 c2,F=F1++F2∧c=c1++c2∧E w F1 c1 x∧Elems E w F2 c2 xs
section
variable {α:Type} {E:Shp α} {s:Nat} {w w':World}
theorem Elems.keep (ke:KE E s):∀ {xs:List α} {F:List Nat} {c:List Value},Elems E w F c xs→SameB F w w'→Elems E w' F c xs
 | [],_,_,h,_=>h
 | _ :: _,_,_,⟨F1,F2,c1,c2,hF,hc,hx,hr⟩,hs=>by
  subst hF;exact⟨F1,F2,c1,c2,rfl,hc,ke.keep hx hs.left,hr.keep ke hs.right⟩
theorem Elems.snoc {F1:List Nat} {c1:List Value} {x:α} (hx:E w F1 c1 x):∀ {xs:List α} {F:List Nat} {c:List Value},Elems E w F c xs→Elems E w (F++F1) (c++c1) (xs++[x])
 | [],_,_,⟨hF,hc⟩=>by
  subst hF hc;exact⟨F1,[],c1,[],by simp,by simp,hx,rfl,rfl⟩
 | _ :: _,_,_,⟨G1,G2,d1,d2,hF,hc,hy,hr⟩=>by
  subst hF hc;exact⟨G1,G2++F1,d1,d2++c1,by simp,by simp,hy,hr.snoc hx⟩
theorem Elems.get (ke:KE E s):∀ {xs:List α} {F:List Nat} {c:List Value} (_:Elems E w F c xs) (i:Nat) (x:α),xs[i]?=some x→∃ F1 c1,E w F1 c1 x∧(∀ b ∈ F1,b ∈ F)∧∀ j,j<s→c[i * s+j]?=c1[j]?
 | [],_,_,_,i,x,hi=>by simp at hi
 | y :: ys,_,_,⟨G1,G2,d1,d2,hF,hc,hy,hr⟩,0,x,hi=>by
  subst hF hc;simp at hi;subst hi;refine⟨G1,d1,hy,fun b hb=>List.mem_append_left _ hb,fun j hj=>?_⟩;rw[Nat.zero_mul,Nat.zero_add,List.getElem?_append_left (by rw[ke.len hy];exact hj)]
 | y :: ys,_,_,⟨G1,G2,d1,d2,hF,hc,hy,hr⟩,i+1,x,hi=>by
  subst hF hc;obtain⟨F1,c1,h1,h2,h3⟩:=hr.get ke i x (by simpa using hi);refine⟨F1,c1,h1,fun b hb=>List.mem_append_right _ (h2 b hb),fun j hj=>?_⟩;have hl:=ke.len hy;rw[List.getElem?_append_right (by rw[hl,Nat.add_mul];omega),hl,show (i+1) * s+j-s=i * s+j by rw[Nat.add_mul];omega];exact h3 j hj
end
structure ListV {α:Type} (E:Shp α) (T:TypeId) (s:Nat) (w:World) (F:List Nat) (v:Value) (xs:List α) (c:List Value):Prop where
 row:w.ownsRow 0 T s v xs.length c
 els:∃ F2,F=v.ownBlock.toList++F2∧Elems E w F2 c xs
structure Good (F:List Nat) (lo:Nat) (w:World):Prop where
 uniq:F.Nodup
 lies:∀ b ∈ F,lo≤b∧b<w.heap.size
theorem Good.nil (lo:Nat) (w:World):Good [] lo w:=⟨List.nodup_nil,fun _ h=>by cases h⟩
theorem Good.wide {F:List Nat} {lo lo':Nat} {w w':World} (h:Good F lo w) (hl:lo'≤lo) (hs:w.heap.size≤w'.heap.size):Good F lo' w':=⟨h.uniq,fun b hb=>by have:=h.lies b hb;omega⟩
theorem Good.join {F G:List Nat} {lo:Nat} {w w':World} (h:Good F lo w) (h2:Good G w.heap.size w') (hl:lo≤w.heap.size) (hs:w.heap.size≤w'.heap.size):Good (F++G) lo w':=by
 refine⟨List.nodup_append.2 ⟨h.uniq,h2.uniq,fun a ha b hb e=>?_⟩,fun b hb=>?_⟩
 ·subst e;have:=h.lies a ha;have:=h2.lies a hb;omega
 ·rcases List.mem_append.1 hb with hb|hb
  ·have:=h.lies b hb;omega
  ·have:=h2.lies b hb;omega
theorem Good.oth {F:List Nat} {lo p:Nat} {w w':World} (h:Good F lo w) (ho:Oth p w w') (hp:p<lo):SameB F w w':=fun b hb=>by
 have:=h.lies b hb;exact ho.2 b this.2 (by omega)
def Lst {α:Type} (E:Shp α) (T:TypeId) (s lo:Nat) (w:World) (v:Value) (xs:List α) (c:List Value):Prop:=∃ F,ListV E T s w F v xs c∧Good F lo w
def Itm {α:Type} (E:Shp α) (lo:Nat) (w:World) (c:List Value) (x:α):Prop:=∃ F,E w F c x∧Good F lo w
section
variable {α:Type} {E:Shp α} {T:TypeId} {s lo:Nat} {w w':World} {v:Value} {xs:List α} {c:List Value}
theorem ListV.keep {F:List Nat} (ke:KE E s) (h:ListV E T s w F v xs c) (hs:SameB F w w'):ListV E T s w' F v xs c:=by
 obtain⟨F2,rfl,he⟩:=h.els;exact⟨own_blk8 h.row (fun g hg=>hs.left g (by rw[hg];simp)),F2,rfl,he.keep ke hs.right⟩
theorem ListV.nil (E:Shp α) (T:TypeId) (s:Nat) (w:World):ListV E T s w [] (.slice none 0 0) [] []:=⟨World.ownsRow_nil _ _ _ _,[],rfl,rfl,rfl⟩
theorem Lst.nil (E:Shp α) (T:TypeId) (s lo:Nat) (w:World):Lst E T s lo w (.slice none 0 0) [] []:=⟨[],ListV.nil E T s w,Good.nil lo w⟩
theorem Lst.keep (ke:KE E s) (h:Lst E T s lo w v xs c) {p:Nat} (ho:Oth p w w') (hp:p<lo):Lst E T s lo w' v xs c:=by
 obtain⟨F,h1,h2⟩:=h;exact⟨F,h1.keep ke (h2.oth ho hp),h2.wide (Nat.le_refl _) ho.1⟩
theorem Lst.row (h:Lst E T s lo w v xs c):w.ownsRow 0 T s v xs.length c:=by obtain⟨F,h1,_⟩:=h;exact h1.row
theorem Itm.keep {x:α} (ke:KE E s) (h:Itm E lo w c x) {p:Nat} (ho:Oth p w w') (hp:p<lo):Itm E lo w' c x:=by
 obtain⟨F,h1,h2⟩:=h;exact⟨F,ke.keep h1 (h2.oth ho hp),h2.wide (Nat.le_refl _) ho.1⟩
theorem Itm.one {x:α} (ke:KE E s) (h:Itm E lo w c x):∀ u ∈ c,u.oneCell'=true:=by obtain⟨F,h1,_⟩:=h;exact ke.one h1
theorem Lst.own (h:Lst E T s lo w v xs c):∀ g,v.ownBlock=some g→lo≤g∧g<w.heap.size:=fun g hg=>by
 obtain⟨F,h1,h2⟩:=h;obtain⟨F2,rfl,_⟩:=h1.els;exact h2.lies g (List.mem_append_left _ (by rw[hg];simp))
theorem Lst.snoc {w1 w5 w6 w7:World} {p g cap n:Nat} {x:α} {c1:List Value} (ke:KE E s) (h:Lst E T s lo w1 v xs c) (ho:Oth p w1 w5) (hp:p<lo) (hlo:lo≤w1.heap.size) (hx:Itm E w1.heap.size w5 c1 x)
  (h6:Below w5.heap.size w5 w6) (hn:n=xs.length) (hown:w7.ownsRow 0 T s (.slice (some ⟨g,0,none⟩) (n+1) cap) (n+1) (c++c1)) (hgrow:w6.grownBy w7 v.ownBlock) (hat:v.ownBlock=some g∨g=w6.heap.size) (hlt:g<w7.heap.size) :
  Lst E T s lo w7 (.slice (some ⟨g,0,none⟩) (n+1) cap) (xs++[x]) (c++c1):=by
 subst hn;obtain⟨F,hl,hg⟩:=h;obtain⟨F2,rfl,he⟩:=hl.els;obtain⟨F1,hx1,hg1⟩:=hx;have hs15:=ho.1;have hs56:=h6.size;have hs67:=hgrow.size;have hnod:=List.nodup_append.1 hg.uniq;have hkeep:∀ b,b<w5.heap.size→v.ownBlock≠some b→w7.heap[b]?=w5.heap[b]?:=fun b hb hne=>(hgrow.block b (by omega) (fun e=>hne e.symm)).trans (h6.block b hb);have hF2:SameB F2 w1 w7:=fun b hb=>by
  have hb1:=hg.lies b (List.mem_append_right _ hb);refine(hkeep b (by omega) (fun e=>?_)).trans (ho.2 b hb1.2 (by omega));exact hnod.2.2 b (by rw[e];simp) b hb rfl
 have hF1:SameB F1 w5 w7:=fun b hb=>by
  have hb1:=hg1.lies b hb;refine hkeep b hb1.2 (fun e=>?_);have:=hg.lies b (List.mem_append_left _ (by rw[e];simp));omega
 refine⟨[g]++(F2++F1),⟨by rw[List.length_append];exact hown,F2++F1,rfl,(he.keep ke hF2).snoc (ke.keep hx1 hF1)⟩,?_⟩;have hgg:lo≤g∧(g<w1.heap.size∧v.ownBlock=some g∨w5.heap.size≤g):=by
  rcases hat with h|h
  ·have:=hg.lies g (List.mem_append_left _ (by rw[h];simp));exact⟨this.1,.inl ⟨this.2,h⟩⟩
  ·exact⟨by omega,.inr (by omega)⟩
 refine⟨List.nodup_append.2 ⟨by simp,List.nodup_append.2 ⟨hnod.2.1,hg1.uniq,fun a ha b hb e=>?_⟩,fun a ha b hb e=>?_⟩,fun b hb=>?_⟩
 ·subst e;have:=hg.lies a (List.mem_append_right _ ha);have:=hg1.lies a hb;omega
 ·simp at ha;subst ha;subst e;rcases List.mem_append.1 hb with hb|hb
  ·have h1:=hg.lies a (List.mem_append_right _ hb);rcases hgg.2 with ⟨_,h⟩|h
   ·exact hnod.2.2 a (by rw[h];simp) a hb rfl
   ·omega
  ·have h1:=hg1.lies a hb;rcases hgg.2 with ⟨h,_⟩|h <;> omega
 ·rcases List.mem_append.1 hb with hb|hb
  ·simp at hb;subst hb;exact⟨hgg.1,hlt⟩
  ·rcases List.mem_append.1 hb with hb|hb
   ·have:=hg.lies b (List.mem_append_right _ hb);omega
   ·have:=hg1.lies b hb;omega
end
def intE:Shp Int:=fun _ F c x=>F=[]∧c=[.int .i64 x]
def strE:Shp ByteArray:=fun _ F c x=>F=[]∧c=[.string x]
def exN:Option Ex→List Nd
 | none=>[]
 | some t=>lay 0 t
def exE:Shp (Option Ex):=fun w F c x=>∃ v,c=[v]∧F=v.ownBlock.toList∧w.ownsRow 0 109 9 v (exN x).length (flatN (exN x))
def tagE:Shp TagE:=fun w F c x=>∃ v d,c=[.string x.nm,v]∧ListV intE 3 1 w F v x.tys d
def partE:Shp PartE:=fun w F c x=>∃ v d,c=[.string x.tg,v]∧ListV strE 9 1 w F v x.vs d
def actE:Shp ActE:=fun w F c x=>∃ tv av d F1 F2,c=[.int .i64 x.kd,tv,.string x.nm,.string x.vr,av]∧F=F1++F2∧exE w F1 [tv] x.to∧ListV exE 41 1 w F2 av x.args d
def chordE:Shp ChordE:=fun w F c x=>∃ pv gv bv dp db F1 F2 F3,c=[.string x.nm,pv,gv,bv]∧F=F1++(F2++F3)∧ListV partE 95 2 w F1 pv x.parts dp∧exE w F2 [gv] x.guard∧ListV actE 100 5 w F3 bv x.body db
def kindE:Shp KindE:=fun w F c x=>∃ v d,c=[.string x.nm,v]∧ListV chordE 44 4 w F v x.chords d
def progE:Shp ProgE:=fun w F c x=>∃ tv kv dt dk F1 F2,c=[tv,kv]∧F=F1++F2∧ListV tagE 78 2 w F1 tv x.tags dt∧ListV kindE 69 2 w F2 kv x.kinds dk
theorem row_one {w:World} {base s n:Nat} {T:TypeId} {v:Value} {xs:List Value} (h:w.ownsRow base T s v n xs):v.oneCell'=true:=by
 rcases h.2 with ⟨rfl,_⟩|⟨g,cap,cur,rfl,_⟩ <;> rfl
theorem intK:KE intE 1:=⟨fun h _=>h,fun h u hu=>by obtain⟨_,rfl⟩:=h;simp at hu;subst hu;rfl,fun h=>by obtain⟨_,rfl⟩:=h;rfl⟩
theorem strK:KE strE 1:=⟨fun h _=>h,fun h u hu=>by obtain⟨_,rfl⟩:=h;simp at hu;subst hu;rfl,fun h=>by obtain⟨_,rfl⟩:=h;rfl⟩
theorem exK:KE exE 1:=by
 refine⟨fun {w w' F c x} h hs=>?_,fun h u hu=>?_,fun h=>?_⟩
 ·obtain⟨v,rfl,rfl,hr⟩:=h;exact⟨v,rfl,rfl,own_blk8 hr (fun g hg=>hs g (by rw[hg];simp))⟩
 ·obtain⟨v,rfl,_,hr⟩:=h;simp at hu;subst hu;exact row_one hr
 ·obtain⟨v,rfl,_⟩:=h;rfl
theorem tagK:KE tagE 2:=by
 refine⟨fun {w w' F c x} h hs=>?_,fun h u hu=>?_,fun h=>?_⟩
 ·obtain⟨v,d,rfl,hr⟩:=h;exact⟨v,d,rfl,hr.keep intK hs⟩
 ·obtain⟨v,d,rfl,hr⟩:=h;simp at hu;rcases hu with rfl|rfl
  ·rfl
  ·exact row_one hr.row
 ·obtain⟨v,d,rfl,_⟩:=h;rfl
theorem partK:KE partE 2:=by
 refine⟨fun {w w' F c x} h hs=>?_,fun h u hu=>?_,fun h=>?_⟩
 ·obtain⟨v,d,rfl,hr⟩:=h;exact⟨v,d,rfl,hr.keep strK hs⟩
 ·obtain⟨v,d,rfl,hr⟩:=h;simp at hu;rcases hu with rfl|rfl
  ·rfl
  ·exact row_one hr.row
 ·obtain⟨v,d,rfl,_⟩:=h;rfl
theorem actK:KE actE 5:=by
 refine⟨fun {w w' F c x} h hs=>?_,fun h u hu=>?_,fun h=>?_⟩
 ·obtain⟨tv,av,d,F1,F2,rfl,rfl,h1,h2⟩:=h;exact⟨tv,av,d,F1,F2,rfl,rfl,exK.keep h1 hs.left,h2.keep exK hs.right⟩
 ·obtain⟨tv,av,d,F1,F2,rfl,rfl,h1,h2⟩:=h;simp at hu;rcases hu with rfl|rfl|rfl|rfl|rfl
  ·rfl
  ·exact exK.one h1 _ (by simp)
  ·rfl
  ·rfl
  ·exact row_one h2.row
 ·obtain⟨tv,av,d,F1,F2,rfl,_⟩:=h;rfl
theorem chordK:KE chordE 4:=by
 refine⟨fun {w w' F c x} h hs=>?_,fun h u hu=>?_,fun h=>?_⟩
 ·obtain⟨pv,gv,bv,dp,db,F1,F2,F3,rfl,rfl,h1,h2,h3⟩:=h;exact⟨pv,gv,bv,dp,db,F1,F2,F3,rfl,rfl,h1.keep partK hs.left,exK.keep h2 hs.right.left,h3.keep actK hs.right.right⟩
 ·obtain⟨pv,gv,bv,dp,db,F1,F2,F3,rfl,rfl,h1,h2,h3⟩:=h;simp at hu;rcases hu with rfl|rfl|rfl|rfl
  ·rfl
  ·exact row_one h1.row
  ·exact exK.one h2 _ (by simp)
  ·exact row_one h3.row
 ·obtain⟨pv,gv,bv,dp,db,F1,F2,F3,rfl,_⟩:=h;rfl
theorem kindK:KE kindE 2:=by
 refine⟨fun {w w' F c x} h hs=>?_,fun h u hu=>?_,fun h=>?_⟩
 ·obtain⟨v,d,rfl,hr⟩:=h;exact⟨v,d,rfl,hr.keep chordK hs⟩
 ·obtain⟨v,d,rfl,hr⟩:=h;simp at hu;rcases hu with rfl|rfl
  ·rfl
  ·exact row_one hr.row
 ·obtain⟨v,d,rfl,_⟩:=h;rfl
theorem progK:KE progE 2:=by
 refine⟨fun {w w' F c x} h hs=>?_,fun h u hu=>?_,fun h=>?_⟩
 ·obtain⟨tv,kv,dt,dk,F1,F2,rfl,rfl,h1,h2⟩:=h;exact⟨tv,kv,dt,dk,F1,F2,rfl,rfl,h1.keep tagK hs.left,h2.keep kindK hs.right⟩
 ·obtain⟨tv,kv,dt,dk,F1,F2,rfl,rfl,h1,h2⟩:=h;simp at hu;rcases hu with rfl|rfl
  ·exact row_one h1.row
  ·exact row_one h2.row
 ·obtain⟨tv,kv,dt,dk,F1,F2,rfl,_⟩:=h;rfl
open Go.Shelf
def rdC (cap n:Nat) (a:Option Addr) (L:List TokE) (s:S8):List Value:=[.slice a L.length cap,.int .i64 (s.k:Nat),.int .i64 (n:Nat),.int .i64 s.bad,.int .i64 s.pl]
structure DSt (w:World) (p cap n:Nat) (a:Option Addr) (L:List TokE) (s:S8):Prop where
 box:Bx w p 76 (rdC cap n a L s)
 toks:Toks w a L
 low:∀ x,a=some x→∀ n,(x.add n).block<p
 len:L.length≤1000000
 at_:s.k≤L.length
 sized:∀ i,(L.getD i default).tx.size≤140737488351232
 real:∀ i,(L.getD i default).rl<18446744073709551616
def Eff (p:Nat) (w w':World):Prop:=Below p w w'∧Oth p w w'
theorem Eff.refl (p:Nat) (w:World):Eff p w w:=⟨Below.refl _ _,Nat.le_refl _,fun _ _ _=>rfl⟩
theorem Eff.trans {p:Nat} {w w1 w2:World} (h:Eff p w w1) (h2:Eff p w1 w2):Eff p w w2:=⟨h.1.trans h2.1,h.2.trans h2.2⟩
theorem Eff.of_below {p:Nat} {w w':World} (h:Below w.heap.size w w') (hp:p<w.heap.size):Eff p w w':=⟨h.mono (Nat.le_of_lt hp),Oth.of_below h⟩
theorem Eff.set {p:Nat} {w w1:World} (h:Eff p w w1) (j:Nat) (v:Value):Eff p w (w1.setCell ⟨p,j,none⟩ v):=⟨h.1.setCell (Nat.le_refl _) _,h.2.set j v⟩
theorem Eff.size {p:Nat} {w w1:World} (h:Eff p w w1):w.heap.size≤w1.heap.size:=h.2.1
theorem bEq8 (a b:ByteArray):(a.toList==b.toList)=decide (a=b):=by
 by_cases h:a=b
 ·subst h;simp
 ·rw[decide_eq_false h];refine beq_eq_false_iff_ne.2 (fun e=>h ?_);rw[tl_dat,tl_dat] at e;obtain⟨⟨a⟩⟩:=a;obtain⟨⟨b⟩⟩:=b;simp at e;rw[e]
end Go.Proofs.YtenlhcgpajphhaaGreatDoor
