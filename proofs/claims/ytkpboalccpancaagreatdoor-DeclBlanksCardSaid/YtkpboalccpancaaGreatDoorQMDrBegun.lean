import Derived.Test.YtkpboalccpancaaGreatDoorQDrChord
import Derived.Test.YtkpboalccpancaaGreatDoorQMRefScan
import Derived.Test.YtkpboalccpancaaGreatDoorQMEpScan
import Derived.Deep.QuietTactic
import Derived.BigQuiet
import Derived.Test.YtkpboalccpancaaGreatDoorQMNextPlain
import Derived.Test.YtkpboalccpancaaGreatDoorQMDcPlain
namespace Go.Proofs.YtkpboalccpancaaGreatDoor
open Go.RowKit Go.Shelf
set_option maxRecDepth 100000
set_option linter.all false
def BegunD (l:List UInt8) (n:Nat) (w:World) (e:Ending) (w':World):Prop :=
 Below w.heap.size w w' ∧
 (((allR l).2.2≠0∧e=.returned (.tuple #[.pointer none,.int .i64 (allR l).2.1,.int .i64 (allR l).2.2])) ∨
  ((allR l).2.2=0∧∃ p cap a,e=.returned (.tuple #[.pointer (some ⟨p,0,none⟩),.int .i64 0,.int .i64 0])∧w.heap.size≤p∧DSt w' p cap n a (toksL l) ⟨0,0,0⟩))
def zChord:ChordE:=⟨eB,[],none,[]⟩
def endS (L:List TokE) (n:Nat) (s:S8):S8:=if s.bad=0∧s.k<L.length then failS L n s s.k 80 else s
noncomputable def chordT (l:List UInt8) (n:Nat):ChordE × Int × Int :=
 if (allR l).2.2≠0 then (zChord,(((allR l).2.1:Nat):Int),(((allR l).2.2:Nat):Int))
 else if (endS (toksL l) n (chordS (toksL l) n ⟨0,0,0⟩).1).bad=0 then ((chordS (toksL l) n ⟨0,0,0⟩).2,0,0)
 else (zChord,(endS (toksL l) n (chordS (toksL l) n ⟨0,0,0⟩).1).pl,(endS (toksL l) n (chordS (toksL l) n ⟨0,0,0⟩).1).bad)
theorem chord_form {lo:Nat} {w:World} {t:ByteArray} {pv gv bv:Value} {x:ChordE} (h:Itm chordE lo w [.string t,pv,gv,bv] x):(∃ ad m c,pv=.slice ad m c)∧(∃ ad m c,gv=.slice ad m c)∧∃ ad m c,bv=.slice ad m c:=by
 obtain⟨F,⟨pv',gv',bv',dp,db,F1,F2,F3,hc,_,h1,⟨v,hv,_,hr⟩,h3⟩,_⟩:=h;cases hc;cases hv;refine⟨?_,?_,?_⟩
 ·rcases h1.row.2 with ⟨rfl,_⟩|⟨g,cap,cur,rfl,_⟩
  ·exact⟨_,_,_,rfl⟩
  ·exact⟨_,_,_,rfl⟩
 ·rcases hr.2 with ⟨rfl,_⟩|⟨g,cap,cur,rfl,_⟩
  ·exact⟨_,_,_,rfl⟩
  ·exact⟨_,_,_,rfl⟩
 ·rcases h3.row.2 with ⟨rfl,_⟩|⟨g,cap,cur,rfl,_⟩
  ·exact⟨_,_,_,rfl⟩
  ·exact⟨_,_,_,rfl⟩
def ParseCP (R:ChordE × Int × Int) (w:World) (e:Ending) (w':World):Prop :=
 ∃ pv gv bv,e=.returned (.tuple #[.agg #[.string R.1.nm,pv,gv,bv],.int .i64 R.2.1,.int .i64 R.2.2])∧Itm chordE w.heap.size w' [.string R.1.nm,pv,gv,bv] R.1∧Below w.heap.size w w'
end Go.Proofs.YtkpboalccpancaaGreatDoor
namespace Go.Proofs.YtkpboalccpancaaGreatDoor
open Go.RowKit
set_option linter.all false
def sp8 (c:Nat):List UInt8:=if c=1 then [9,10] else if c=2 then [32,35,32,115,111,32,105,116,32,105,115,10] else [32]
theorem sp8_head (c:Nat) (t:List UInt8):bAt (sp8 c++t) 0=32∨bAt (sp8 c++t) 0=9:=by
 unfold sp8;split
 ·exact .inr rfl
 split
 ·exact .inl rfl
 ·exact .inl rfl
theorem sp8_pos (c:Nat):0<(sp8 c).length∧(sp8 c).length≤12:=by
 unfold sp8;split
 ·decide
 split
 ·decide
 ·decide
theorem skip_blank {c:UInt8} (h:blankB c=true) (t:List UInt8):skipS false (c :: t)=1+skipS false t:=by rw[skipS,if_pos h]
theorem skip_hash (t:List UInt8):skipS false (35 :: t)=1+skipS true t:=by rw[skipS,if_neg (by decide),if_pos rfl]
theorem skip_in {c:UInt8} (h:c≠10) (t:List UInt8):skipS true (c :: t)=1+skipS true t:=by rw[skipS,if_neg h]
theorem skip_out (t:List UInt8):skipS true (10 :: t)=1+skipS false t:=by rw[skipS,if_pos rfl]
theorem sp8_skip (c:Nat) (t:List UInt8):skipS false (sp8 c++t)=(sp8 c).length+skipS false t:=by
 unfold sp8;split
 ·show skipS false (9 :: 10 :: t)=2+_;rw[skip_blank (by decide),skip_blank (by decide)];omega
 split
 ·show skipS false (32 :: 35 :: 32 :: 115 :: 111 :: 32 :: 105 :: 116 :: 32 :: 105 :: 115 :: 10 :: t)=12+_;rw[skip_blank (by decide),skip_hash,skip_in (by decide),skip_in (by decide),skip_in (by decide),skip_in (by decide),skip_in (by decide),skip_in (by decide),skip_in (by decide),skip_in (by decide),skip_in (by decide),skip_out];omega
 ·show skipS false (32 :: t)=1+_;rw[skip_blank (by decide)]
def sepP (l:List UInt8) (ck:Nat→Nat) (xs:List Tok) (i:Nat):List UInt8:=sp8 (ck i)++pieceOf l (xs.getD i zeroTok).at_ ((xs.getD i zeroTok).at_+(xs.getD i zeroTok).size)
def sepR (l:List UInt8) (ck:Nat→Nat) (xs:List Tok) (i m:Nat):List UInt8:=(List.range' i m).flatMap (sepP l ck xs)
theorem sepR_cons (l:List UInt8) (ck:Nat→Nat) (xs:List Tok) (i m:Nat):sepR l ck xs i (m+1)=sepP l ck xs i++sepR l ck xs (i+1) m:=by
 unfold sepR;rw[List.range'_succ,List.flatMap_cons]
theorem sepR_snoc (l:List UInt8) (ck:Nat→Nat) (xs:List Tok) (m:Nat):sepR l ck xs 0 (m+1)=sepR l ck xs 0 m++sepP l ck xs m:=by
 unfold sepR;rw[List.range'_concat,List.flatMap_append];simp
theorem sepR_head (l:List UInt8) (ck:Nat→Nat) (xs:List Tok) (i m:Nat):bAt (sepR l ck xs i m) 0=32∨bAt (sepR l ck xs i m) 0=9∨bAt (sepR l ck xs i m) 0=0:=by
 cases m with
 | zero=>exact .inr (.inr rfl)
 | succ m =>
  rw[sepR_cons];unfold sepP;rw[List.append_assoc];rcases sp8_head (ck i) (pieceOf l (xs.getD i zeroTok).at_ ((xs.getD i zeroTok).at_+(xs.getD i zeroTok).size)++sepR l ck xs (i+1) m) with h|h
  ·exact .inl h
  ·exact .inr (.inl h)
theorem seq_sep (l:List UInt8) (ck:Nat→Nat) (xs:List Tok) (hxs:∀ t ∈ xs,(t,0) ∈ allF l):∀ (m i:Nat),i+m=xs.length→∀ (r:List UInt8) (p f:Nat),p≤r.length→r.drop p=sepR l ck xs i m→m≤f →
  (seqF f r p).map zT=(xs.drop i).map fun t=>zT (t,0)
 | 0,i,hi,r,p,f,hp,hd,_=>by
  have:p=r.length:=by
   have:=congrArg List.length hd;rw[List.length_drop] at this;have e:(sepR l ck xs i 0).length=0:=rfl;omega
  rw[this,seq_end,List.drop_eq_nil_of_le (by omega)];rfl
 | m+1,i,hi,r,p,f,hp,hd,hf=>by
  obtain⟨g,rfl⟩:∃ g,f=g+1:=⟨f-1,by omega⟩
  have hil:i<xs.length:=by omega
  obtain⟨x,hx⟩:∃ x,x=xs.getD i zeroTok:=⟨_,rfl⟩
  have hxe:xs.getD i zeroTok=xs[i]:=by simp[hil]
  have hmem:(x,0) ∈ allF l:=hxs x (by rw[hx,hxe];exact List.getElem_mem hil);obtain⟨A,hA,hxt,hat,hk,hpos,hE,hk'⟩:=mem_place l (x,0) hmem rfl;simp only at hat hk hpos hE;have hlen:=piece_len l (Nat.le_add_right A x.size) hE;rw[Nat.add_sub_cancel_left] at hlen;rw[sepR_cons] at hd;unfold sepP at hd;rw[← hx,hat,List.append_assoc] at hd;obtain⟨s,hs⟩:∃ s,s=(sp8 (ck i)).length:=⟨_,rfl⟩
  have hd1:r.drop (p+s)=pieceOf l A (A+x.size)++sepR l ck xs (i+1) m:=by rw[← List.drop_drop,hd,List.drop_left' hs.symm]
  have hd2:r.drop (p+s+x.size)=sepR l ck xs (i+1) m:=by rw[← List.drop_drop,hd1,List.drop_left' hlen]
  have hle:p+s+x.size≤r.length:=by
   have:=congrArg List.length hd;simp only[List.length_drop,List.length_append,hlen,← hs] at this;omega
  have hpp:(r.drop (p+s)).take x.size=(l.drop A).take x.size:=by
   rw[hd1,List.take_left' hlen];unfold pieceOf;rw[Nat.add_sub_cancel_left]
  have hbb:bAt r (p+s+x.size)=bAt (sepR l ck xs (i+1) m) 0:=by rw[← hd2,bAt_drop];rfl
  have hb:Behind (bAt l (A+x.size)) (bAt r (p+s+x.size)):=by
   rw[hbb];rcases sepR_head l ck xs (i+1) m with h|h|h
   ·rw[h];exact .inr (.inl (by decide))
   ·rw[h];exact .inr (.inl (by decide))
   ·rw[h];exact .inr (.inr rfl)
  have hn:=next_local (r:=r) (B:=p+s) hxt (Nat.le_of_lt hA) rfl hk hk' hpos hpp hle hb;have hn':nextF r p=({ x with at_:=p+s },0):=by
   have hs0:bAt r (p+s)=bAt l A:=by
    have h1:=bAt_tk (r.drop (p+s)) x.size 0 hpos;have h2:=bAt_tk (l.drop A) x.size 0 hpos;rw[bAt_drop,Nat.add_zero] at h1 h2;rw[← h1,← h2,hpp]
   have hsk1:skipS false (r.drop (p+s))=0:=skip_none (by rw[bAt_drop,Nat.add_zero,hs0];exact first_on hk');have hsk:skipS false (r.drop p)=s:=by
    rw[hd,← hd1,sp8_skip,hsk1,hs];rfl
   unfold nextF at hn ⊢;rw[hsk1,Nat.add_zero] at hn;rw[hsk];exact hn
  rw[seqF,hn',if_neg (by simp),if_neg (by simpa using hk)];simp only;rw[List.map_cons,seq_sep l ck xs hxs m (i+1) (by omega) r (p+s+x.size) g hle hd2 (by omega),List.drop_eq_getElem_cons hil,List.map_cons,← hxe,← hx];rfl
theorem sepR_few (l:List UInt8) (ck:Nat→Nat) (xs:List Tok):∀ (m i:Nat),m≤(sepR l ck xs i m).length
 | 0,_=>Nat.zero_le _
 | m+1,i=>by
  rw[sepR_cons];have:=sepR_few l ck xs m (i+1);have:=(sp8_pos (ck i)).1;unfold sepP;simp only[List.length_append];omega
theorem all_zero {l:List UInt8} (h0:(allR l).2.2=0):allF l=(allR l).1.map (fun t=>(t,0)):=by
 have e:=same_all l;unfold toldR at e;rw[if_pos h0,List.append_nil] at e;exact e
def at0 (t:Tok):Tok:={ t with at_:=0 }
theorem scan_sep (l:List UInt8) (ck:Nat→Nat) (h0:(allR l).2.2=0) (hb:(sepR l ck (allR l).1 0 (allR l).1.length).length≤32768) :
  (allR (sepR l ck (allR l).1 0 (allR l).1.length)).2.2=0∧(allR (sepR l ck (allR l).1 0 (allR l).1.length)).1.map at0=(allR l).1.map at0:=by
 have hall:=all_zero h0;generalize (allR l).1=xs at *
 have hsep:=sepR_few l ck xs xs.length 0;generalize hr:sepR l ck xs 0 xs.length=r at *
 have hq:(allF r).map zT=xs.map fun t=>zT (t,0):=by
  unfold allF;rw[if_neg (by omega)];exact seq_sep l ck xs (fun t ht=>by rw[hall];exact List.mem_map.2 ⟨t,ht,rfl⟩) xs.length 0 (by omega) r 0 _ (Nat.zero_le _) hr.symm (by omega)
 have hz:∀ x ∈ allF r,x.2=0:=fun x hx=>by
  have:zT x ∈ (allF r).map zT:=List.mem_map.2 ⟨x,hx,rfl⟩;rw[hq] at this;obtain⟨t,_,ht⟩:=List.mem_map.1 this;exact(congrArg Prod.snd ht).symm
 obtain⟨_,q2,q3⟩:=all_ok hz;refine⟨q2,?_⟩;rw[q3,List.map_map] at hq;have:=congrArg (List.map Prod.fst) hq;rw[List.map_map,List.map_map] at this;exact this
def p0 (t:TokE):TokE:={ t with pl:=0 }
def SameL (L M:List TokE):Prop:=L.map p0=M.map p0
theorem SameL.len {L M:List TokE} (h:SameL L M):L.length=M.length:=by
 have:=congrArg List.length h
 simpa using this
theorem SameL.at {L M:List TokE} (h:SameL L M) (k:Nat):p0 (L.getD k default)=p0 (M.getD k default):=by
 have hk:=congrArg (fun l:List TokE=>(l[k]?).getD (p0 default)) h;simp only[List.getElem?_map,Option.getD_map] at hk;rw[List.getD_eq_getElem?_getD,List.getD_eq_getElem?_getD];exact hk
def E8 (s t:S8):Prop:=s.k=t.k∧s.bad=t.bad
def R2 {α:Type} (x y:S8 × α):Prop:=E8 x.1 y.1∧x.2=y.2
section
variable {L M:List TokE} (h:SameL L M) {n m:Nat}
include h
theorem gL_same:gL L=gL M:=by
 funext k
 unfold gL;rw[h.len,show clT (L.getD k default)=clT (p0 (L.getD k default)) from rfl,h.at];rfl
theorem rdX_same:rdX L=rdX M:=by
 have e:RdR L=RdR M:=by
  funext k o a f
  unfold RdR;rw[gL_same h]
 funext k
 unfold rdX;exact congrArg (fun R:Nat→Option Ex→Int→Int→Prop=>@dite _ (∃ x:Option Ex × Int × Int,R k x.1 x.2.1 x.2.2) (Classical.propDecidable _) (fun h=>Classical.choose h) (fun _=>(none,0,0))) e
theorem kd_same (k:Nat):(tkE L k).kd=(tkE M k).kd:=by
 show (p0 (L.getD k default)).kd=(p0 (M.getD k default)).kd;rw[h.at]
theorem tx_same (k:Nat):(tkE L k).tx=(tkE M k).tx:=by
 show (p0 (L.getD k default)).tx=(p0 (M.getD k default)).tx;rw[h.at]
theorem isB_same {s t:S8} (e:E8 s t) (b:ByteArray):isB L s b=isB M t b:=by
 unfold isB;rw[e.1,e.2,kd_same h,tx_same h,h.len]
theorem wordB_same {s t:S8} (e:E8 s t):wordB8 L s=wordB8 M t:=by
 unfold wordB8;rw[e.1,e.2,kd_same h,tx_same h,h.len]
theorem kindB_same {s t:S8} (e:E8 s t):kindB8 L s=kindB8 M t:=by
 unfold kindB8;rw[e.1,e.2,kd_same h,h.len]
omit h in
theorem next_same {s t:S8} (e:E8 s t):E8 (nextS s) (nextS t):=⟨congrArg (·+1) e.1,e.2⟩
omit h in
theorem fail_same {s t:S8} (e:E8 s t) (i i' x:Int):E8 (failS L n s i x) (failS M m t i' x):=by
 unfold failS;by_cases hb:s.bad=0
 ·rw[if_pos hb,if_pos (show t.bad=0 from e.2 ▸ hb)];exact⟨e.1,rfl⟩
 ·rw[if_neg hb,if_neg (show ¬ t.bad=0 from e.2 ▸ hb)];exact e
theorem want_same {s t:S8} (e:E8 s t) (b:ByteArray):E8 (wantS L n s b) (wantS M m t b):=by
 unfold wantS;rw[isB_same h e];split
 ·exact next_same e
 ·exact fail_same e _ _ _
theorem word_same {s t:S8} (e:E8 s t):R2 (wordS L n s) (wordS M m t):=by
 unfold wordS;rw[wordB_same h e,e.1,tx_same h];split
 ·exact⟨next_same e,rfl⟩
 ·exact⟨fail_same e _ _ _,rfl⟩
theorem expr_same {s t:S8} (e:E8 s t):R2 (exprS L n s) (exprS M m t):=by
 unfold exprS;by_cases hb:s.bad=0
 ·rw[if_pos hb,if_pos (show t.bad=0 from e.2 ▸ hb),rdX_same h,e.1];generalize rdX M t.k=r;obtain⟨o,a,f⟩:=r;cases o with
  | none=>exact⟨fail_same e _ _ _,rfl⟩
  | some x=>exact⟨⟨rfl,e.2⟩,rfl⟩
 ·rw[if_neg hb,if_neg (show ¬ t.bad=0 from e.2 ▸ hb)];exact⟨e,rfl⟩
theorem loop_same {α:Type} {it it':S8→S8 × α} (hi:∀ s t,E8 s t→R2 (it s) (it' t)):∀ (f:Nat) (s t:S8) (l:List α),E8 s t→R2 (loopS L n it f s l) (loopS M m it' f t l)
 | 0,s,t,l,e=>⟨e,rfl⟩
 | f+1,s,t,l,e=>by
  rw[loopS,loopS,isB_same h e];by_cases hb:s.bad=0
  ·rw[if_pos hb,if_pos (show t.bad=0 from e.2 ▸ hb)];split
   ·exact⟨next_same e,rfl⟩
   ·obtain⟨h1,h2⟩:=hi _ _ (want_same h (n:=n) (m:=m) e ⟨#[44]⟩);rw[h2];exact loop_same hi f _ _ _ h1
  ·rw[if_neg hb,if_neg (show ¬ t.bad=0 from e.2 ▸ hb)];exact⟨e,rfl⟩
theorem list_same {α:Type} {it it':S8→S8 × α} (hi:∀ s t,E8 s t→R2 (it s) (it' t)) {s t:S8} (e:E8 s t):R2 (listS L n it s) (listS M m it' t):=by
 have w:=want_same h (n:=n) (m:=m) e ⟨#[40]⟩;unfold listS;rw[isB_same h w];split
 ·exact⟨next_same w,rfl⟩
 ·obtain⟨h1,h2⟩:=hi _ _ w;rw[h2,show fuel8 L=fuel8 M from congrArg (·+2) h.len];exact loop_same h hi _ _ _ _ h1
theorem args_same {s t:S8} (e:E8 s t):R2 (argsS L n s) (argsS M m t):=list_same h (fun _ _ e=>expr_same h e) e
theorem kind_same {s t:S8} (e:E8 s t):R2 (kindS L n s) (kindS M m t):=by
 unfold kindS;rw[kindB_same h e,e.1,tx_same h];split
 ·exact⟨next_same e,rfl⟩
 ·exact⟨fail_same e _ _ _,rfl⟩
theorem tag_same {s t:S8} (e:E8 s t):R2 (tagS L n s) (tagS M m t):=by
 have h1:=word_same h (n:=n) (m:=m) e;have h2:=list_same h (n:=n) (m:=m) (fun _ _ e=>kind_same h (n:=n) (m:=m) e) h1.1;exact⟨want_same h h2.1 _,by unfold tagS;rw[h1.2,h2.2]⟩
theorem var_same {s t:S8} (e:E8 s t):R2 (varS L n s) (varS M m t):=by
 unfold varS;rw[isB_same h e];split
 ·exact⟨next_same e,rfl⟩
 ·exact word_same h e
theorem part_same {s t:S8} (e:E8 s t):R2 (partS L n s) (partS M m t):=by
 have h1:=word_same h (n:=n) (m:=m) e;have h2:=list_same h (n:=n) (m:=m) (fun _ _ e=>var_same h (n:=n) (m:=m) e) h1.1;exact⟨h2.1,by unfold partS;rw[h1.2,h2.2]⟩
theorem send_same {s t:S8} (e:E8 s t):R2 (sendS L n s) (sendS M m t):=by
 have h1:=expr_same h (n:=n) (m:=m) (next_same e);have h2:=word_same h (n:=n) (m:=m) h1.1;have h3:=args_same h (n:=n) (m:=m) h2.1;exact⟨h3.1,by unfold sendS;simp only;rw[h1.2,h2.2,h3.2]⟩
theorem spawn_same {s t:S8} (e:E8 s t):R2 (spawnS L n s) (spawnS M m t):=by
 have h1:=word_same h (n:=n) (m:=m) (next_same e);have h2:=word_same h (n:=n) (m:=m) (want_same h (n:=n) (m:=m) h1.1 ⟨#[97,115]⟩);exact⟨h2.1,by unfold spawnS;simp only;rw[h1.2,h2.2]⟩
theorem reply_same {s t:S8} (e:E8 s t):R2 (replyS L n s) (replyS M m t):=by
 have h1:=args_same h (n:=n) (m:=m) (next_same e);exact⟨h1.1,by unfold replyS;simp only;rw[h1.2]⟩
theorem become_same {s t:S8} (e:E8 s t):R2 (becomeS L n s) (becomeS M m t):=by
 have h1:=word_same h (n:=n) (m:=m) (next_same e);exact⟨h1.1,by unfold becomeS;simp only;rw[h1.2]⟩
theorem done_same {s t:S8} (e:E8 s t):R2 (doneS L n s) (doneS M m t):=by
 unfold doneS;rw[isB_same h e,isB_same h e,isB_same h e,isB_same h e];split
 ·exact send_same h e
 split
 ·exact spawn_same h e
 split
 ·exact reply_same h e
 split
 ·exact become_same h e
 ·exact⟨fail_same e _ _ _,rfl⟩
theorem act_same {s t:S8} (e:E8 s t):R2 (actS L n s) (actS M m t):=by
 have h1:=done_same h (n:=n) (m:=m) e;exact⟨want_same h h1.1 _,h1.2⟩
theorem amp_same:∀ (f:Nat) (s t:S8) (l:List PartE),E8 s t→R2 (ampS L n f s l) (ampS M m f t l)
 | 0,s,t,l,e=>⟨e,rfl⟩
 | f+1,s,t,l,e=>by
  rw[ampS,ampS,isB_same h e];split
  ·obtain⟨h1,h2⟩:=part_same h (n:=n) (m:=m) (next_same e);rw[h2];exact amp_same f _ _ _ h1
  ·exact⟨e,rfl⟩
theorem up_same {α:Type} {it it':S8→S8 × α} (hi:∀ s t,E8 s t→R2 (it s) (it' t)):∀ (f:Nat) (s t:S8) (l:List α),E8 s t→R2 (upS L it f s l) (upS M it' f t l)
 | 0,s,t,l,e=>⟨e,rfl⟩
 | f+1,s,t,l,e=>by
  rw[upS,upS,isB_same h e];by_cases hb:s.bad=0
  ·rw[if_pos hb,if_pos (show t.bad=0 from e.2 ▸ hb)];split
   ·exact⟨next_same e,rfl⟩
   ·obtain⟨h1,h2⟩:=hi _ _ e;rw[h2];exact up_same hi f _ _ _ h1
  ·rw[if_neg hb,if_neg (show ¬ t.bad=0 from e.2 ▸ hb)];exact⟨e,rfl⟩
theorem guard_same {s t:S8} (e:E8 s t) (b:ByteArray):R2 (if isB L s b then exprS L n (nextS s) else (s,none)) (if isB M t b then exprS M m (nextS t) else (t,none)):=by
 rw[isB_same h e];split
 ·exact expr_same h (next_same e)
 ·exact⟨e,rfl⟩
theorem chord_same {s t:S8} (e:E8 s t):R2 (chordS L n s) (chordS M m t):=by
 have h1:=word_same h (n:=n) (m:=m) (want_same h (n:=n) (m:=m) e ⟨#[99,104,111,114,100]⟩);have h2:=part_same h (n:=n) (m:=m) (want_same h (n:=n) (m:=m) h1.1 ⟨#[58]⟩);have h3:=amp_same h (n:=n) (m:=m) (fuel8 L) _ _ [(partS L n (wantS L n (wordS L n (wantS L n s ⟨#[99,104,111,114,100]⟩)).1 ⟨#[58]⟩)).2] h2.1;have h4:=guard_same h (n:=n) (m:=m) h3.1 ⟨#[119,104,101,110]⟩;have h5:=up_same h (fun _ _ e=>act_same h (n:=n) (m:=m) e) (fuel8 L) _ _ [] (want_same h (n:=n) (m:=m) h4.1 ⟨#[123]⟩);rw[h2.2] at h3 h4 h5;unfold chordS;simp only[show fuel8 M=fuel8 L from (congrArg (·+2) h.len).symm];rw[h2.2];exact⟨h5.1,by rw[h1.2,h3.2,h4.2,h5.2]⟩
theorem kindD_same {s t:S8} (e:E8 s t):R2 (kindDS L n s) (kindDS M m t):=by
 have h1:=word_same h (n:=n) (m:=m) (want_same h (n:=n) (m:=m) e ⟨#[107,105,110,100]⟩);have h2:=up_same h (fun _ _ e=>chord_same h (n:=n) (m:=m) e) (fuel8 L) _ _ [] (want_same h (n:=n) (m:=m) h1.1 ⟨#[123]⟩);unfold kindDS;simp only[show fuel8 M=fuel8 L from (congrArg (·+2) h.len).symm];exact⟨h2.1,by rw[h1.2,h2.2]⟩
theorem prog_same:∀ (f:Nat) (s t:S8) (p:ProgE),E8 s t→R2 (progS L n f s p) (progS M m f t p)
 | 0,s,t,p,e=>⟨e,rfl⟩
 | f+1,s,t,p,e=>by
  rw[progS,progS,isB_same h e,e.1,e.2,h.len];split
  ·split
   ·obtain⟨h1,h2⟩:=tag_same h (n:=n) (m:=m) (next_same e);rw[h2];exact prog_same f _ _ _ h1
   ·obtain⟨h1,h2⟩:=kindD_same h (n:=n) (m:=m) e;rw[h2];exact prog_same f _ _ _ h1
  ·exact⟨e,rfl⟩
end
end Go.Proofs.YtkpboalccpancaaGreatDoor
