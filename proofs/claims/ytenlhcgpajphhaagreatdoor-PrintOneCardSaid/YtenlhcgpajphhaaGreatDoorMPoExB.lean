import Derived.Test.YtenlhcgpajphhaaGreatDoorMPoRead
import Derived.Test.YtenlhcgpajphhaaGreatDoorMDcPlain
namespace Go.Proofs.YtenlhcgpajphhaaGreatDoor
open Go.RowKit
set_option linter.all false
def Bls (s:List UInt8):Prop:=∀ c ∈ s,qc6 c=true
theorem Bls.nil:Bls []:=fun c h=>by cases h
theorem Bls.one:Bls [32]:=fun c h=>by simp at h;subst h;decide
theorem q2O {c:UInt8}:qc6 c=true→qkG c:=qkF (fun c=>qc6 c=true→(c≠61∧c≠62∧c≠38∧c≠124)) (by decide +kernel) c
theorem qeC (x:It) (xs:List It) (tl:List UInt8) (hs:Bls x.sp) (hp:0<x.pc.length) (hb:qkG (bAt x.pc 0)):qkG (bAt (qa5 (x :: xs)++tl) 0):=by
 rw[qcG,List.append_assoc];cases h:x.sp with
 | nil=>rw[List.nil_append,List.append_assoc,qtQ hp];exact hb
 | cons c r =>
  have:bAt ((c :: r)++(x.pc++qa5 xs++tl)) 0=c:=rfl;rw[this];exact q2O (hs c (by rw[h];simp))
theorem qg4 (x:It) (xs:List It) (tl:List UInt8) (hs:x.sp=[]) (hp:0<x.pc.length):bAt (qa5 (x :: xs)++tl) 0=bAt x.pc 0:=by
 rw[qcG,hs,List.nil_append,List.append_assoc,qtQ hp]
theorem qpI (x:It) (xs:List It) (tl:List UInt8) (c:UInt8) (r:List UInt8) (hs:x.sp=c :: r):bAt (qa5 (x :: xs)++tl) 0=c:=by
 rw[qcG,hs];rfl
theorem qaU {c:UInt8} {s:List UInt8} {xs:List It} {tl:List UInt8} (h:qb7 c=true∧qa8 c=false∧qa1 c=false∧c≠34) (hs:Bls s) (ht:qaP c (bAt (qa5 xs++tl) 0)=false) (ho:OkI tl xs):OkI tl (mkI s [c] :: xs) :=
 ⟨hs,by simp[mkI],q4F h.1 h.2.1 h.2.2.1 h.2.2.2,⟨fun h=>by simp[mkI] at h,fun _ _=>ht⟩,ho⟩
theorem q0Z {c d:UInt8} {s:List UInt8} {xs:List It} {tl:List UInt8} (h:qaP c d=true) (hs:Bls s) (ho:OkI tl xs):OkI tl (mkI s [c,d] :: xs) :=
 ⟨hs,by simp[mkI],q4E h,⟨fun h=>by simp[mkI] at h,fun _ h=>by simp[mkI] at h⟩,ho⟩
theorem qdC {n s:List UInt8} {xs:List It} {tl:List UInt8} (h:qd2 n=true) (hs:Bls s) (ht:qaJ (bAt (qa5 xs++tl) 0)=false) (ho:OkI tl xs):OkI tl (nmI s n :: xs):=by
 obtain⟨n1,n2,n3⟩:=qhE h;exact⟨hs,by simp[nmI],qoU n1 n2 n3,⟨fun _=>ht,fun h=>by simp[nmI] at h⟩,ho⟩
theorem q4J {l:Lf} {s:List UInt8} {xs:List It} {tl:List UInt8} (h:q64 l) (hs:Bls s) (ht:qaJ (bAt (qa5 xs++tl) 0)=false) (ho:OkI tl xs):OkI tl (itL s l :: xs):=by
 obtain⟨h1,h2,h3⟩:=q0W h s;exact⟨by cases l <;> exact hs,h1,h2,⟨fun _=>ht,fun h=>absurd h h3⟩,ho⟩
theorem qu8 (d:UInt8):qaP 40 d=false:=by unfold qaP;simp
theorem qu7 (d:UInt8):qaP 41 d=false:=by unfold qaP;simp
theorem q6C (d:UInt8):qaP 44 d=false:=by unfold qaP;simp
theorem q4S:qb7 40=true∧qa8 40=false∧qa1 40=false∧(40:UInt8)≠34:=by decide
theorem q4R:qb7 41=true∧qa8 41=false∧qa1 41=false∧(41:UInt8)≠34:=by decide
theorem jb3:qb7 44=true∧qa8 44=false∧qa1 44=false∧(44:UInt8)≠34:=by decide
theorem q8A:∀ k:Nat,k<27→qeJ k=2→qb3 k≠7→(∃ c,qcF k=[c]∧qb7 c=true∧qa8 c=false∧qa1 c=false∧c≠34)∨∃ c d,qcF k=[c,d]∧qaP c d=true:=by
 intro k hk hc h7;have h:k=5∨k=6∨k=7∨k=8∨k=9∨k=10∨k=11∨k=12∨k=13∨k=14∨k=15∨k=16∨k=17:=by
  have:∀ k:Fin 27,qeJ k.val=2→qb3 k.val≠7→5≤k.val∧k.val≤17:=by decide
  have:=this ⟨k,hk⟩ hc h7;simp only at this;omega
 rcases h with rfl|rfl|rfl|rfl|rfl|rfl|rfl|rfl|rfl|rfl|rfl|rfl|rfl
 ·exact .inl ⟨_,rfl,by decide⟩
 ·exact .inl ⟨_,rfl,by decide⟩
 ·exact .inl ⟨_,rfl,by decide⟩
 ·exact .inl ⟨_,rfl,by decide⟩
 ·exact .inl ⟨_,rfl,by decide⟩
 ·exact .inr ⟨_,_,rfl,by decide⟩
 ·exact .inr ⟨_,_,rfl,by decide⟩
 ·exact .inl ⟨_,rfl,by decide⟩
 ·exact .inr ⟨_,_,rfl,by decide⟩
 ·exact .inl ⟨_,rfl,by decide⟩
 ·exact .inr ⟨_,_,rfl,by decide⟩
 ·exact .inr ⟨_,_,rfl,by decide⟩
 ·exact .inr ⟨_,_,rfl,by decide⟩
theorem jaQ {k:Nat} {xs:List It} {tl:List UInt8} (hk:k<27) (hc:qeJ k=2) (h7:qb3 k≠7) (hb:qkG (bAt (qa5 xs++tl) 0)) (ho:OkI tl xs):OkI tl (mkI [32] (qcF k) :: xs):=by
 rcases q8A k hk hc h7 with ⟨c,e,h⟩|⟨c,d,e,h⟩
 ·rw[e];exact qaU h Bls.one (qu6 hb) ho
 ·rw[e];exact q0Z h Bls.one ho
theorem qqL {k:Nat} (h:k=3∨k=4):∃ c,qcF k=[c]∧(qb7 c=true∧qa8 c=false∧qa1 c=false∧c≠34)∧qkG c:=by
 rcases h with rfl|rfl
 ·exact⟨45,rfl,by decide,by unfold qkG;decide⟩
 ·exact⟨33,rfl,by decide,by unfold qkG;decide⟩
theorem qp2 {l:List UInt8} (h:qd2 l=true):0<l.length∧qkG (bAt l 0):=by
 obtain⟨n1,n2,n3⟩:=qhE h;have hp:0<l.length:=by
  rcases Nat.eq_zero_or_pos l.length with h|h
  ·rw[List.eq_nil_of_length_eq_zero h] at n1;exact absurd n1 (by decide)
  ·exact h
 exact⟨hp,qpZ (qhZ n1).1⟩
theorem qv7 {l:Lf} (h:q64 l) (s:List UInt8):0<(itL s l).pc.length∧qkG (bAt (itL s l).pc 0):=by
 have hp:=(q0W h s).2.1.1;refine⟨hp,?_⟩;cases l with
 | int v=>exact qpZ (qf6 (qj2 _ (by rw[qeT hp];exact List.getElem_mem _))).1
 | real b =>
  obtain⟨m,x,rfl,ho⟩:=h;have e:(itL s (.real (qaA m x))).pc=qfX m x:=(qg0 ho).2;rw[e];unfold qfX;have h0:0<(Lib.decDigits m).length:=List.length_pos_iff.2 (qrX m);rw[qtQ h0];exact qpZ (qf6 (qj2 _ (by rw[qeT h0];exact List.getElem_mem _))).1
 | text t=>show qkG 34;unfold qkG;decide
 | bool b =>
  cases b
  ·show qkG 102;unfold qkG;decide
  ·show qkG 116;unfold qkG;decide
 | var t =>
  have h:(qd2 t.data.toList && !(t.data.toList==[116,114,117,101]) && !(t.data.toList==[102,97,108,115,101]) && decide (qcX t.data.toList=0))=true:=h;simp only[Bool.and_eq_true] at h;exact(qp2 h.1.1.1).2
theorem jbV:∀ t:Ex,WfT t→qq4 t→∀ s,Bls s→∀ rest tl,qkG (bAt (qa5 (itX s t++rest)++tl) 0):=by
 intro t
 induction t with
 | lf l =>
  intro _ h s hs rest tl;obtain⟨h1,h2⟩:=qv7 h s;exact qeC (itL s l) rest tl (by cases l <;> exact hs) h1 h2
 | un k a ih =>
  intro hw h s hs rest tl;obtain⟨hk,hc,ha⟩:=hw;unfold itX;split
  ·rename_i h7;obtain⟨n1,n2⟩:=qp2 (qf7 k hk h7 (by omega)).1;exact qeC (nmI s (qcF k)) _ tl hs n1 n2
  ·rename_i h7;rcases qgB k hk hc with ⟨hs2,hl⟩|⟨hl,_⟩
   ·obtain⟨c,e,_,hb⟩:=qqL hs2;rw[e];exact qeC (mkI s [c]) _ tl hs (by simp[mkI]) hb
   ·exact absurd hl h7
 | bi k a b iha ihb =>
  intro hw h s hs rest tl;obtain⟨hk,hc,ha,hb⟩:=hw;unfold itX;split
  ·rename_i h7;obtain⟨n1,n2⟩:=qp2 (qf7 k hk h7 (by omega)).1;exact qeC (nmI s (qcF k)) _ tl hs n1 n2
  ·rw[List.append_assoc];split
   ·exact iha ha h.1 s hs _ tl
   ·exact qeC (mkI s [40]) _ tl hs (by simp[mkI]) (by show qkG 40;unfold qkG;decide)
theorem q4H {a:Ex} {s:List UInt8} {tl:List UInt8} {rest:List It} (ih:∀ s,Bls s→∀ rest,OkI tl rest→qaJ (bAt (qa5 rest++tl) 0)=false→OkI tl (itX s a++rest)) (hs:Bls s) (ho:OkI tl rest):OkI tl (mkI s [40] :: (itX [] a++mkI [] [41] :: rest)):=by
 refine qaU q4S hs (qu8 _) (ih [] Bls.nil _ (qaU q4R Bls.nil (qu7 _) ho) ?_);rw[qg4 (mkI [] [41]) rest tl rfl (by simp[mkI])]
 decide
theorem jcM (tl:List UInt8):∀ t:Ex,WfT t→qq4 t→∀ s,Bls s→∀ rest,OkI tl rest→qaJ (bAt (qa5 rest++tl) 0)=false→OkI tl (itX s t++rest):=by
 intro t
 induction t with
 | lf l=>intro _ h s hs rest ho ht;exact q4J h hs ht ho
 | un k a ih =>
  intro hw h s hs rest ho ht;obtain⟨hk,hc,ha⟩:=hw;have ih:=ih ha h;unfold itX;split
  ·rename_i h7;have e:(nmI s (qcF k) :: mkI [] [40] :: (itX [] a++[mkI [] [41]]))++rest=nmI s (qcF k) :: mkI [] [40] :: (itX [] a++mkI [] [41] :: rest):=by simp
   rw[e];refine qdC (qf7 k hk h7 (by omega)).1 hs ?_ (q4H ih Bls.nil ho);rw[qg4 (mkI [] [40]) _ tl rfl (by simp[mkI])]
   decide
  ·rename_i h7;rcases qgB k hk hc with ⟨hs2,hl⟩|⟨hl,_⟩
   ·obtain⟨c,e,hm,_⟩:=qqL hs2;rw[e,List.cons_append];split
    ·exact qaU hm hs (qu6 (jbV a ha h [] Bls.nil rest tl)) (ih [] Bls.nil rest ho ht)
    ·have e2:(mkI [] [40] :: (itX [] a++[mkI [] [41]]))++rest=mkI [] [40] :: (itX [] a++mkI [] [41] :: rest):=by simp
     rw[e2];refine qaU hm hs (qu6 (qeC (mkI [] [40]) _ tl Bls.nil (by simp[mkI]) (by show qkG 40;unfold qkG;decide))) (q4H ih Bls.nil ho)
   ·exact absurd hl h7
 | bi k a b iha ihb =>
  intro hw h s hs rest ho ht;obtain⟨hk,hc,ha,hb⟩:=hw;have iha:=iha ha h.1;have ihb:=ihb hb h.2;unfold itX;split
  ·rename_i h7;have e:(nmI s (qcF k) :: mkI [] [40] :: (itX [] a++mkI [] [44] :: (itX [32] b++[mkI [] [41]])))++rest=nmI s (qcF k) :: mkI [] [40] :: (itX [] a++mkI [] [44] :: (itX [32] b++mkI [] [41] :: rest)):=by simp
   rw[e];have hc41:qaJ (bAt (qa5 (mkI [] [41] :: rest)++tl) 0)=false:=by rw[qg4 (mkI [] [41]) rest tl rfl (by simp[mkI])];decide
   have o1:=ihb [32] Bls.one _ (qaU q4R Bls.nil (qu7 _) ho) hc41;have o2:=qaU jb3 Bls.nil (q6C _) o1;have hc44:qaJ (bAt (qa5 (mkI [] [44] :: (itX [32] b++mkI [] [41] :: rest))++tl) 0)=false:=by rw[qg4 (mkI [] [44]) _ tl rfl (by simp[mkI])];decide
   have o3:=iha [] Bls.nil _ o2 hc44;refine qdC (qf7 k hk h7 (by omega)).1 hs ?_ (qaU q4S Bls.nil (qu8 _) o3);rw[qg4 (mkI [] [40]) _ tl rfl (by simp[mkI])]
   decide
  ·rename_i h7;rw[List.append_assoc,List.cons_append];have oB:OkI tl ((if qeN (qb3 k) true≤qdG b then itX [32] b else mkI [32] [40] :: (itX [] b++[mkI [] [41]]))++rest)∧qkG (bAt (qa5 ((if qeN (qb3 k) true≤qdG b then itX [32] b else mkI [32] [40] :: (itX [] b++[mkI [] [41]]))++rest)++tl) 0):=by
    split
    ·exact⟨ihb [32] Bls.one rest ho ht,jbV b hb h.2 [32] Bls.one rest tl⟩
    ·have e2:(mkI [32] [40] :: (itX [] b++[mkI [] [41]]))++rest=mkI [32] [40] :: (itX [] b++mkI [] [41] :: rest):=by simp
     rw[e2];exact⟨q4H ihb Bls.one ho,qeC (mkI [32] [40]) _ tl Bls.one (by simp[mkI]) (by show qkG 40;unfold qkG;decide)⟩
   generalize (if qeN (qb3 k) true≤qdG b then itX [32] b else mkI [32] [40] :: (itX [] b++[mkI [] [41]]))++rest=R at oB ⊢;have oO:=jaQ hk hc h7 oB.2 oB.1;have hop:qaJ (bAt (qa5 (mkI [32] (qcF k) :: R)++tl) 0)=false:=by rw[qpI (mkI [32] (qcF k)) R tl 32 [] rfl];decide
   split
   ·exact iha s hs _ oO hop
   ·have e2:(mkI s [40] :: (itX [] a++[mkI [] [41]]))++(mkI [32] (qcF k) :: R)=mkI s [40] :: (itX [] a++mkI [] [41] :: (mkI [32] (qcF k) :: R)):=by simp
    rw[e2];exact q4H iha hs oO
theorem qrS:∀ (t:Ex),WfT t→∀ s,∃ z zs,itX s t=z :: zs∧z.sp=s:=by
 intro t
 induction t with
 | lf l=>intro _ s;exact⟨itL s l,[],rfl,by cases l <;> rfl⟩
 | un k a ih =>
  intro _ s;unfold itX;split
  ·exact⟨_,_,rfl,rfl⟩
  ·exact⟨_,_,rfl,rfl⟩
 | bi k a b iha ihb =>
  intro hw s;unfold itX;split
  ·exact⟨_,_,rfl,rfl⟩
  ·split
   ·obtain⟨z,zs,hz,h⟩:=iha hw.2.2.1 s;exact⟨z,_,by rw[hz];rfl,h⟩
   ·exact⟨_,_,rfl,rfl⟩
def Sts (L:List TokE) (k:Nat) (xs:List It):Prop:=∀ (i:Nat) (x:It),xs[i]?=some x→k+i<L.length∧(tkE L (k+i)).kd=(x.kd:Int)∧(tkE L (k+i)).tx=⟨x.tx.toArray⟩∧(tkE L (k+i)).iv=x.iv∧(tkE L (k+i)).rl=x.rl
section
variable {L:List TokE} {k n:Nat} {x:It} {xs ys:List It} {s:S8}
theorem Sts.head (h:Sts L k (x :: xs)):k<L.length∧(tkE L k).kd=(x.kd:Int)∧(tkE L k).tx=⟨x.tx.toArray⟩∧(tkE L k).iv=x.iv∧(tkE L k).rl=x.rl:=h 0 x rfl
theorem Sts.tail (h:Sts L k (x :: xs)):Sts L (k+1) xs:=fun i y hy=>by
 have:=h (i+1) y (by simpa using hy)
 rwa [show k+(i+1)=k+1+i by omega] at this
theorem Sts.left (h:Sts L k (xs++ys)):Sts L k xs:=fun i y hy=>h i y (by rw[List.getElem?_append_left (List.getElem?_eq_some_iff.1 hy).1];exact hy)
theorem Sts.right (h:Sts L k (xs++ys)):Sts L (k+xs.length) ys:=fun i y hy=>by
 have:=h (xs.length+i) y (by rw[List.getElem?_append_right (by omega),Nat.add_sub_cancel_left];exact hy)
 rwa [← Nat.add_assoc] at this
theorem q6X {i:Nat} (h:Sts L k xs) (hx:xs[i]?=some x):gL L (k+i)=clI x:=by
 obtain⟨h1,h2,h3,h4,h5⟩:=h i x hx;unfold gL;rw[if_pos h1];show clT (tkE L (k+i))=_;have e:clT (tkE L (k+i))=clT ⟨(tkE L (k+i)).kd,(tkE L (k+i)).tx,(tkE L (k+i)).iv,(tkE L (k+i)).rl,0,0⟩:=rfl;rw[e,h2,h3,h4,h5];rfl
theorem Sts.at8 (h:Sts L k xs):At8 (gL L) k (xs.map clI):=fun i c hc=>by
 rw[List.getElem?_map] at hc;cases hx:xs[i]? with
 | none=>rw[hx] at hc;cases hc
 | some x =>
  rw[hx] at hc;rw[q6X h hx]
  simpa using hc
def On (s:S8) (k:Nat):Prop:=s.k=k∧s.bad=0
def mv (s:S8) (m:Nat):S8:=⟨s.k+m,s.bad,s.pl⟩
theorem qhX:qa6 s=mv s 1:=rfl
theorem qfA (a b:Nat):mv (mv s a) b=mv s (a+b):=by unfold mv;simp[Nat.add_assoc]
theorem qgM (hb:s.bad=0) (h:Sts L s.k (x :: xs)) (hk:x.kd=1∨x.kd=5):isB L s ⟨x.tx.toArray⟩=true:=by
 obtain⟨h1,h2,h3,_⟩:=h.head;unfold isB;rw[decide_eq_true hb,decide_eq_true h1,h2,h3];rcases hk with hk|hk <;> rw[hk] <;> simp
theorem qjU (h:Sts L s.k (x :: xs)) {t:List UInt8} (hne:x.tx≠t∨(x.kd≠1∧x.kd≠5)):isB L s ⟨t.toArray⟩=false:=by
 obtain⟨h1,h2,h3,_⟩:=h.head;unfold isB;rcases hne with hne|hne
 ·have:decide ((tkE L s.k).tx=⟨t.toArray⟩)=false:=decide_eq_false (fun e=>by
   rw[h3] at e;have:=congrArg (fun b:ByteArray=>b.data.toList) e;simp at this;exact hne this)
  rw[this];simp
 ·have e1:decide ((tkE L s.k).kd=1)=false:=decide_eq_false (by rw[h2];omega);have e2:decide ((tkE L s.k).kd=5)=false:=decide_eq_false (by rw[h2];omega);rw[e1,e2];simp
theorem qcU (hb:s.bad=0) (h:Sts L s.k (x :: xs)) (hk:x.kd=1∨x.kd=5):qa7 L n s ⟨x.tx.toArray⟩=mv s 1:=by
 unfold qa7;rw[qgM hb h hk];rfl
theorem q3A (hb:s.bad=0) {sp t:List UInt8} (h:Sts L s.k (nmI sp t :: xs)) (hw:kwB ⟨t.toArray⟩=false):qaV L n s=(mv s 1,⟨t.toArray⟩):=by
 obtain⟨h1,h2,h3,_⟩:=h.head;have h2:(tkE L s.k).kd=1:=h2;have h3:(tkE L s.k).tx=⟨t.toArray⟩:=h3;have e:qhP L s=true:=by
  unfold qhP;rw[decide_eq_true hb,decide_eq_true h1,h2,h3,hw];rfl
 unfold qaV;rw[e,h3];rfl
theorem qpM {t:Ex} (hw:WfT t) (hl:qq4 t) (hf:qcW t=0) (hb:s.bad=0) {sp:List UInt8} {y:It} (h:Sts L s.k (itX sp t++y :: ys)) (hy:opL (clK (clI y))=0):qaY L n s=(mv s (itX sp t).length,some t):=by
 have ha:=h.left.at8;rw[cl_X t hw hl sp] at ha;have hlen:(itX sp t).length=(qaZ t).length:=by rw[← cl_X t hw hl sp,List.length_map]
 have hg:gL L (s.k+(qaZ t).length)=clI y:=by
  have:=q6X h.right (i:=0) (x:=y) rfl
  rwa [Nat.add_zero,hlen] at this
 obtain⟨t1,t7⟩:=qtX hw;have hrd:=(q9E (gL L) t hw).whole t7 ha t1 (by rw[hg];exact hy);have hx:=q05 (L:=L) (k:=s.k) (o:=some t) (a:=((s.k+(qaZ t).length:Nat):Int)) (f:=0) (.inr (.inr ⟨t,_,hrd,hf,rfl,rfl,rfl⟩));unfold qaY;rw[if_pos hb,hx];simp only;unfold mv;rw[hlen,Int.toNat_natCast]
def itC {α:Type} (f:List UInt8→α→List It):List α→List It
 | []=>[]
 | x :: r=>mkI [] [44] :: (f [32] x++itC f r)
def itS {α:Type} (f:List UInt8→α→List It):List α→List It
 | []=>[mkI [] [40],mkI [] [41]]
 | x :: r=>mkI [] [40] :: (f [] x++(itC f r++[mkI [] [41]]))
def jc0 {α:Type} (L:List TokE) (f:List UInt8→α→List It) (item:S8→S8 × α) (x:α):Prop:=∀ (s:S8) (sp:List UInt8) (y:It) (ys:List It),s.bad=0→Sts L s.k (f sp x++y :: ys)→(y=mkI [] [44]∨y=mkI [] [41])→item s=(mv s (f sp x).length,x)
theorem Sts.lt (h:Sts L k xs) (hx:0<xs.length):k+xs.length≤L.length:=by
 have:=(h (xs.length-1) (xs[xs.length-1]'(by omega)) (List.getElem?_eq_getElem (by omega))).1;omega
theorem qv5 {α:Type} {f:List UInt8→α→List It} {item:S8→S8 × α}:∀ (r l:List α) (fu:Nat) (s:S8),(∀ x ∈ r,jc0 L f item x)→s.bad=0→Sts L s.k (itC f r++[mkI [] [41]]++ys)→r.length<fu→qdE L n item fu s l=(mv s ((itC f r).length+1),l++r)
 | [],l,fu+1,s,_,hb,h,_=>by
  have h:Sts L s.k (mkI [] [41] :: ys):=h;have hy:isB L s ⟨#[41]⟩=true:=qgM hb h (.inr rfl);rw[qdE,if_pos hb,hy,if_pos rfl,List.append_nil];rfl
 | x :: r,l,fu+1,s,hi,hb,h,hf=>by
  have h:Sts L s.k (mkI [] [44] :: (f [32] x++(itC f r++[mkI [] [41]]++ys))):=by
   have e:itC f (x :: r)++[mkI [] [41]]++ys=mkI [] [44] :: (f [32] x++(itC f r++[mkI [] [41]]++ys)):=by simp[itC]
   rw[← e];exact h
  have hno:isB L s ⟨#[41]⟩=false:=qjU h (t:=[41]) (.inl (by show [44]≠[41];decide));have hwant:qa7 L n s ⟨#[44]⟩=mv s 1:=qcU hb h (.inr rfl);obtain⟨y,zs,hy,hyc⟩:∃ y zs,itC f r++[mkI [] [41]]++ys=y :: zs∧(y=mkI [] [44]∨y=mkI [] [41]):=by
   cases r with
   | nil=>exact⟨_,_,rfl,.inr rfl⟩
   | cons z r=>exact⟨_,_,rfl,.inl rfl⟩
  have hit:=hi x (by simp) (mv s 1) [32] y zs hb (by rw[← hy];exact h.tail) hyc;have hs2:Sts L (mv s (1+(f [32] x).length)).k (itC f r++[mkI [] [41]]++ys):=by
   have:=h.tail.right;rw[Nat.add_assoc] at this;exact this
  rw[qdE,if_pos hb,hno,if_neg (by decide),hwant,hit];simp only;rw[qfA,qv5 r (l++[x]) fu (mv s (1+(f [32] x).length)) (fun z hz=>hi z (List.mem_cons_of_mem _ hz)) hb hs2 (by simp at hf;omega),qfA];refine Prod.ext ?_ (by simp);show mv s _=mv s _
  congr 1
  simp[itC];omega
theorem q1N {α:Type} (f:List UInt8→α→List It):∀ r:List α,r.length≤(itC f r).length
 | []=>Nat.zero_le _
 | x :: r=>by have:=q1N f r;simp[itC];omega
theorem qp7 {α:Type} {f:List UInt8→α→List It} {item:S8→S8 × α} {l:List α} (hi:∀ x ∈ l,jc0 L f item x) (hh:∀ x ∈ l,∀ sp,∃ z zs,f sp x=z :: zs∧(z.tx≠[41]∨(z.kd≠1∧z.kd≠5))) (hb:s.bad=0) (h:Sts L s.k (itS f l++ys)):qcQ L n item s=(mv s (itS f l).length,l):=by
 cases l with
 | nil =>
  have h:Sts L s.k (mkI [] [40] :: mkI [] [41] :: ys):=h;have hwant:qa7 L n s ⟨#[40]⟩=mv s 1:=qcU hb h (.inr rfl);have his:isB L (mv s 1) ⟨#[41]⟩=true:=qgM (s:=mv s 1) hb h.tail (.inr rfl);unfold qcQ;rw[hwant,his,if_pos rfl];rfl
 | cons x r =>
  have h:Sts L s.k (mkI [] [40] :: (f [] x++(itC f r++[mkI [] [41]]++ys))):=by
   have e:itS f (x :: r)++ys=mkI [] [40] :: (f [] x++(itC f r++[mkI [] [41]]++ys)):=by simp[itS]
   rw[← e];exact h
  have hwant:qa7 L n s ⟨#[40]⟩=mv s 1:=qcU hb h (.inr rfl);obtain⟨z,zs,hz,hzt⟩:=hh x (by simp) [];have hno:isB L (mv s 1) ⟨#[41]⟩=false:=by
   have h2:=h.tail;rw[hz,List.cons_append] at h2;exact qjU (s:=mv s 1) h2 (t:=[41]) hzt
  obtain⟨y,ws,hy,hyc⟩:∃ y ws,itC f r++[mkI [] [41]]++ys=y :: ws∧(y=mkI [] [44]∨y=mkI [] [41]):=by
   cases r with
   | nil=>exact⟨_,_,rfl,.inr rfl⟩
   | cons z r=>exact⟨_,_,rfl,.inl rfl⟩
  have hit:=hi x (by simp) (mv s 1) [] y ws hb (by rw[← hy];exact h.tail) hyc;have hs2:Sts L (mv s (1+(f [] x).length)).k (itC f r++[mkI [] [41]]++ys):=by
   have:=h.tail.right;rw[Nat.add_assoc] at this;exact this
  have hfew:=hs2.lt (by simp;omega);have:=q1N f r;unfold qcQ;rw[hwant,hno,if_neg (by decide),hit];simp only;rw[qfA,qv5 r [x] (qaX L) (mv s (1+(f [] x).length)) (fun z hz=>hi z (List.mem_cons_of_mem _ hz)) hb hs2 (by unfold qaX;simp at hfew;omega),qfA];refine Prod.ext ?_ rfl;show mv s _=mv s _
  congr 1
  simp[itS];omega
end
def q9Z (t:Ex):Prop:=WfT t∧qq4 t∧qcW t=0
def wd8 (b:ByteArray):Prop:=qd2 b.data.toList=true∧kwB b=false
def itO (sp:List UInt8):Option Ex→List It
 | some t=>itX sp t
 | none=>[]
def itB (sp:List UInt8) (b:ByteArray):It:=nmI sp b.data.toList
def itV (sp:List UInt8) (b:ByteArray):List It:=if b=⟨#[95]⟩ then [mkI sp [95]] else [itB sp b]
def tyN (ty:Int):List UInt8:=if ty=1 then [105,110,116] else if ty=2 then [114,101,97,108] else if ty=3 then [99,111,109,112] else [116,101,120,116]
def itT (sp:List UInt8) (ty:Int):List It:=[nmI sp (tyN ty)]
def itA (sp:List UInt8) (a:ActE):List It :=
 if a.kd=1 then nmI sp [115,101,110,100] :: (itO [32] a.to++itB [32] a.nm :: (itS itO a.args++[mkI [] [59]]))
 else if a.kd=2 then nmI sp [115,112,97,119,110] :: itB [32] a.nm :: nmI [32] [97,115] :: itB [32] a.vr :: [mkI [] [59]]
 else if a.kd=3 then nmI sp [114,101,112,108,121] :: (itS itO a.args++[mkI [] [59]])
 else nmI sp [98,101,99,111,109,101] :: itB [32] a.nm :: [mkI [] [59]]
def qhN (sp:List UInt8) (p:PartE):List It:=itB sp p.tg :: itS itV p.vs
def qhG:List PartE→List It
 | []=>[]
 | p :: r=>mkI [32] [38] :: (qhN [32] p++qhG r)
def itG:Option Ex→List It
 | some t=>nmI [32] [119,104,101,110] :: itX [32] t
 | none=>[]
def itU {α:Type} (f:α→List It) (e:It):List α→List It
 | []=>[e]
 | x :: r=>f x++itU f e r
def qfS (sp:List UInt8) (c:ChordE):List It :=
 nmI sp [99,104,111,114,100] :: itB [32] c.nm :: mkI [] [58] :: ((match c.parts with|[]=>[]|p :: r=>qhN [32] p++qhG r)++(itG c.guard++mkI [32] [123] :: itU (itA [10,9,9]) (mkI [10,9] [125]) c.body))
def qm9 (sp:List UInt8) (k:KindE):List It:=nmI sp [107,105,110,100] :: itB [32] k.nm :: mkI [32] [123] :: itU (qfS [10,9]) (mkI [10] [125]) k.chords
def ql1 (sp:List UInt8) (t:TagE):List It:=nmI sp [116,97,103] :: itB [32] t.nm :: (itS itT t.tys++[mkI [] [59]])
def qgY:List UInt8→List TagE→List It
 | _,[]=>[]
 | sp,t :: r=>ql1 sp t++qgY [10] r
def qg2:List UInt8→List KindE→List It
 | _,[]=>[]
 | sp,k :: r=>qm9 sp k++qg2 [10] r
def qjT (p:ProgE):List It:=qgY [] p.tags++qg2 (if p.tags=[] then [] else [10]) p.kinds
def okO (o:Option Ex):Prop:=∃ t,o=some t∧q9Z t
structure okA8 (a:ActE):Prop where
 kd:a.kd=1∨a.kd=2∨a.kd=3∨a.kd=4
 to1:a.kd=1→okO a.to
 to0:a.kd≠1→a.to=none
 nm1:a.kd≠3→wd8 a.nm
 nm0:a.kd=3→a.nm=eB
 vr1:a.kd=2→wd8 a.vr
 vr0:a.kd≠2→a.vr=eB
 ar1:a.kd=1∨a.kd=3→∀ o ∈ a.args,okO o
 ar0:a.kd=2∨a.kd=4→a.args=[]
def q9Y (b:ByteArray):Prop:=b=⟨#[95]⟩∨wd8 b
structure okP8 (p:PartE):Prop where
 tg:wd8 p.tg
 vs:∀ v ∈ p.vs,q9Y v
structure okC8 (c:ChordE):Prop where
 nm:wd8 c.nm
 one:c.parts≠[]
 pt:∀ p ∈ c.parts,okP8 p
 gd:c.guard=none∨okO c.guard
 bd:∀ a ∈ c.body,okA8 a
structure okK8 (k:KindE):Prop where
 nm:wd8 k.nm
 ch:∀ c ∈ k.chords,okC8 c
structure okT8 (t:TagE):Prop where
 nm:wd8 t.nm
 ty:∀ x ∈ t.tys,x=1∨x=2∨x=3∨x=4
structure okP9 (p:ProgE):Prop where
 tg:∀ t ∈ p.tags,okT8 t
 kd:∀ k ∈ p.kinds,okK8 k
section
variable {L:List TokE} {n:Nat} {s:S8} {ys:List It}
theorem qeV (hb:s.bad=0) {sp:List UInt8} {b:ByteArray} (hw:wd8 b) (h:Sts L s.k (itB sp b :: ys)):qaV L n s=(mv s 1,b):=by
 have:=q3A (n:=n) hb h (by rw[qq0];exact hw.2)
 rwa [qq0] at this
theorem qm1 {b:List UInt8} (h:qd2 b=true) {c:UInt8} (hc:qa8 c=false):b≠[c]:=fun e=>by
 rw[e] at h;have:=(qhE h).1;rw[show bAt [c] 0=c from rfl,hc] at this;cases this
theorem q8X (t:Ex) (hw:WfT t) (hl:qq4 t) (sp:List UInt8):∃ z zs,itX sp t=z :: zs∧(z.tx≠[41]∨(z.kd≠1∧z.kd≠5)):=by
 induction t generalizing sp with
 | lf l =>
  refine⟨itL sp l,[],rfl,?_⟩;cases l with
  | int v=>exact .inr ⟨by simp[itL],by simp[itL]⟩
  | real b=>exact .inr ⟨by simp[itL],by simp[itL]⟩
  | text t=>exact .inr ⟨by simp[itL],by simp[itL]⟩
  | bool b=>exact .inl (by cases b <;> simp[itL,nmI])
  | var t =>
   have h:(qd2 t.data.toList && !(t.data.toList==[116,114,117,101]) && !(t.data.toList==[102,97,108,115,101]) && decide (qcX t.data.toList=0))=true:=hl;simp only[Bool.and_eq_true] at h;exact .inl (qm1 h.1.1.1 (by decide))
 | un k a ih =>
  obtain⟨hk,hc,ha⟩:=hw;unfold itX;split
  ·rename_i h7;exact⟨_,_,rfl,.inl (qm1 (qf7 k hk h7 (by omega)).1 (by decide))⟩
  ·rename_i h7;rcases qgB k hk hc with ⟨hs2,hl⟩|⟨hl,_⟩
   ·refine⟨_,_,rfl,.inl ?_⟩;rcases hs2 with rfl|rfl
    ·show qcF 3≠[41];decide
    ·show qcF 4≠[41];decide
   ·exact absurd hl h7
 | bi k a b iha ihb =>
  obtain⟨hk,hc,ha,hb⟩:=hw;unfold itX;split
  ·rename_i h7;exact⟨_,_,rfl,.inl (qm1 (qf7 k hk h7 (by omega)).1 (by decide))⟩
  ·split
   ·obtain⟨z,zs,hz,h⟩:=iha ha hl.1 sp;exact⟨z,_,by rw[hz];rfl,h⟩
   ·exact⟨_,_,rfl,.inl (by show [40]≠[41];decide)⟩
theorem jb9 {o:Option Ex} (h:okO o):jc0 L itO (qaY L n) o:=by
 obtain⟨t,rfl,hw,hl,hf⟩:=h;intro s sp y ys hb hs hy;refine qpM hw hl hf hb hs ?_;rcases hy with rfl|rfl <;> rfl
theorem jb7 {v:ByteArray} (h:q9Y v):jc0 L itV (qhQ L n) v:=by
 intro s sp y ys hb hs hy;unfold itV at hs ⊢;by_cases h95:v=⟨#[95]⟩
 ·rw[if_pos h95] at hs ⊢;have hi:isB L s ⟨#[95]⟩=true:=qgM hb hs (.inr rfl);unfold qhQ;rw[hi,if_pos rfl,h95];rfl
 ·rw[if_neg h95] at hs ⊢;rcases h with h|h
  ·exact absurd h h95
  ·have hi:isB L s ⟨#[95]⟩=false:=qjU hs (t:=[95]) (.inl (qm1 h.1 (by decide)));unfold qhQ;rw[hi,if_neg (by decide)];exact qeV hb h hs
theorem jb8 {ty:Int} (h:ty=1∨ty=2∨ty=3∨ty=4):jc0 L itT (qdK L n) ty:=by
 intro s sp y ys hb hs hy;obtain⟨h1,h2,h3,_⟩:=hs.head;have h2:(tkE L s.k).kd=1:=h2;have h3:(tkE L s.k).tx=⟨(tyN ty).toArray⟩:=h3;have hk:qiU L s=true:=by
  unfold qiU;rw[decide_eq_true hb,decide_eq_true h1,h2];rfl
 have e:(⟨(tyN ty).toArray⟩:ByteArray).toList=tyN ty:=by rw[ByteArray.toList_mk]
 unfold qdK;rw[hk,h3,e];rcases h with rfl|rfl|rfl|rfl <;> rfl
end
section
variable {L:List TokE} {n:Nat}
theorem q14 (s:S8) (a:Nat):(mv s a).k=s.k+a:=rfl
theorem qp3 {s:S8} {a b:Nat} (h:a=b):mv s a=mv s b:=by rw[h]
theorem jd0 (s m:List UInt8):opL (clK (clI (nmI s m)))=0:=by
 have e:clI (nmI s m)=_:=jd1 ⟨m.toArray⟩ 0 0;rw[e];split
 ·split
  ·rfl
  ·split
   ·rfl
   ·split <;> rfl
 ·rfl
theorem qw1 {s:S8} {l:List (Option Ex)} {ys:List It} (hl:∀ o ∈ l,okO o) (hb:s.bad=0) (h:Sts L s.k (itS itO l++ys)):qi9 L n s=(mv s (itS itO l).length,l) :=
 qp7 (fun o ho=>jb9 (hl o ho)) (fun o ho sp=>by
  obtain⟨t,rfl,hw,hv,_⟩:=hl o ho;exact q8X t hw hv sp) hb h
theorem q9J {s:S8} {sp:List UInt8} {a:ActE} {ys:List It} (ha:okA8 a) (hb:s.bad=0) (h:Sts L s.k (itA sp a++ys)):qjB L n s=(mv s (itA sp a).length,a):=by
 obtain⟨kd,to,nm,vr,args⟩:=a;rcases ha.kd with h1|h1|h1|h1 <;> (simp only at h1;subst h1)
 ·
  obtain⟨t,ht,hw,hv,hf⟩:=ha.to1 rfl;simp only at ht;subst ht;obtain rfl:vr=eB:=ha.vr0 (show (1:Int)≠2 by decide);have hn:wd8 nm:=ha.nm1 (show (1:Int)≠3 by decide);have har:∀ o ∈ args,okO o:=ha.ar1 (.inl rfl);have e:itA sp ⟨1,some t,nm,eB,args⟩++ys=nmI sp [115,101,110,100] :: (itX [32] t++itB [32] nm :: (itS itO args++mkI [] [59] :: ys)):=by simp[itA,itO]
  have el:(itA sp ⟨1,some t,nm,eB,args⟩).length=1+(itX [32] t).length+1+(itS itO args).length+1:=by simp[itA,itO];omega
  rw[e] at h;have i1:isB L s ⟨#[115,101,110,100]⟩=true:=qgM hb h (.inl rfl);have e1:qaY L n (mv s 1)=(mv (mv s 1) (itX [32] t).length,some t):=qpM (s:=mv s 1) hw hv hf hb h.tail (jd0 _ _);have h2:=h.tail.right;rw[qfA] at e1;have e2:qaV L n (mv s (1+(itX [32] t).length))=(mv (mv s (1+(itX [32] t).length)) 1,nm):=qeV (s:=mv s (1+(itX [32] t).length)) hb hn (by rw[q14,← Nat.add_assoc];exact h2);rw[qfA] at e2;have h3:=h2.tail;have e3:qi9 L n (mv s (1+(itX [32] t).length+1))=(mv (mv s (1+(itX [32] t).length+1)) (itS itO args).length,args):=qw1 (s:=mv s (1+(itX [32] t).length+1)) har hb (by rw[q14,show s.k+(1+(itX [32] t).length+1)=s.k+1+(itX [32] t).length+1 by omega];exact h3);rw[qfA] at e3;have h4:=h3.right;have ed:qcI L n s=(mv s (1+(itX [32] t).length+1+(itS itO args).length),⟨1,some t,nm,eB,args⟩):=by
   unfold qcI;rw[i1,if_pos rfl];unfold q81;simp only[qhX,e1,e2,e3]
  have e4:qa7 L n (mv s (1+(itX [32] t).length+1+(itS itO args).length)) ⟨#[59]⟩=mv (mv s (1+(itX [32] t).length+1+(itS itO args).length)) 1:=qcU (s:=mv s _) hb (by rw[q14,show s.k+(1+(itX [32] t).length+1+(itS itO args).length)=s.k+1+(itX [32] t).length+1+(itS itO args).length by omega];exact h4) (.inr rfl);unfold qjB;rw[ed];simp only;rw[e4,qfA,el]
 ·
  obtain rfl:to=none:=ha.to0 (show (2:Int)≠1 by decide);obtain rfl:args=[]:=ha.ar0 (.inl rfl);have hn:wd8 nm:=ha.nm1 (show (2:Int)≠3 by decide);have hv:wd8 vr:=ha.vr1 rfl;have h:Sts L s.k (nmI sp [115,112,97,119,110] :: itB [32] nm :: nmI [32] [97,115] :: itB [32] vr :: mkI [] [59] :: ys):=h;have i1:isB L s ⟨#[115,101,110,100]⟩=false:=qjU h (t:=[115,101,110,100]) (.inl (by show [115,112,97,119,110]≠[115,101,110,100];decide));have i2:isB L s ⟨#[115,112,97,119,110]⟩=true:=qgM hb h (.inl rfl);have e1:qaV L n (mv s 1)=(mv (mv s 1) 1,nm):=qeV (s:=mv s 1) hb hn h.tail;have e2:qa7 L n (mv s 2) ⟨#[97,115]⟩=mv (mv s 2) 1:=qcU (s:=mv s 2) hb h.tail.tail (.inl rfl);have e3:qaV L n (mv s 3)=(mv (mv s 3) 1,vr):=qeV (s:=mv s 3) hb hv h.tail.tail.tail;have e4:qa7 L n (mv s 4) ⟨#[59]⟩=mv (mv s 4) 1:=qcU (s:=mv s 4) hb h.tail.tail.tail.tail (.inr rfl);simp only[qfA] at e1 e2 e3 e4;have ed:qcI L n s=(mv s 4,⟨2,none,nm,vr,[]⟩):=by
   unfold qcI;rw[i1,if_neg (by decide),i2,if_pos rfl];unfold qzG;simp only[qhX,e1,e2,e3]
  unfold qjB;rw[ed];simp only;rw[e4];rfl
 ·
  obtain rfl:to=none:=ha.to0 (show (3:Int)≠1 by decide);obtain rfl:vr=eB:=ha.vr0 (show (3:Int)≠2 by decide);obtain rfl:nm=eB:=ha.nm0 rfl;have har:∀ o ∈ args,okO o:=ha.ar1 (.inr rfl);have e:itA sp ⟨3,none,eB,eB,args⟩++ys=nmI sp [114,101,112,108,121] :: (itS itO args++mkI [] [59] :: ys):=by simp[itA]
  have el:(itA sp ⟨3,none,eB,eB,args⟩).length=1+(itS itO args).length+1:=by simp[itA];omega
  rw[e] at h;have i1:isB L s ⟨#[115,101,110,100]⟩=false:=qjU h (t:=[115,101,110,100]) (.inl (by show [114,101,112,108,121]≠[115,101,110,100];decide));have i2:isB L s ⟨#[115,112,97,119,110]⟩=false:=qjU h (t:=[115,112,97,119,110]) (.inl (by show [114,101,112,108,121]≠[115,112,97,119,110];decide));have i3:isB L s ⟨#[114,101,112,108,121]⟩=true:=qgM hb h (.inl rfl);have e3:qi9 L n (mv s 1)=(mv (mv s 1) (itS itO args).length,args):=qw1 (s:=mv s 1) har hb h.tail;rw[qfA] at e3;have ed:qcI L n s=(mv s (1+(itS itO args).length),⟨3,none,eB,eB,args⟩):=by
   unfold qcI;rw[i1,if_neg (by decide),i2,if_neg (by decide),i3,if_pos rfl];unfold qzX;simp only[qhX,e3]
  have e4:qa7 L n (mv s (1+(itS itO args).length)) ⟨#[59]⟩=mv (mv s (1+(itS itO args).length)) 1:=qcU (s:=mv s _) hb (by rw[q14,← Nat.add_assoc];exact h.tail.right) (.inr rfl);unfold qjB;rw[ed];simp only;rw[e4,qfA,el]
 ·
  obtain rfl:to=none:=ha.to0 (show (4:Int)≠1 by decide);obtain rfl:vr=eB:=ha.vr0 (show (4:Int)≠2 by decide);obtain rfl:args=[]:=ha.ar0 (.inr rfl);have hn:wd8 nm:=ha.nm1 (show (4:Int)≠3 by decide);have h:Sts L s.k (nmI sp [98,101,99,111,109,101] :: itB [32] nm :: mkI [] [59] :: ys):=h;have i1:isB L s ⟨#[115,101,110,100]⟩=false:=qjU h (t:=[115,101,110,100]) (.inl (by show [98,101,99,111,109,101]≠[115,101,110,100];decide));have i2:isB L s ⟨#[115,112,97,119,110]⟩=false:=qjU h (t:=[115,112,97,119,110]) (.inl (by show [98,101,99,111,109,101]≠[115,112,97,119,110];decide));have i3:isB L s ⟨#[114,101,112,108,121]⟩=false:=qjU h (t:=[114,101,112,108,121]) (.inl (by show [98,101,99,111,109,101]≠[114,101,112,108,121];decide));have i4:isB L s ⟨#[98,101,99,111,109,101]⟩=true:=qgM hb h (.inl rfl);have e1:qaV L n (mv s 1)=(mv (mv s 1) 1,nm):=qeV (s:=mv s 1) hb hn h.tail;have e4:qa7 L n (mv s 2) ⟨#[59]⟩=mv (mv s 2) 1:=qcU (s:=mv s 2) hb h.tail.tail (.inr rfl);simp only[qfA] at e1 e4;have ed:qcI L n s=(mv s 2,⟨4,none,nm,eB,[]⟩):=by
   unfold qcI;rw[i1,if_neg (by decide),i2,if_neg (by decide),i3,if_neg (by decide),i4,if_pos rfl];unfold qtN;simp only[qhX,e1]
  unfold qjB;rw[ed];simp only;rw[e4];rfl
theorem q8Y (v:ByteArray) (h:q9Y v) (sp:List UInt8):∃ z zs,itV sp v=z :: zs∧(z.tx≠[41]∨(z.kd≠1∧z.kd≠5)):=by
 unfold itV;by_cases h95:v=⟨#[95]⟩
 ·rw[if_pos h95];exact⟨_,_,rfl,.inl (by show [95]≠[41];decide)⟩
 ·rw[if_neg h95];rcases h with h|h
  ·exact absurd h h95
  ·exact⟨_,_,rfl,.inl (qm1 h.1 (by decide))⟩
theorem quR {s:S8} {sp:List UInt8} {p:PartE} {ys:List It} (hp:okP8 p) (hb:s.bad=0) (h:Sts L s.k (qhN sp p++ys)):qdA L n s=(mv s (qhN sp p).length,p):=by
 have h:Sts L s.k (itB sp p.tg :: (itS itV p.vs++ys)):=h;have e1:qaV L n s=(mv s 1,p.tg):=qeV hb hp.tg h;have e2:qcQ L n (qhQ L n) (mv s 1)=(mv (mv s 1) (itS itV p.vs).length,p.vs):=qp7 (s:=mv s 1) (fun v hv=>jb7 (hp.vs v hv)) (fun v hv sp=>q8Y v (hp.vs v hv) sp) hb h.tail;unfold qdA;rw[e1];simp only;rw[e2,qfA];refine Prod.ext (qp3 ?_) rfl;show 1+_=(itB sp p.tg :: itS itV p.vs).length;rw[List.length_cons];omega
theorem q2U:∀ (r l:List PartE) (fu:Nat) (s:S8) (y:It) (ys:List It),(∀ p ∈ r,okP8 p)→s.bad=0→Sts L s.k (qhG r++y :: ys)→y.tx≠[38]→r.length<fu→qk0 L n fu s l=(mv s (qhG r).length,l++r)
 | [],l,fu+1,s,y,ys,_,hb,h,hy,_=>by
  have h:Sts L s.k (y :: ys):=h;have i1:isB L s ⟨#[38]⟩=false:=qjU h (t:=[38]) (.inl hy);rw[qk0,i1,if_neg (by decide),List.append_nil];rfl
 | p :: r,l,fu+1,s,y,ys,hp,hb,h,hy,hf=>by
  have h:Sts L s.k (mkI [32] [38] :: (qhN [32] p++(qhG r++y :: ys))):=by
   have e:qhG (p :: r)++y :: ys=mkI [32] [38] :: (qhN [32] p++(qhG r++y :: ys)):=by simp[qhG]
   rw[← e];exact h
  have i1:isB L s ⟨#[38]⟩=true:=qgM hb h (.inr rfl);have e1:qdA L n (mv s 1)=(mv (mv s 1) (qhN [32] p).length,p):=quR (s:=mv s 1) (hp p (by simp)) hb h.tail;rw[qfA] at e1;have h2:Sts L (mv s (1+(qhN [32] p).length)).k (qhG r++y :: ys):=by
   have:=h.tail.right;rw[Nat.add_assoc] at this;exact this
  rw[qk0,i1,if_pos rfl,qhX,e1];simp only;rw[q2U r (l++[p]) fu (mv s (1+(qhN [32] p).length)) y ys (fun q hq=>hp q (List.mem_cons_of_mem _ hq)) hb h2 hy (by simp at hf;omega),qfA];refine Prod.ext (qp3 ?_) (by simp);simp[qhG];omega
theorem qyX {α:Type} {f:α→List It} {item:S8→S8 × α} {sp:List UInt8} {ys:List It}:∀ (r l:List α) (fu:Nat) (s:S8),(∀ x ∈ r,∀ (s:S8) (ys:List It),s.bad=0→Sts L s.k (f x++ys)→item s=(mv s (f x).length,x))→(∀ x ∈ r,∃ z zs,f x=z :: zs∧z.tx≠[125])→s.bad=0→Sts L s.k (itU f (mkI sp [125]) r++ys)→r.length<fu→upS L item fu s l=(mv s (itU f (mkI sp [125]) r).length,l++r)
 | [],l,fu+1,s,_,_,hb,h,_=>by
  have h:Sts L s.k (mkI sp [125] :: ys):=h;have i1:isB L s ⟨#[125]⟩=true:=qgM hb h (.inr rfl);rw[upS,if_pos hb,i1,if_pos rfl,List.append_nil];rfl
 | x :: r,l,fu+1,s,hi,hh,hb,h,hf=>by
  have h:Sts L s.k (f x++(itU f (mkI sp [125]) r++ys)):=by
   have e:itU f (mkI sp [125]) (x :: r)++ys=f x++(itU f (mkI sp [125]) r++ys):=by simp[itU]
   rw[← e];exact h
  have i1:isB L s ⟨#[125]⟩=false:=by
   obtain⟨z,zs,hz,hzt⟩:=hh x (by simp);have h2:=h;rw[hz,List.cons_append] at h2;exact qjU h2 (t:=[125]) (.inl hzt)
  rw[upS,if_pos hb,i1,if_neg (by decide),hi x (by simp) s _ hb h];simp only;rw[qyX r (l++[x]) fu (mv s (f x).length) (fun q hq=>hi q (List.mem_cons_of_mem _ hq)) (fun q hq=>hh q (List.mem_cons_of_mem _ hq)) hb h.right (by simp at hf;omega),qfA];refine Prod.ext (qp3 ?_) (by simp);simp[itU]
end
theorem qtC {α:Type} {f:α→List It} (e:It):∀ (r:List α),(∀ x ∈ r,∃ z zs,f x=z :: zs)→r.length<(itU f e r).length
 | [],_=>by simp[itU]
 | x :: r,h=>by
  obtain⟨z,zs,hz⟩:=h x (by simp);have:=qtC (f:=f) e r (fun y hy=>h y (List.mem_cons_of_mem _ hy));simp[itU,hz];omega
theorem qvG:∀ (r:List PartE),r.length≤(qhG r).length
 | []=>Nat.zero_le _
 | p :: r=>by have:=qvG r;simp[qhG];omega
theorem q24 (sp:List UInt8) (a:ActE):∃ z zs,itA sp a=z :: zs∧z.tx≠[125]:=by
 unfold itA;split
 ·exact⟨_,_,rfl,by show [115,101,110,100]≠[125];decide⟩
 ·split
  ·exact⟨_,_,rfl,by show [115,112,97,119,110]≠[125];decide⟩
  ·split
   ·exact⟨_,_,rfl,by show [114,101,112,108,121]≠[125];decide⟩
   ·exact⟨_,_,rfl,by show [98,101,99,111,109,101]≠[125];decide⟩
section
variable {L:List TokE} {n:Nat}
theorem qs0 {s:S8} {sp:List UInt8} {c:ChordE} {ys:List It} (hc:okC8 c) (hb:s.bad=0) (h:Sts L s.k (qfS sp c++ys)):qbP L n s=(mv s (qfS sp c).length,c):=by
 obtain⟨nm,parts,guard,body⟩:=c;cases parts with
 | nil=>exact absurd rfl hc.one
 | cons p r =>
  have hnm:wd8 nm:=hc.nm;have hp:okP8 p:=hc.pt p (by simp);have hr:∀ q ∈ r,okP8 q:=fun q hq=>hc.pt q (List.mem_cons_of_mem _ hq);have hbd:∀ a ∈ body,okA8 a:=hc.bd;obtain⟨U,hU⟩:∃ U,U=itU (itA [10,9,9]) (mkI [10,9] [125]) body:=⟨_,rfl⟩
  have e:qfS sp ⟨nm,p :: r,guard,body⟩++ys=nmI sp [99,104,111,114,100] :: itB [32] nm :: mkI [] [58] :: (qhN [32] p++(qhG r++(itG guard++mkI [32] [123] :: (U++ys)))):=by simp[qfS,hU]
  have el:(qfS sp ⟨nm,p :: r,guard,body⟩).length=3+(qhN [32] p).length+(qhG r).length+(itG guard).length+1+U.length:=by simp[qfS,hU];omega
  rw[e] at h;have w1:qa7 L n s ⟨#[99,104,111,114,100]⟩=mv s 1:=qcU hb h (.inl rfl);have w2:qaV L n (mv s 1)=(mv (mv s 1) 1,nm):=qeV (s:=mv s 1) hb hnm h.tail;have w3:qa7 L n (mv s 2) ⟨#[58]⟩=mv (mv s 2) 1:=qcU (s:=mv s 2) hb h.tail.tail (.inr rfl);have w4:qdA L n (mv s 3)=(mv (mv s 3) (qhN [32] p).length,p):=quR (s:=mv s 3) hp hb h.tail.tail.tail;have h5:=h.tail.tail.tail.right;obtain⟨y,zs,hy,hyt⟩:∃ y zs,itG guard++mkI [32] [123] :: (U++ys)=y :: zs∧y.tx≠[38]:=by
   cases guard with
   | none=>exact⟨_,_,rfl,by show [123]≠[38];decide⟩
   | some g=>exact⟨_,_,rfl,by show [119,104,101,110]≠[38];decide⟩
  have hk5:(mv s (3+(qhN [32] p).length)).k=s.k+1+1+1+(qhN [32] p).length:=by rw[q14];omega
  have hlt5:r.length<qaX L:=by
   have h6:Sts L (mv s (3+(qhN [32] p).length)).k (qhG r++y :: zs):=by rw[hk5,← hy];exact h5
   have h7:=h6.lt (by rw[List.length_append,List.length_cons];omega);have h8:=qvG r;unfold qaX;rw[List.length_append,List.length_cons] at h7;omega
  have w5:qk0 L n (qaX L) (mv s (3+(qhN [32] p).length)) [p]=(mv (mv s (3+(qhN [32] p).length)) (qhG r).length,[p]++r):=q2U r [p] (qaX L) (mv s (3+(qhN [32] p).length)) y zs hr hb (by rw[hk5,← hy];exact h5) hyt hlt5;have h6:=h5.right;obtain⟨A,hA⟩:∃ A,A=3+(qhN [32] p).length+(qhG r).length:=⟨_,rfl⟩
  have hkA:(mv s A).k=s.k+1+1+1+(qhN [32] p).length+(qhG r).length:=by rw[q14,hA];omega
  have w6:(if isB L (mv s A) ⟨#[119,104,101,110]⟩ then qaY L n (qa6 (mv s A)) else (mv s A,none))=(mv s (A+(itG guard).length),guard):=by
   cases guard with
   | none =>
    have h7:Sts L (mv s A).k (mkI [32] [123] :: (U++ys)):=by rw[hkA];exact h6
    have i1:isB L (mv s A) ⟨#[119,104,101,110]⟩=false:=qjU (s:=mv s A) h7 (t:=[119,104,101,110]) (.inl (by show [123]≠[119,104,101,110];decide));rw[i1,if_neg (by decide)];rfl
   | some g =>
    obtain⟨t,ht,hw,hv,hf⟩:okO (some g):=by
     rcases hc.gd with h|h
     ·cases h
     ·exact h
    cases ht;have h7:Sts L (mv s A).k (nmI [32] [119,104,101,110] :: (itX [32] g++mkI [32] [123] :: (U++ys))):=by rw[hkA];exact h6
    have i1:isB L (mv s A) ⟨#[119,104,101,110]⟩=true:=qgM (s:=mv s A) hb h7 (.inl rfl);have e1:qaY L n (mv (mv s A) 1)=(mv (mv (mv s A) 1) (itX [32] g).length,some g):=qpM (s:=mv (mv s A) 1) hw hv hf hb h7.tail rfl;rw[i1,if_pos rfl,qhX,e1,qfA,qfA];refine Prod.ext (qp3 ?_) rfl;show A+(1+(itX [32] g).length)=A+(nmI [32] [119,104,101,110] :: itX [32] g).length;rw[List.length_cons];omega
  have h8:=h6.right;obtain⟨B,hB⟩:∃ B,B=A+(itG guard).length:=⟨_,rfl⟩
  have hkB:(mv s B).k=s.k+1+1+1+(qhN [32] p).length+(qhG r).length+(itG guard).length:=by rw[q14,hB,hA];omega
  have w7:qa7 L n (mv s B) ⟨#[123]⟩=mv (mv s B) 1:=qcU (s:=mv s B) hb (by rw[hkB];exact h8) (.inr rfl);have hk9:(mv s (B+1)).k=s.k+1+1+1+(qhN [32] p).length+(qhG r).length+(itG guard).length+1:=by rw[q14,hB,hA];omega
  have h9:Sts L (mv s (B+1)).k (itU (itA [10,9,9]) (mkI [10,9] [125]) body++ys):=by rw[hk9,← hU];exact h8.tail
  have hlt9:body.length<qaX L:=by
   have h1:=qtC (f:=itA [10,9,9]) (mkI [10,9] [125]) body (fun a _=>by obtain⟨z,zs,hz,_⟩:=q24 [10,9,9] a;exact⟨z,zs,hz⟩);have:=(h9.left).lt (by omega);unfold qaX;omega
  have w8:upS L (qjB L n) (qaX L) (mv s (B+1)) []=(mv (mv s (B+1)) (itU (itA [10,9,9]) (mkI [10,9] [125]) body).length,[]++body):=qyX body [] (qaX L) (mv s (B+1)) (fun a ha s ys hb h=>q9J (hbd a ha) hb h) (fun a _=>q24 [10,9,9] a) hb h9 hlt9;rw[qfA] at w2 w3 w4 w5 w7 w8;have e3:(mv s (1+1))=mv s 2:=rfl;have e4:(mv s (2+1))=mv s 3:=rfl;rw[e3] at w2;rw[e4] at w3;rw[← hA] at w5;rw[← hB] at w6;unfold qbP;simp only[w1,w2,w3,w4,w5,w6,w7,w8];refine Prod.ext (qp3 ?_) rfl;show B+1+_=_;rw[el,hB,hA,← hU]
  try omega
theorem q23 (sp:List UInt8) (c:ChordE):∃ z zs,qfS sp c=z :: zs∧z.tx≠[125]:=⟨_,_,rfl,by show [99,104,111,114,100]≠[125];decide⟩
theorem q4X {s:S8} {sp:List UInt8} {k:KindE} {ys:List It} (hk:okK8 k) (hb:s.bad=0) (h:Sts L s.k (qm9 sp k++ys)):qfN L n s=(mv s (qm9 sp k).length,k):=by
 obtain⟨nm,chords⟩:=k;have h:Sts L s.k (nmI sp [107,105,110,100] :: itB [32] nm :: mkI [32] [123] :: (itU (qfS [10,9]) (mkI [10] [125]) chords++ys)):=h;have w1:qa7 L n s ⟨#[107,105,110,100]⟩=mv s 1:=qcU hb h (.inl rfl);have w2:qaV L n (mv s 1)=(mv (mv s 1) 1,nm):=qeV (s:=mv s 1) hb hk.nm h.tail;have w3:qa7 L n (mv s 2) ⟨#[123]⟩=mv (mv s 2) 1:=qcU (s:=mv s 2) hb h.tail.tail (.inr rfl);have h9:Sts L (mv s 3).k (itU (qfS [10,9]) (mkI [10] [125]) chords++ys):=h.tail.tail.tail;have hlt9:chords.length<qaX L:=by
  have h1:=qtC (f:=qfS [10,9]) (mkI [10] [125]) chords (fun a _=>by obtain⟨z,zs,hz,_⟩:=q23 [10,9] a;exact⟨z,zs,hz⟩);have:=(h9.left).lt (by omega);unfold qaX;omega
 have w8:upS L (qbP L n) (qaX L) (mv s 3) []=(mv (mv s 3) (itU (qfS [10,9]) (mkI [10] [125]) chords).length,[]++chords):=qyX chords [] (qaX L) (mv s 3) (fun a ha s ys hb h=>qs0 (hk.ch a ha) hb h) (fun a _=>q23 [10,9] a) hb h9 hlt9;rw[qfA] at w2 w3 w8;have e3:(mv s (1+1))=mv s 2:=rfl;have e4:(mv s (2+1))=mv s 3:=rfl;rw[e3] at w2;rw[e4] at w3;unfold qfN;simp only[w1,w2,w3,w8];refine Prod.ext (qp3 ?_) rfl;show 3+_=(nmI sp [107,105,110,100] :: itB [32] nm :: mkI [32] [123] :: itU (qfS [10,9]) (mkI [10] [125]) chords).length;simp only[List.length_cons];omega
theorem q7V {s:S8} {sp:List UInt8} {t:TagE} {ys:List It} (ht:okT8 t) (hb:s.bad=0) (h:Sts L s.k (ql1 sp t++ys)):isB L s ⟨#[116,97,103]⟩=true∧qmL L n (qa6 s)=(mv s (ql1 sp t).length,t):=by
 obtain⟨nm,tys⟩:=t;have e:ql1 sp ⟨nm,tys⟩++ys=nmI sp [116,97,103] :: itB [32] nm :: (itS itT tys++mkI [] [59] :: ys):=by simp[ql1]
 rw[e] at h;have i1:isB L s ⟨#[116,97,103]⟩=true:=qgM hb h (.inl rfl);have w2:qaV L n (mv s 1)=(mv (mv s 1) 1,nm):=qeV (s:=mv s 1) hb ht.nm h.tail;have w3:qcQ L n (qdK L n) (mv s 2)=(mv (mv s 2) (itS itT tys).length,tys):=qp7 (s:=mv s 2) (fun x hx=>jb8 (ht.ty x hx)) (fun x hx sp=>⟨_,_,rfl,.inl (by
  rcases ht.ty x hx with rfl|rfl|rfl|rfl
  ·show [105,110,116]≠[41];decide
  ·show [114,101,97,108]≠[41];decide
  ·show [99,111,109,112]≠[41];decide
  ·show [116,101,120,116]≠[41];decide)⟩) hb h.tail.tail
 have h4:=h.tail.tail.right;have w4:qa7 L n (mv s (2+(itS itT tys).length)) ⟨#[59]⟩=mv (mv s (2+(itS itT tys).length)) 1:=qcU (s:=mv s _) hb (by rw[q14,show s.k+(2+(itS itT tys).length)=s.k+1+1+(itS itT tys).length by omega];exact h4) (.inr rfl);rw[qfA] at w2 w3 w4;have e3:(mv s (1+1))=mv s 2:=rfl;rw[e3] at w2;refine⟨i1,?_⟩;unfold qmL;rw[qhX,w2];simp only;rw[w3];simp only;rw[w4];refine Prod.ext (qp3 ?_) rfl;simp[ql1];omega
theorem qv9:∀ (ks:List KindE) (sp:List UInt8) (p:ProgE) (fu:Nat) (s:S8),(∀ k ∈ ks,okK8 k)→s.bad=0→Sts L s.k (qg2 sp ks)→L.length=s.k+(qg2 sp ks).length→ks.length<fu→qcP L n fu s p=(mv s (qg2 sp ks).length,⟨p.tags,p.kinds++ks⟩)
 | [],sp,p,fu+1,s,_,hb,_,hL,_=>by
  rw[qcP,if_neg (by simp[qg2] at hL;omega),List.append_nil];rfl
 | k :: r,sp,p,fu+1,s,hk,hb,h,hL,hf=>by
  have hz:qg2 sp (k :: r)=qm9 sp k++qg2 [10] r:=rfl;rw[hz] at h hL ⊢;have h0:Sts L s.k (nmI sp [107,105,110,100] :: (itB [32] k.nm :: mkI [32] [123] :: itU (qfS [10,9]) (mkI [10] [125]) k.chords++qg2 [10] r)):=h;have i1:isB L s ⟨#[116,97,103]⟩=false:=qjU h0 (t:=[116,97,103]) (.inl (by show [107,105,110,100]≠[116,97,103];decide));rw[qcP,if_pos ⟨hb,h0.head.1⟩,i1,if_neg (by decide),q4X (hk k (by simp)) hb h];simp only;rw[qv9 r [10] _ fu (mv s (qm9 sp k).length) (fun q hq=>hk q (List.mem_cons_of_mem _ hq)) hb h.right (by rw[List.length_append] at hL;rw[q14];omega) (by simp at hf;omega),qfA];refine Prod.ext (qp3 (by rw[List.length_append])) ?_;simp
theorem qzE:∀ (ts:List TagE) (sp:List UInt8) (ks:List KindE) (p:ProgE) (fu:Nat) (s:S8),(∀ t ∈ ts,okT8 t)→(∀ k ∈ ks,okK8 k)→s.bad=0→Sts L s.k (qgY sp ts++qg2 (if ts=[] then sp else [10]) ks)→L.length=s.k+(qgY sp ts++qg2 (if ts=[] then sp else [10]) ks).length→ts.length+ks.length<fu→p.kinds=[] →
  qcP L n fu s p=(mv s (qgY sp ts++qg2 (if ts=[] then sp else [10]) ks).length,⟨p.tags++ts,ks⟩)
 | [],sp,ks,p,fu,s,_,hk,hb,h,hL,hf,h0=>by
  have h:Sts L s.k (qg2 sp ks):=h;have:=qv9 (n:=n) ks sp p fu s hk hb h hL (by simp at hf;omega);rw[this,h0,List.append_nil];rfl
 | t :: r,sp,ks,p,fu+1,s,ht,hk,hb,h,hL,hf,h0=>by
  have hz:qgY sp (t :: r)++qg2 (if (t :: r)=[] then sp else [10]) ks=ql1 sp t++(qgY [10] r++qg2 (if r=[] then [10] else [10]) ks):=by
   simp[qgY]
  rw[hz] at h hL ⊢;obtain⟨i1,e1⟩:=q7V (n:=n) (ht t (by simp)) hb h;have hlt:s.k<L.length:=by
   rw[List.length_append] at hL;have:0<(ql1 sp t).length:=by simp[ql1]
   omega
  rw[qcP,if_pos ⟨hb,hlt⟩,i1,if_pos rfl,e1];simp only;rw[qzE r [10] ks ⟨p.tags++[t],p.kinds⟩ fu (mv s (ql1 sp t).length) (fun q hq=>ht q (List.mem_cons_of_mem _ hq)) hk hb h.right (by rw[List.length_append] at hL;rw[q14];omega) (by simp at hf;omega) h0,qfA];refine Prod.ext (qp3 (by simp)) ?_;simp
theorem q87 {p:ProgE} (hp:okP9 p) (hs:Sts L 0 (qjT p)) (hL:L.length=(qjT p).length) (hf:p.tags.length+p.kinds.length<qaX L):qcP L n (qaX L) ⟨0,0,0⟩ ⟨[],[]⟩=(⟨(qjT p).length,0,0⟩,p):=by
 have:=qzE (L:=L) (n:=n) p.tags [] p.kinds ⟨[],[]⟩ (qaX L) ⟨0,0,0⟩ hp.tg hp.kd rfl hs (by rw[hL];show _=0+(qjT p).length;omega) hf rfl;rw[this];refine Prod.ext ?_ rfl;show (⟨0+(qjT p).length,0,0⟩:S8)=_;rw[Nat.zero_add]
end
def Nw (tl:List UInt8) (r:List It):Prop:=qaJ (bAt (qa5 r++tl) 0)=false
theorem qjN {c:UInt8} {xs:List It} {tl:List UInt8} (h:qaJ c=false):Nw tl (mkI [] [c] :: xs):=by
 unfold Nw;rw[qg4 (mkI [] [c]) xs tl rfl (by simp[mkI])];exact h
theorem qkI {x:It} {xs:List It} {tl:List UInt8} {c:UInt8} {r:List UInt8} (h:x.sp=c :: r) (hc:qc6 c=true):Nw tl (x :: xs):=by
 unfold Nw;rw[qpI x xs tl c r h];exact qkF (fun c=>qc6 c=true→qaJ c=false) (by decide +kernel) c hc
theorem q6B (d:UInt8):qaP 59 d=false:=by unfold qaP;simp
theorem ja5 (d:UInt8):qaP 58 d=false:=by unfold qaP;simp
theorem qz5 (d:UInt8):qaP 123 d=false:=by unfold qaP;simp
theorem qz4 (d:UInt8):qaP 125 d=false:=by unfold qaP;simp
theorem ja4 (d:UInt8):qaP 95 d=false:=by unfold qaP;simp
theorem jb2:qb7 59=true∧qa8 59=false∧qa1 59=false∧(59:UInt8)≠34:=by decide
theorem jcS:qb7 58=true∧qa8 58=false∧qa1 58=false∧(58:UInt8)≠34:=by decide
theorem q6T:qb7 123=true∧qa8 123=false∧qa1 123=false∧(123:UInt8)≠34:=by decide
theorem q6S:qb7 125=true∧qa8 125=false∧qa1 125=false∧(125:UInt8)≠34:=by decide
theorem jcR:qb7 95=true∧qa8 95=false∧qa1 95=false∧(95:UInt8)≠34:=by decide
theorem jcT:qb7 38=true∧qa8 38=false∧qa1 38=false∧(38:UInt8)≠34:=by decide
def BlsN (sp:List UInt8):Prop:=∃ c r,sp=c :: r∧qc6 c=true
section
variable {tl:List UInt8}
theorem qeX {b:ByteArray} {s:List UInt8} {xs:List It} (h:wd8 b) (hs:Bls s) (ht:Nw tl xs) (ho:OkI tl xs):OkI tl (itB s b :: xs):=qdC h.1 hs ht ho
def q37 {α:Type} (tl:List UInt8) (f:List UInt8→α→List It) (x:α):Prop:=∀ s,Bls s→∀ rest,OkI tl rest→Nw tl rest→OkI tl (f s x++rest)
theorem jaU {α:Type} {f:List UInt8→α→List It}:∀ (r:List α),(∀ x ∈ r,q37 tl f x)→∀ rest,OkI tl rest→OkI tl (itC f r++mkI [] [41] :: rest)∧Nw tl (itC f r++mkI [] [41] :: rest)
 | [],_,rest,ho=>⟨qaU q4R Bls.nil (qu7 _) ho,qjN (by decide)⟩
 | x :: r,hi,rest,ho=>by
  obtain⟨h1,h2⟩:=jaU r (fun y hy=>hi y (List.mem_cons_of_mem _ hy)) rest ho;have e:itC f (x :: r)++mkI [] [41] :: rest=mkI [] [44] :: (f [32] x++(itC f r++mkI [] [41] :: rest)):=by simp[itC]
  rw[e];exact⟨qaU jb3 Bls.nil (q6C _) (hi x (by simp) [32] Bls.one _ h1 h2),qjN (by decide)⟩
theorem q4K {α:Type} {f:List UInt8→α→List It} {l:List α} (hi:∀ x ∈ l,q37 tl f x) {rest:List It} (ho:OkI tl rest):OkI tl (itS f l++rest)∧Nw tl (itS f l++rest):=by
 cases l with
 | nil=>exact⟨qaU q4S Bls.nil (qu8 _) (qaU q4R Bls.nil (qu7 _) ho),qjN (by decide)⟩
 | cons x r =>
  obtain⟨h1,h2⟩:=jaU r (fun y hy=>hi y (List.mem_cons_of_mem _ hy)) rest ho;have e:itS f (x :: r)++rest=mkI [] [40] :: (f [] x++(itC f r++mkI [] [41] :: rest)):=by simp[itS]
  rw[e];exact⟨qaU q4S Bls.nil (qu8 _) (hi x (by simp) [] Bls.nil _ h1 h2),qjN (by decide)⟩
theorem q1M {o:Option Ex} (h:okO o):q37 tl itO o:=by
 obtain⟨t,rfl,hw,hl,_⟩:=h;exact fun s hs rest ho ht=>jcM tl t hw hl s hs rest ho ht
theorem q8L {v:ByteArray} (h:q9Y v):q37 tl itV v:=by
 intro s hs rest ho ht;unfold itV;by_cases h95:v=⟨#[95]⟩
 ·rw[if_pos h95];exact qaU jcR hs (ja4 _) ho
 ·rw[if_neg h95];rcases h with h|h
  ·exact absurd h h95
  ·exact qeX h hs ht ho
theorem q8M {ty:Int} (h:ty=1∨ty=2∨ty=3∨ty=4):q37 tl itT ty:=by
 intro s hs rest ho ht;refine qdC ?_ hs ht ho;rcases h with rfl|rfl|rfl|rfl <;> decide
theorem jcN {a:ActE} (ha:okA8 a) {s:List UInt8} (hs:Bls s) {rest:List It} (ho:OkI tl rest):OkI tl (itA s a++rest):=by
 have h59:OkI tl (mkI [] [59] :: rest):=qaU jb2 Bls.nil (q6B _) ho;have n59:Nw tl (mkI [] [59] :: rest):=qjN (by decide);obtain⟨kd,to,nm,vr,args⟩:=a;rcases ha.kd with h1|h1|h1|h1 <;> (simp only at h1;subst h1)
 ·obtain⟨t,ht,hw,hv,hf⟩:=ha.to1 rfl;simp only at ht;subst ht;have e:itA s ⟨1,some t,nm,vr,args⟩++rest=nmI s [115,101,110,100] :: (itX [32] t++itB [32] nm :: (itS itO args++mkI [] [59] :: rest)):=by simp[itA,itO]
  rw[e];obtain⟨o1,n1⟩:=q4K (fun x hx=>q1M (tl:=tl) (ha.ar1 (.inl rfl) x hx)) h59;have o2:=qeX (ha.nm1 (show (1:Int)≠3 by decide)) Bls.one n1 o1;have o3:=jcM tl t hw hv [32] Bls.one _ o2 (qkI rfl (by decide));obtain⟨z,zs,hz,hsp⟩:∃ z zs,itX [32] t=z :: zs∧z.sp=[32]:=qrS t hw [32];refine qdC (by decide) hs ?_ o3;rw[hz];exact qkI hsp (by decide)
 ·obtain rfl:args=[]:=ha.ar0 (.inl rfl);refine qdC (by decide) hs (qkI rfl (by decide)) (qeX (ha.nm1 (show (2:Int)≠3 by decide)) Bls.one (qkI rfl (by decide)) (qdC (by decide) Bls.one (qkI rfl (by decide)) (qeX (ha.vr1 rfl) Bls.one n59 h59)))
 ·have e:itA s ⟨3,to,nm,vr,args⟩++rest=nmI s [114,101,112,108,121] :: (itS itO args++mkI [] [59] :: rest):=by simp[itA]
  rw[e];obtain⟨o1,n1⟩:=q4K (fun x hx=>q1M (tl:=tl) (ha.ar1 (.inr rfl) x hx)) h59;exact qdC (by decide) hs n1 o1
 ·exact qdC (by decide) hs (qkI rfl (by decide)) (qeX (ha.nm1 (show (4:Int)≠3 by decide)) Bls.one n59 h59)
theorem q6N {p:PartE} (hp:okP8 p) {s:List UInt8} (hs:Bls s) {rest:List It} (ho:OkI tl rest):OkI tl (qhN s p++rest):=by
 obtain⟨o1,n1⟩:=q4K (fun x hx=>q8L (tl:=tl) (hp.vs x hx)) ho;exact qeX hp.tg hs n1 o1
theorem q6O:∀ (r:List PartE),(∀ p ∈ r,okP8 p)→∀ rest,OkI tl rest→OkI tl (qhG r++rest)
 | [],_,rest,ho=>ho
 | p :: r,hp,rest,ho=>by
  have e:qhG (p :: r)++rest=mkI [32] [38] :: (qhN [32] p++(qhG r++rest)):=by simp[qhG]
  rw[e];refine qaU jcT Bls.one (qu6 ?_) (q6N (hp p (by simp)) Bls.one (q6O r (fun q hq=>hp q (List.mem_cons_of_mem _ hq)) rest ho));have:bAt (qa5 (qhN [32] p++(qhG r++rest))++tl) 0=32:=qpI (itB [32] p.tg) _ tl 32 [] rfl;rw[this];unfold qkG
  decide
theorem q8F {α:Type} {f:α→List It} {e:It}:∀ (r:List α),(∀ x ∈ r,∀ rest,OkI tl rest→OkI tl (f x++rest))→∀ rest,OkI tl (e :: rest)→OkI tl (itU f e r++rest)
 | [],_,rest,ho=>ho
 | x :: r,hi,rest,ho=>by
  have e2:itU f e (x :: r)++rest=f x++(itU f e r++rest):=by simp[itU]
  rw[e2];exact hi x (by simp) _ (q8F r (fun y hy=>hi y (List.mem_cons_of_mem _ hy)) rest ho)
end
theorem q6U (s:List UInt8) (l:Lf):(itL s l).pc=(itL [] l).pc:=by cases l <;> rfl
theorem qvH (s:List UInt8) (l:Lf):(itL s l).sp=s:=by cases l <;> rfl
def txX (t:Ex):List UInt8:=qa5 (itX [] t)
theorem qcM (x:It):qa5 [x]=x.sp++x.pc:=by rw[qcG];simp[qa5]
theorem qbA (s n:List UInt8) (xs:List It):qa5 (nmI s n :: xs)=s++(n++qa5 xs):=qcG _ _
theorem bytes_nil:qa5 []=[]:=rfl
theorem qc5 (s n:List UInt8) (xs:List It):qa5 (mkI s n :: xs)=s++(n++qa5 xs):=qcG _ _
theorem qjZ:∀ (t:Ex) (s:List UInt8),qa5 (itX s t)=s++txX t
 | .lf l,s=>by
  unfold txX itX;rw[qcM,qcM,q6U s,qvH,qvH];rfl
 | .un k a,s=>by
  unfold txX itX;split
  ·rw[qbA,qbA];rfl
  ·rw[qc5,qc5];rfl
 | .bi k a b,s=>by
  unfold txX itX;split
  ·rw[qbA,qbA];rfl
  ·rw[qa9,qa9,← List.append_assoc]
   congr 1
   split
   ·exact qjZ a s
   ·rw[qc5,qc5];rfl
def brB (lv:Nat) (t:Ex):List UInt8:=if lv≤qdG t then txX t else 40 :: (txX t++[41])
theorem qz1 (l:Lf):txX (.lf l)=(itL [] l).pc:=by
 unfold txX itX;rw[qcM,qvH];rfl
theorem qqB {k:Nat} {a:Ex} (h:qb3 k=7):txX (.un k a)=qcF k++40 :: (txX a++[41]):=by
 unfold txX;rw[itX,if_pos h,qbA,qc5,qa9,qc5];rfl
theorem qpU (s:List UInt8) (lv:Nat) (a:Ex):qa5 (if lv≤qdG a then itX s a else mkI s [40] :: (itX [] a++[mkI [] [41]]))=s++brB lv a:=by
 unfold brB;split
 ·exact qjZ a s
 ·rw[qc5,qa9,qc5];rfl
theorem qu4 {k:Nat} {a:Ex} (h:qb3 k≠7):txX (.un k a)=qcF k++brB (qeN (qb3 k) false) a:=by
 unfold txX;rw[itX,if_neg h,qc5,qpU];rfl
theorem qqA {k:Nat} {a b:Ex} (h:qb3 k=7):txX (.bi k a b)=qcF k++40 :: (txX a++44 :: 32 :: (txX b++[41])):=by
 unfold txX;rw[itX,if_pos h,qbA,qc5,qa9,qc5,qa9,qc5,qjZ b];simp[txX,bytes_nil]
theorem q6A {k:Nat} {a b:Ex} (h:qb3 k≠7):txX (.bi k a b)=brB (qeN (qb3 k) false) a++32 :: (qcF k++32 :: brB (qeN (qb3 k) true) b):=by
 unfold txX;rw[itX,if_neg h,qa9,qpU,qc5,qpU];simp
end Go.Proofs.YtenlhcgpajphhaaGreatDoor
