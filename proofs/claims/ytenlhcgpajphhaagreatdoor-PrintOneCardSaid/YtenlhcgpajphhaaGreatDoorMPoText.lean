import Derived.Test.YtenlhcgpajphhaaGreatDoorMPoExB
import Derived.Test.YtenlhcgpajphhaaGreatDoorMEpScan
import Derived.Test.YtenlhcgpajphhaaGreatDoorMDpWholeP
import Derived.Test.YtenlhcgpajphhaaGreatDoorMDrBegun
import Derived.Test.YtenlhcgpajphhaaGreatDoorMDwAll
import Derived.Test.YtenlhcgpajphhaaGreatDoorMDcPlain
namespace Go.Proofs.YtenlhcgpajphhaaGreatDoor
open Go.RowKit
set_option linter.all false
theorem bls3:Bls [10,9,9]:=fun c h=>by simp at h;rcases h with rfl|rfl <;> decide
theorem bls2:Bls [10,9]:=fun c h=>by simp at h;rcases h with rfl|rfl <;> decide
theorem jbU:Bls [10]:=fun c h=>by simp at h;subst h;decide
section
variable {tl:List UInt8}
theorem q6Q {c:ChordE} (hc:okC8 c) {s:List UInt8} (hs:Bls s) {rest:List It} (ho:OkI tl rest):OkI tl (qfS s c++rest):=by
 obtain⟨nm,parts,guard,body⟩:=c;cases parts with
 | nil=>exact absurd rfl hc.one
 | cons p r =>
  have e:qfS s ⟨nm,p :: r,guard,body⟩++rest=nmI s [99,104,111,114,100] :: itB [32] nm :: mkI [] [58] :: (qhN [32] p++(qhG r++(itG guard++mkI [32] [123] :: (itU (itA [10,9,9]) (mkI [10,9] [125]) body++rest)))):=by simp[qfS]
  rw[e];have o1:OkI tl (itU (itA [10,9,9]) (mkI [10,9] [125]) body++rest):=q8F body (fun a ha rest ho=>jcN (hc.bd a ha) bls3 ho) rest (qaU q6S bls2 (qz4 _) ho);have o2:=qaU q6T Bls.one (qz5 _) o1;have n2:Nw tl (mkI [32] [123] :: (itU (itA [10,9,9]) (mkI [10,9] [125]) body++rest)):=qkI rfl (by decide);have o3:OkI tl (itG guard++mkI [32] [123] :: (itU (itA [10,9,9]) (mkI [10,9] [125]) body++rest)):=by
   cases guard with
   | none=>exact o2
   | some g =>
    obtain⟨t,ht,hw,hv,_⟩:okO (some g):=by
     rcases hc.gd with h|h
     ·cases h
     ·exact h
    cases ht;have o:=jcM tl g hw hv [32] Bls.one _ o2 n2;obtain⟨z,zs,hz,hsp⟩:=qrS g hw [32];refine qdC (by decide) Bls.one ?_ o;rw[hz];exact qkI hsp (by decide)
  have o4:=q6N (hc.pt p (by simp)) Bls.one (q6O r (fun q hq=>hc.pt q (List.mem_cons_of_mem _ hq)) _ o3);exact qdC (by decide) hs (qkI rfl (by decide)) (qeX hc.nm Bls.one (qjN (by decide)) (qaU jcS Bls.nil (ja5 _) o4))
theorem jaT {k:KindE} (hk:okK8 k) {s:List UInt8} (hs:Bls s) {rest:List It} (ho:OkI tl rest):OkI tl (qm9 s k++rest):=by
 have o1:OkI tl (itU (qfS [10,9]) (mkI [10] [125]) k.chords++rest):=q8F k.chords (fun c hc rest ho=>q6Q (hk.ch c hc) bls2 ho) rest (qaU q6S jbU (qz4 _) ho);exact qdC (by decide) hs (qkI rfl (by decide)) (qeX hk.nm Bls.one (qkI rfl (by decide)) (qaU q6T Bls.one (qz5 _) o1))
theorem jaR {t:TagE} (ht:okT8 t) {s:List UInt8} (hs:Bls s) {rest:List It} (ho:OkI tl rest):OkI tl (ql1 s t++rest):=by
 have e:ql1 s t++rest=nmI s [116,97,103] :: itB [32] t.nm :: (itS itT t.tys++mkI [] [59] :: rest):=by simp[ql1]
 rw[e];obtain⟨o1,n1⟩:=q4K (fun x hx=>q8M (tl:=tl) (ht.ty x hx)) (qaU jb2 Bls.nil (q6B _) ho);exact qdC (by decide) hs (qkI rfl (by decide)) (qeX ht.nm Bls.one n1 o1)
theorem q6P:∀ (ks:List KindE) (s:List UInt8),(∀ k ∈ ks,okK8 k)→Bls s→OkI tl (qg2 s ks)
 | [],_,_,_=>trivial
 | k :: r,s,hk,hs=>jaT (hk k (by simp)) hs (q6P r [10] (fun q hq=>hk q (List.mem_cons_of_mem _ hq)) jbU)
theorem q6M:∀ (ts:List TagE) (s:List UInt8) (rest:List It),(∀ t ∈ ts,okT8 t)→Bls s→OkI tl rest→OkI tl (qgY s ts++rest)
 | [],_,_,_,_,ho=>ho
 | t :: r,s,rest,ht,hs,ho=>by
  have e:qgY s (t :: r)++rest=ql1 s t++(qgY [10] r++rest):=by simp[qgY]
  rw[e];exact jaR (ht t (by simp)) hs (q6M r [10] rest (fun q hq=>ht q (List.mem_cons_of_mem _ hq)) jbU ho)
theorem jaS {p:ProgE} (hp:okP9 p):OkI tl (qjT p):=by
 refine q6M p.tags [] _ hp.tg Bls.nil (q6P p.kinds _ hp.kd ?_);split
 ·exact Bls.nil
 ·exact jbU
end
theorem q6F {l:List UInt8} {xs:List It} (h:(qdF l).1.map at0=xs.map ja7):Sts (qb2 l) 0 xs∧(qb2 l).length=xs.length:=by
 have hlen:(qdF l).1.length=xs.length:=by
  have:=congrArg List.length h
  simpa using this
 refine⟨fun i x hx=>?_,by rw[qgS,hlen]⟩;have hi:i<xs.length:=(List.getElem?_eq_some_iff.1 hx).1;have hi2:i<(qdF l).1.length:=by omega
 have h2:=congrArg (fun z=>z[i]?) h;simp only[List.getElem?_map,hx,List.getElem?_eq_getElem hi2,Option.map_some,Option.some.injEq] at h2;have hk:tkE (qb2 l) (0+i)=qzB (qdF l).1[i]:=by
  unfold tkE qb2;rw[Nat.zero_add,List.getD_eq_getElem?_getD,List.getElem?_map,List.getElem?_eq_getElem hi2];rfl
 rw[hk,qgS];have g1:=congrArg Tok.kind h2;have g2:=congrArg Tok.text h2;have g3:=congrArg Tok.int h2;have g4:=congrArg Tok.real h2;unfold at0 ja7 at g1 g2 g3 g4;simp only at g1 g2 g3 g4;refine⟨by omega,?_,?_,?_,?_⟩
 ·show ((qdF l).1[i].kind:Int)=_;rw[g1]
 ·show (⟨(qdF l).1[i].text.toArray⟩:ByteArray)=_;rw[g2]
 ·exact g3
 ·exact g4
theorem q71 {L:List TokE} {n:Nat} {k:Nat} (h:L.length=k):(qj1 L n ⟨k,0,0⟩).bad=0:=by
 unfold qj1;rw[if_neg (by simp only;omega)]
theorem qvF:∀ (ts:List TagE) (s:List UInt8),ts.length≤(qgY s ts).length
 | [],_=>Nat.zero_le _
 | t :: r,s=>by have:=qvF r [10];simp[qgY,ql1];omega
theorem qvI:∀ (ks:List KindE) (s:List UInt8),ks.length≤(qg2 s ks).length
 | [],_=>Nat.zero_le _
 | k :: r,s=>by have:=qvI r [10];simp[qg2,qm9];omega
theorem q0I {p:ProgE} (hp:okP9 p) {tl:List UInt8} (htl:Bls tl) (hl:(qa5 (qjT p)++tl).length≤32768) (n:Nat):qgO (qa5 (qjT p)++tl) n=(p,0,0):=by
 obtain⟨h0,h1⟩:=qn7 htl (jaS hp) hl;obtain⟨h2,h3⟩:=q6F h1;have hfew:p.tags.length+p.kinds.length<qaX (qb2 (qa5 (qjT p)++tl)):=by
  unfold qaX;rw[h3];have:=qvF p.tags [];have:=qvI p.kinds (if p.tags=[] then [] else [10]);unfold qjT;rw[List.length_append];omega
 have h4:=q87 (n:=n) hp h2 h3 hfew;unfold qgO;rw[if_neg (by rw[h0];simp),h4];simp only;rw[if_pos (q71 h3)]
theorem qy8 {c:ChordE} (hc:okC8 c) {tl:List UInt8} (htl:Bls tl) (hl:(qa5 (qfS [] c)++tl).length≤32768) (n:Nat):qh2 (qa5 (qfS [] c)++tl) n=(c,0,0):=by
 have ho:OkI tl (qfS [] c):=by
  have:=q6Q (tl:=tl) hc Bls.nil (rest:=[]) trivial
  rwa [List.append_nil] at this
 obtain⟨h0,h1⟩:=qn7 htl ho hl;obtain⟨h2,h3⟩:=q6F h1;have h4:=qs0 (n:=n) (s:=⟨0,0,0⟩) (ys:=[]) hc rfl (by rw[List.append_nil];exact h2);unfold qh2;rw[if_neg (by rw[h0];simp),h4];simp only;rw[if_pos];show (qj1 _ n ⟨0+(qfS [] c).length,0,0⟩).bad=0;exact q71 (by rw[h3];omega)
theorem quZ:okE none:=fun t h=>by cases h
section
variable {L:List TokE} {n:Nat}
end
def TkG (t:TokE):Prop:=(t.kd=1→qd2 t.tx.data.toList=true)∧(t.kd=2→0≤t.iv∧t.iv<9223372036854775808)∧(t.kd=3→∃ (m:Nat) (x:Int),t.rl=qaA m x∧qaI m x=true)∧(t.kd=4→t.tx.size≤256)
theorem qn1 {l:List UInt8} {A:Nat} (hA:A≤l.length) (h0:(qaR l A).2=0):TkG (qzB (qaR l A).1)∧((qaR l A).1.kind=2→qa2 l A (A+(qaR l A).1.size)=Lib.decDigits (qaR l A).1.int.toNat)∧((qaR l A).1.kind=3→qa2 l A (A+(qaR l A).1.size)=qiS (qaR l A).1.real)∧((qaR l A).1.kind=4→qa2 l A (A+(qaR l A).1.size)=qdI (qaR l A).1.text)∧((qaR l A).1.kind=1∨(qaR l A).1.kind=5→qa2 l A (A+(qaR l A).1.size)=(qaR l A).1.text):=by
 obtain⟨b1,b2,b3,_⟩:=qbJ l A hA;obtain⟨K,E,hs⟩:∃ K E,qaD l A=(K,E):=⟨_,_,rfl⟩
 rw[hs] at b1 b2 b3;simp only at b1 b2 b3;have hf:qcH l K A E=0:=by
  unfold qaR at h0;rw[hs] at h0;simp only at h0;by_cases h:qcH l K A E=0
  ·exact h
  ·rw[if_pos h] at h0;exact absurd h0 h
 have ht:(qaR l A).1=⟨K,(qcC l K A E).1,(qcC l K A E).2.1,(qcC l K A E).2.2.1,A,E-A⟩:=by
  unfold qaR;rw[hs];simp only;rw[if_neg (by rw[hf];simp)]
 have hb0:(qcC l K A E).2.2.2=0:=by
  unfold qcH at hf;split at hf
  ·cases hf
  ·exact hf
 rw[ht];have eE:A+(E-A)=E:=by omega
 simp only[eE];have e1:∀ t:List UInt8,(⟨t.toArray⟩:ByteArray).data.toList=t:=fun t=>by simp
 unfold TkG qzB;simp only;have hK:K=0∨K=1∨K=2∨K=3∨K=4∨K=5:=by omega
 rcases hK with rfl|rfl|rfl|rfl|rfl|rfl
 ·exact⟨⟨fun h=>by simp at h,fun h=>by simp at h,fun h=>by simp at h,fun h=>by simp at h⟩,fun h=>by simp at h,fun h=>by simp at h,fun h=>by simp at h,fun h=>by simp at h⟩
 ·
  have hb:qcC l 1 A E=if E-A≤32 then (qa2 l A E,0,0,0) else ([],0,0,13):=rfl
  rw[hb] at hb0 ⊢;by_cases h32:E-A≤32
  ·rw[if_pos h32];refine⟨⟨fun _=>?_,fun h=>by simp at h,fun h=>by simp at h,fun h=>by simp at h⟩,fun h=>by simp at h,fun h=>by simp at h,fun h=>by simp at h,fun _=>rfl⟩;show qd2 (qa2 l A E)=true;have hl:qa8 (bAt l A)=true∧E=A+1+tw qaJ l (A+1):=by
    unfold qaD at hs;split at hs
    ·rename_i h;simp only[Prod.mk.injEq,true_and] at hs;exact⟨h,hs.symm⟩
    ·exfalso;split at hs
     ·unfold qdT at hs;split at hs
      ·simp at hs
      ·split at hs <;> simp at hs
     ·split at hs
      ·simp at hs
      ·split at hs <;> simp at hs
   have hlen:(qa2 l A E).length=E-A:=by unfold qa2;rw[List.length_take,List.length_drop];omega
   unfold qd2;rw[decide_eq_true (by rw[hlen];omega),decide_eq_true (by rw[hlen];omega),qh4,if_pos (by omega),Nat.add_zero,hl.1];simp only[Bool.true_and,List.all_eq_true];intro c hc;obtain⟨k,hk⟩:=List.mem_iff_getElem?.1 hc;have hkl:k<E-A:=by have:=(List.getElem?_eq_some_iff.1 hk).1;omega
   rw[qeF hkl b2] at hk;rw[← Option.some.inj hk];rcases Nat.eq_zero_or_pos k with rfl|hp
   ·exact(qhZ hl.1).1
   ·have:=qwS (p:=qaJ) (l:=l) (j:=A+1) (k:=k-1) (by omega)
    rwa [show A+1+(k-1)=A+k by omega] at this
  ·rw[if_neg h32] at hb0;simp at hb0
 ·
  have hb:qcC l 2 A E=match qaK (qa2 l A E) with|some v=>([],v,0,0)|none=>([],0,0,12):=rfl
  rw[hb] at hb0 ⊢;cases hv:qaK (qa2 l A E) with
  | none=>rw[hv] at hb0;simp at hb0
  | some v =>
   have hdig:∀ c ∈ qa2 l A E,48≤c.toNat∧c.toNat≤57:=by
    have hd:qa1 (bAt l A)=true∧E=A+1+tw qa1 l (A+1):=by
     unfold qaD at hs;split at hs
     ·simp at hs
     ·split at hs
      ·rename_i h;unfold qdT at hs;split at hs
       ·simp only[Prod.mk.injEq,true_and] at hs;exact⟨h,hs.symm⟩
       ·split at hs <;> simp at hs
      ·split at hs
       ·simp at hs
       ·split at hs <;> simp at hs
    have:=qpR (l:=l) (A:=A) (n:=E-A) (fun k hk=>by
     rcases Nat.eq_zero_or_pos k with rfl|hp
     ·exact hd.1
     ·have:=qwS (p:=qa1) (l:=l) (j:=A+1) (k:=k-1) (by omega)
      rwa [show A+1+(k-1)=A+k by omega] at this) (by omega)
    rwa [eE] at this
   obtain⟨w1,w2,w3⟩:=qh8 hdig hv;exact⟨⟨fun h=>by simp at h,fun _=>⟨w2,w3⟩,fun h=>by simp at h,fun h=>by simp at h⟩,fun _=>w1,fun h=>by simp at h,fun h=>by simp at h,fun h=>by simp at h⟩
 ·
  have hb:qcC l 3 A E=match qcA (qa2 l A E) with|some (m,e)=>([],0,qaA m e,0)|none=>([],0,0,12):=rfl
  rw[hb] at hb0 ⊢;cases hv:qcA (qa2 l A E) with
  | none=>rw[hv] at hb0;simp at hb0
  | some v =>
   obtain⟨m,e⟩:=v;obtain⟨r1,r2,r3⟩:=q00 hs hv;obtain⟨M,rfl⟩:∃ M:Nat,m=(M:Int):=⟨m.toNat,by omega⟩
   rw[Int.toNat_natCast] at r1;refine⟨⟨fun h=>by simp at h,fun h=>by simp at h,fun _=>⟨M,e,rfl,r3⟩,fun h=>by simp at h⟩,fun h=>by simp at h,fun _=>?_,fun h=>by simp at h,fun h=>by simp at h⟩;rw[r1];exact(qg0 r3).2.symm
 ·
  have hb:qcC l 4 A E=match qbX (qa2 l A E) with|some s=>(s,0,0,0)|none=>([],0,0,11):=rfl
  rw[hb] at hb0 ⊢;cases hv:qbX (qa2 l A E) with
  | none=>rw[hv] at hb0;simp at hb0
  | some t =>
   have hq:bAt l A=34:=by
    unfold qaD at hs;split at hs
    ·simp at hs
    ·split at hs
     ·unfold qdT at hs;split at hs
      ·simp at hs
      ·split at hs <;> simp at hs
     ·split at hs
      ·rename_i h;exact h
      ·split at hs <;> simp at hs
   unfold qbX at hv;split at hv
   ·rename_i u hu;split at hv
    ·rename_i hsz;cases hv;refine⟨⟨fun h=>by simp at h,fun h=>by simp at h,fun h=>by simp at h,fun _=>hsz⟩,fun h=>by simp at h,fun h=>by simp at h,fun _=>?_,fun h=>by simp at h⟩;have h1:=qoC _ _ _ hu;have hlt:A<l.length:=by
      rcases Nat.lt_or_ge A l.length with h|h
      ·exact h
      ·rw[qfG h] at hq;exact absurd hq (by decide)
     have hEA:A+1≤E:=by
      rcases Nat.lt_or_ge A E with h|h
      ·omega
      ·have:qa2 l A E=[]:=by unfold qa2;rw[show E-A=0 by omega];simp
       rw[this] at h1;simp at h1
     rw[qiM (B:=A+1) (by omega) hEA b2,qlQ hlt,hq] at h1 ⊢;simp only[List.singleton_append,List.drop_one,List.tail_cons] at h1;rw[h1];rfl
    ·cases hv
   ·cases hv
 ·have hb:qcC l 5 A E=(qa2 l A E,0,0,0):=rfl;rw[hb];exact⟨⟨fun h=>by simp at h,fun h=>by simp at h,fun h=>by simp at h,fun h=>by simp at h⟩,fun h=>by simp at h,fun h=>by simp at h,fun h=>by simp at h,fun _=>rfl⟩
theorem jcE {g:Nat→Cl} (hl:∀ k l,g k=.leaf l→q64 l):∀ (f:Nat) (X:Nt) (p:Nat) (t:Ex) (q:Nat),(∀ n a,X=.loop n a→qq4 a)→rd g f X p=some (.ok t q)→qq4 t:=by
 intro f
 induction f with
 | zero=>intro X p t q _ h;unfold rd at h;cases h
 | succ f ih =>
  intro X p t q hX h;have ih2:∀ (n p:Nat) (t:Ex) (q:Nat),rd g f (.lvl n) p=some (.ok t q)→qq4 t:=fun n p t q h=>ih (.lvl n) p t q (fun _ _ e=>by cases e) h;cases X with
  | lvl n =>
   rw[rd] at h;split at h
   ·cases hg:g p with
    | leaf l =>
     rw[hg] at h;simp only[Option.some.injEq,Rs.ok.injEq] at h;rw[← h.1];exact hl p l hg
    | mark s =>
     rw[hg] at h;simp only at h;split at h
     ·obtain⟨a,e,h1,h2⟩:=qb5 h;split at h2
      ·simp only[Option.some.injEq,Rs.ok.injEq] at h2;rw[← h2.1];exact ih2 _ _ _ _ h1
      ·cases h2
     ·cases h
    | word k =>
     rw[hg] at h;simp only at h;split at h
     ·obtain⟨a,e,h1,h2⟩:=qb5 h;split at h2
      ·split at h2
       ·simp only[Option.some.injEq,Rs.ok.injEq] at h2;rw[← h2.1];show qq4 a;exact ih2 _ _ _ _ h1
       ·cases h2
      ·split at h2
       ·obtain⟨b,e2,h3,h4⟩:=qb5 h2;split at h4
        ·simp only[Option.some.injEq,Rs.ok.injEq] at h4;rw[← h4.1];exact⟨ih2 _ _ _ _ h1,ih2 _ _ _ _ h3⟩
        ·cases h4
       ·cases h2
     ·cases h
    | no=>rw[hg] at h;cases h
   ·split at h
    ·split at h
     ·exact ih2 _ _ _ _ h
     ·obtain⟨a,e,h1,h2⟩:=qb5 h;simp only[Option.some.injEq,Rs.ok.injEq] at h2;rw[← h2.1];show qq4 a;exact ih2 _ _ _ _ h1
    ·obtain⟨a,e,h1,h2⟩:=qb5 h;exact ih _ _ _ _ (fun n' a' he=>by cases he;exact ih2 _ _ _ _ h1) h2
  | loop n a =>
   have ha:=hX n a rfl;rw[rd] at h;split at h
   ·obtain⟨b,e,h1,h2⟩:=qb5 h;have hb:=ih2 _ _ _ _ h1;split at h2
    ·simp only[Option.some.injEq,Rs.ok.injEq] at h2;rw[← h2.1];exact⟨ha,hb⟩
    ·exact ih _ _ _ _ (fun n' a' he=>by cases he;exact⟨ha,hb⟩) h2
   ·simp only[Option.some.injEq,Rs.ok.injEq] at h;rw[← h.1];exact ha
def qyE (L:List TokE):Prop:=∀ k,k<L.length→TkG (tkE L k)
theorem q1C {t:TokE} {l:Lf} (h:TkG t) (hc:clT t=.leaf l):q64 l:=by
 obtain⟨h1,h2,h3,h4⟩:=h;have hok:=qvT hc;unfold clT at hc;split at hc
 ·cases hc
 split at hc
 ·rename_i hk;split at hc
  ·cases hc;exact h2 hk
  ·cases hc
 split at hc
 ·rename_i hk;split at hc
  ·cases hc;exact h3 hk
  ·cases hc
 split at hc
 ·rename_i hk;split at hc
  ·cases hc;exact h4 hk
  ·cases hc
 split at hc
 ·split at hc
  ·split at hc
   ·cases hc;trivial
   ·split at hc
    ·cases hc;trivial
    ·split at hc
     ·cases hc;exact hok
     ·cases hc
  ·cases hc
 ·cases hc
theorem q6H (L:List TokE) (k:Nat):RdR L k (rdX L k).1 (rdX L k).2.1 (rdX L k).2.2:=by
 have hx:∃ x:Option Ex × Int × Int,RdR L k x.1 x.2.1 x.2.2:=by
  obtain⟨r,hr⟩:=q06 L k;cases r with
  | bad q=>exact⟨(none,_,_),.inl ⟨q,hr,rfl,rfl,rfl⟩⟩
  | ok t q =>
   by_cases hf:qcW t=0
   ·exact⟨(some t,_,_),.inr (.inr ⟨t,q,hr,hf,rfl,rfl,rfl⟩)⟩
   ·exact⟨(none,_,_),.inr (.inl ⟨t,q,hr,hf,rfl,rfl,rfl⟩)⟩
 obtain⟨⟨o,a,f⟩,h⟩:=hx;rw[q05 h];exact h
section
variable {L:List TokE} {n:Nat}
theorem qmD (hL:qyE L) {s:S8} (h:(qaY L n s).1.bad=0):s.bad=0∧okO (qaY L n s).2:=by
 unfold qaY at h ⊢;split at h
 ·rename_i hb;rw[if_pos hb];refine⟨hb,?_⟩;rcases hx:rdX L s.k with ⟨o,a,f⟩
  rw[hx] at h;cases o with
  | none =>
   exfalso;simp only at h;unfold qcB at h;rw[if_pos hb] at h;have hr:=q6H L s.k;rw[hx] at hr;simp only at h;rcases hr with ⟨q,_,_,_,e⟩|⟨t,q,_,e0,_,_,e⟩|⟨t,q,_,_,e0,_,_⟩
   ·have e:f=50:=e;rw[e] at h;exact absurd h (by decide)
   ·have e:f=qcW t:=e;rw[e] at h;exact e0 h
   ·cases e0
  | some t =>
   simp only;have hr:=qoM hx;rcases hr with ⟨q,_,e,_⟩|⟨t',q,_,_,e,_⟩|⟨t',q,h1,hf,e,_⟩
   ·cases e
   ·cases e
   ·cases e;refine⟨t,rfl,h1.wf (by omega),?_,hf⟩;obtain⟨fu,hfu⟩:=h1;refine jcE (g:=gL L) (fun k l hk=>?_) fu (.lvl 1) s.k t q (fun _ _ e=>by cases e) hfu;unfold gL at hk;split at hk
    ·rename_i hlt;exact q1C (hL k hlt) hk
    ·cases hk
 ·rename_i hb;exact absurd h hb
theorem qdL {s:S8} {i e:Int} (he:e≠0) (h:(qcB L n s i e).bad=0):False:=by
 unfold qcB at h;split at h
 ·exact he h
 ·rename_i hb;exact hb h
theorem qcZ {s:S8} {t:ByteArray} (h:(qa7 L n s t).bad=0):s.bad=0:=by
 unfold qa7 at h;split at h
 ·exact h
 ·exact(qdL (by decide) h).elim
theorem qdV (hL:qyE L) {s:S8} (h:(qaV L n s).1.bad=0):s.bad=0∧wd8 (qaV L n s).2:=by
 unfold qaV at h ⊢;split at h
 ·rename_i hw;rw[if_pos hw];unfold qhP at hw;simp only[Bool.and_eq_true,decide_eq_true_eq,Bool.not_eq_true'] at hw;exact⟨hw.1,(hL s.k hw.2.1).1 hw.2.2.1,hw.2.2.2⟩
 ·exact(qdL (by decide) h).elim
def qyH {α:Type} (item:S8→S8 × α) (P:α→Prop):Prop:=∀ s,(item s).1.bad=0→s.bad=0∧P (item s).2
theorem qrH {α:Type} {item:S8→S8 × α} {P:α→Prop} (hi:qyH item P):∀ (f:Nat) (s:S8) (l:List α),(∀ x ∈ l,P x)→(qdE L n item f s l).1.bad=0→s.bad=0∧∀ x ∈ (qdE L n item f s l).2,P x
 | 0,s,l,hl,h=>⟨h,hl⟩
 | f+1,s,l,hl,h=>by
  rw[qdE] at h ⊢;split at h
  ·rename_i hb;rw[if_pos hb];refine⟨hb,?_⟩;split at h
   ·rename_i hi1;rw[if_pos hi1];exact hl
   ·rename_i hi1;rw[if_neg hi1];have hbad:(item (qa7 L n s ⟨#[44]⟩)).1.bad=0:=by
     rcases Classical.em ((item (qa7 L n s ⟨#[44]⟩)).1.bad=0) with h0|h0
     ·exact h0
     ·exfalso;cases f with
      | zero=>exact h0 h
      | succ f=>rw[qdE,if_neg h0] at h;exact h0 h
    have hx:=(hi _ hbad).2;exact(qrH hi f _ _ (fun x hx2=>by
     rcases List.mem_append.1 hx2 with h1|h1
     ·exact hl x h1
     ·rcases List.mem_singleton.1 h1 with rfl;exact hx) h).2
  ·rename_i hb;exact absurd h hb
theorem qm7 {α:Type} {item:S8→S8 × α} {P:α→Prop} (hi:qyH item P):qyH (qcQ L n item) (fun l=>∀ x ∈ l,P x):=by
 intro s h;unfold qcQ at h ⊢;split at h
 ·rename_i h1;rw[if_pos h1];exact⟨qcZ h,fun x hx=>by cases hx⟩
 ·rename_i h1;rw[if_neg h1];have hbad:(item (qa7 L n s ⟨#[40]⟩)).1.bad=0:=by
   rcases Classical.em ((item (qa7 L n s ⟨#[40]⟩)).1.bad=0) with h0|h0
   ·exact h0
   ·exfalso;have e:qaX L=L.length+1+1:=rfl;rw[e,qdE,if_neg h0] at h;exact h0 h
  obtain⟨h2,h3⟩:=hi _ hbad;exact⟨qcZ h2,(qrH hi _ _ _ (fun x hx=>by rcases List.mem_singleton.1 hx with rfl;exact h3) h).2⟩
theorem qsF {α:Type} {item:S8→S8 × α} {P:α→Prop} (hi:qyH item P):∀ (f:Nat) (s:S8) (l:List α),(∀ x ∈ l,P x)→(upS L item f s l).1.bad=0→s.bad=0∧∀ x ∈ (upS L item f s l).2,P x
 | 0,s,l,hl,h=>⟨h,hl⟩
 | f+1,s,l,hl,h=>by
  rw[upS] at h ⊢;split at h
  ·rename_i hb;rw[if_pos hb];refine⟨hb,?_⟩;split at h
   ·rename_i hi1;rw[if_pos hi1];exact hl
   ·rename_i hi1;rw[if_neg hi1];have hbad:(item s).1.bad=0:=by
     rcases Classical.em ((item s).1.bad=0) with h0|h0
     ·exact h0
     ·exfalso;cases f with
      | zero=>exact h0 h
      | succ f=>rw[upS,if_neg h0] at h;exact h0 h
    have hx:=(hi _ hbad).2;exact(qsF hi f _ _ (fun x hx2=>by
     rcases List.mem_append.1 hx2 with h1|h1
     ·exact hl x h1
     ·rcases List.mem_singleton.1 h1 with rfl;exact hx) h).2
  ·rename_i hb;exact absurd h hb
theorem q1G:qyH (qdK L n) (fun x=>x=1∨x=2∨x=3∨x=4):=by
 intro s h;unfold qdK at h ⊢;split at h
 ·rename_i hk;rw[if_pos hk];refine⟨h,?_⟩;simp only[Bool.and_eq_true,decide_eq_true_eq] at hk;have h2:=hk.2;show ((qs6 (tkE L s.k).tx.toList).1:Int)=1∨((qs6 (tkE L s.k).tx.toList).1:Int)=2∨((qs6 (tkE L s.k).tx.toList).1:Int)=3∨((qs6 (tkE L s.k).tx.toList).1:Int)=4;unfold qs6 at h2 ⊢;split at h2
  ·rename_i e;rw[if_pos e];exact .inl rfl
  rename_i e1;rw[if_neg e1];split at h2
  ·rename_i e;rw[if_pos e];exact .inr (.inl rfl)
  rename_i e2;rw[if_neg e2];split at h2
  ·rename_i e;rw[if_pos e];exact .inr (.inr (.inl rfl))
  rename_i e3;rw[if_neg e3];split at h2
  ·rename_i e;rw[if_pos e];exact .inr (.inr (.inr rfl))
  rename_i e4;rw[if_neg e4];split at h2
  ·exact absurd rfl h2.2
  ·exact absurd h2.1 (by decide)
 ·exact(qdL (by decide) h).elim
theorem q3E (hL:qyE L):qyH (qhQ L n) q9Y:=by
 intro s h;unfold qhQ at h ⊢;split at h
 ·rename_i h1;rw[if_pos h1];exact⟨h,.inl rfl⟩
 ·rename_i h1;rw[if_neg h1];obtain⟨h2,h3⟩:=qdV hL h;exact⟨h2,.inr h3⟩
theorem qxX (hL:qyE L):qyH (qaY L n) okO:=fun s h=>qmD hL h
theorem qs5 (hL:qyE L):qyH (qi9 L n) (fun l=>∀ o ∈ l,okO o):=qm7 (qxX hL)
theorem q3S (hL:qyE L):qyH (qmL L n) okT8:=by
 intro s h;obtain⟨h1,h2⟩:=qm7 (q1G (L:=L) (n:=n)) _ (qcZ h);obtain⟨h3,h4⟩:=qdV hL h1;exact⟨h3,⟨h4,h2⟩⟩
theorem qr2 (hL:qyE L):qyH (qdA L n) okP8:=by
 intro s h;obtain⟨h1,h2⟩:=qm7 (q3E hL) _ h;obtain⟨h3,h4⟩:=qdV hL h1;exact⟨h3,⟨h4,h2⟩⟩
end
section
variable {L:List TokE} {n:Nat}
theorem q5W (hL:qyE L):qyH (qjB L n) okA8:=by
 intro s h;have h1:(qcI L n s).1.bad=0:=qcZ h;show s.bad=0∧okA8 (qcI L n s).2;unfold qcI at h1 ⊢;split at h1
 ·rename_i i1;rw[if_pos i1];obtain⟨a1,a2⟩:=qs5 hL _ h1;obtain⟨b1,b2⟩:=qdV hL a1;obtain⟨c1,c2⟩:=qmD hL b1;exact⟨c1,⟨.inl rfl,fun _=>c2,fun h=>absurd rfl h,fun _=>b2,fun h=>absurd h (show (1:Int)≠3 by decide),fun h=>absurd h (show (1:Int)≠2 by decide),fun _=>rfl,fun _=>a2,fun h=>by rcases h with h|h <;> exact absurd h (show (1:Int)≠_ by decide)⟩⟩
 rename_i i1;rw[if_neg i1];split at h1
 ·rename_i i2;rw[if_pos i2];obtain⟨b1,b2⟩:=qdV hL h1;obtain⟨c1,c2⟩:=qdV hL (qcZ b1);exact⟨c1,⟨.inr (.inl rfl),fun h=>absurd h (show (2:Int)≠1 by decide),fun _=>rfl,fun _=>c2,fun h=>absurd h (show (2:Int)≠3 by decide),fun _=>b2,fun h=>absurd rfl h,fun h=>by rcases h with h|h <;> exact absurd h (show (2:Int)≠_ by decide),fun _=>rfl⟩⟩
 rename_i i2;rw[if_neg i2];split at h1
 ·rename_i i3;rw[if_pos i3];obtain⟨a1,a2⟩:=qs5 hL _ h1;exact⟨a1,⟨.inr (.inr (.inl rfl)),fun h=>absurd h (show (3:Int)≠1 by decide),fun _=>rfl,fun h=>absurd rfl h,fun _=>rfl,fun h=>absurd h (show (3:Int)≠2 by decide),fun _=>rfl,fun _=>a2,fun h=>by rcases h with h|h <;> exact absurd h (show (3:Int)≠_ by decide)⟩⟩
 rename_i i3;rw[if_neg i3];split at h1
 ·rename_i i4;rw[if_pos i4];obtain⟨b1,b2⟩:=qdV hL h1;exact⟨b1,⟨.inr (.inr (.inr rfl)),fun h=>absurd h (show (4:Int)≠1 by decide),fun _=>rfl,fun _=>b2,fun h=>absurd h (show (4:Int)≠3 by decide),fun h=>absurd h (show (4:Int)≠2 by decide),fun _=>rfl,fun h=>by rcases h with h|h <;> exact absurd h (show (4:Int)≠_ by decide),fun _=>rfl⟩⟩
 ·exact(qdL (by decide) h1).elim
theorem qw2 (hL:qyE L):∀ (f:Nat) (s:S8) (l:List PartE),(∀ x ∈ l,okP8 x)→(qk0 L n f s l).1.bad=0→s.bad=0∧(∀ x ∈ (qk0 L n f s l).2,okP8 x)∧(l≠[]→(qk0 L n f s l).2≠[])
 | 0,s,l,hl,h=>⟨h,hl,fun h=>h⟩
 | f+1,s,l,hl,h=>by
  rw[qk0] at h ⊢;split at h
  ·rename_i i1;rw[if_pos i1];have hbad:(qdA L n (qa6 s)).1.bad=0:=by
    rcases Classical.em ((qdA L n (qa6 s)).1.bad=0) with h0|h0
    ·exact h0
    ·exfalso;cases f with
     | zero=>exact h0 h
     | succ f =>
      have hi:isB L (qdA L n (qa6 s)).1 ⟨#[38]⟩=false:=by unfold isB;rw[decide_eq_false h0];rfl
      rw[qk0,hi,if_neg (by decide)] at h;exact h0 h
   obtain⟨h2,h3⟩:=qr2 hL _ hbad;obtain⟨h4,h5,h6⟩:=qw2 hL f _ _ (fun x hx=>by
    rcases List.mem_append.1 hx with h1|h1
    ·exact hl x h1
    ·rcases List.mem_singleton.1 h1 with rfl;exact h3) h
   exact⟨h2,h5,fun _=>h6 (by simp)⟩
  ·rename_i i1;rw[if_neg i1];exact⟨h,hl,fun h=>h⟩
theorem qy6 (hL:qyE L):qyH (qbP L n) okC8:=by
 intro s h;unfold qbP at h ⊢;simp only at h ⊢;obtain⟨d1,d2⟩:=qsF (q5W hL) _ _ _ (fun x hx=>by cases hx) h;have g1:=qcZ d1;have hg:∀ c:S8 × List PartE,(if isB L c.1 ⟨#[119,104,101,110]⟩ then qaY L n (qa6 c.1) else (c.1,none)).1.bad=0→c.1.bad=0∧((if isB L c.1 ⟨#[119,104,101,110]⟩ then qaY L n (qa6 c.1) else (c.1,none)).2=none∨okO (if isB L c.1 ⟨#[119,104,101,110]⟩ then qaY L n (qa6 c.1) else (c.1,none)).2):=by
  intro c hc;split at hc
  ·rename_i i1;rw[if_pos i1];obtain⟨e1,e2⟩:=qmD hL hc;exact⟨e1,.inr e2⟩
  ·rename_i i1;rw[if_neg i1];exact⟨hc,.inl rfl⟩
 obtain⟨c1,c2⟩:=hg _ g1;have hbb:(qdA L n (qa7 L n (qaV L n (qa7 L n s ⟨#[99,104,111,114,100]⟩)).1 ⟨#[58]⟩)).1.bad=0:=by
  rcases Classical.em ((qdA L n (qa7 L n (qaV L n (qa7 L n s ⟨#[99,104,111,114,100]⟩)).1 ⟨#[58]⟩)).1.bad=0) with h0|h0
  ·exact h0
  ·exfalso;have hi:isB L (qdA L n (qa7 L n (qaV L n (qa7 L n s ⟨#[99,104,111,114,100]⟩)).1 ⟨#[58]⟩)).1 ⟨#[38]⟩=false:=by unfold isB;rw[decide_eq_false h0];rfl
   have e:qaX L=L.length+1+1:=rfl;rw[e,qk0,hi,if_neg (by decide)] at c1;exact h0 c1
 obtain⟨p1,p2⟩:=qr2 hL _ hbb;obtain⟨_,a2,a3⟩:=qw2 hL _ _ _ (fun x hx=>by rcases List.mem_singleton.1 hx with rfl;exact p2) c1;obtain⟨w1,w2⟩:=qdV hL (qcZ p1);exact⟨qcZ w1,⟨w2,a3 (by simp),a2,c2,d2⟩⟩
theorem qxP (hL:qyE L):qyH (qfN L n) okK8:=by
 intro s h;unfold qfN at h ⊢;simp only at h ⊢;obtain⟨d1,d2⟩:=qsF (qy6 hL) _ _ _ (fun x hx=>by cases hx) h;obtain⟨w1,w2⟩:=qdV hL (qcZ d1);exact⟨qcZ w1,⟨w2,d2⟩⟩
theorem qlP (hL:qyE L):∀ (f:Nat) (s:S8) (p:ProgE),okP9 p→(qcP L n f s p).1.bad=0→okP9 (qcP L n f s p).2
 | 0,s,p,hp,_=>hp
 | f+1,s,p,hp,h=>by
  have stuck:∀ (f:Nat) (s:S8) (p:ProgE),s.bad≠0→(qcP L n f s p).1.bad≠0:=by
   intro f s p hs;cases f with
   | zero=>exact hs
   | succ f=>rw[qcP,if_neg (fun h=>hs h.1)];exact hs
  rw[qcP] at h ⊢;split at h
  ·rename_i hb;rw[if_pos hb];split at h
   ·rename_i i1;rw[if_pos i1];have hbad:(qmL L n (qa6 s)).1.bad=0:=Classical.byContradiction fun h0=>stuck f _ _ h0 h;refine qlP hL f _ _ ⟨fun t ht=>?_,hp.kd⟩ h;rcases List.mem_append.1 ht with h1|h1
    ·exact hp.tg t h1
    ·rcases List.mem_singleton.1 h1 with rfl;exact(q3S hL _ hbad).2
   ·rename_i i1;rw[if_neg i1];have hbad:(qfN L n s).1.bad=0:=Classical.byContradiction fun h0=>stuck f _ _ h0 h;refine qlP hL f _ _ ⟨hp.tg,fun t ht=>?_⟩ h;rcases List.mem_append.1 ht with h1|h1
    ·exact hp.kd t h1
    ·rcases List.mem_singleton.1 h1 with rfl;exact(qxP hL _ hbad).2
  ·rename_i hb;rw[if_neg hb];exact hp
end
theorem q5S {l:List UInt8} {x:Tok} (hx:x ∈ (qdF l).1):∃ A,A<l.length∧(x,0)=qaR l A∧x.at_=A∧0<x.size∧A+x.size≤l.length:=by
 have hm:(x,0) ∈ qfH l:=by
  rw[qiJ];unfold qmO;exact List.mem_append_left _ (List.mem_map.2 ⟨x,hx,rfl⟩)
 obtain⟨A,h1,h2,h3,_,h5,h6,_⟩:=qrB l (x,0) hm rfl;exact⟨A,h1,h2,h3,h5,h6⟩
theorem qwU (l:List UInt8):qyE (qb2 l):=by
 intro k hk;obtain⟨x,hx,_,e⟩:=qkP hk;have e:tkE (qb2 l) k=qzB x:=e;rw[e];obtain⟨A,hA,hx2,_⟩:=q5S hx;have g:=(qn1 (l:=l) (A:=A) (by omega) (by rw[← hx2])).1;rw[← hx2] at g;exact g
theorem qnC {l:List UInt8} {n:Nat} {p:ProgE} {pl:Int} (h:qgO l n=(p,pl,0)):okP9 p:=by
 unfold qgO at h;split at h
 ·rename_i h0;simp only[Prod.mk.injEq] at h;exact absurd (by have:=h.2.2;omega) h0
 ·split at h
  ·rename_i h1;simp only[Prod.mk.injEq] at h;rw[← h.1];have z9:okP9 ⟨[],[]⟩:=⟨fun t ht=>(by cases ht),fun k hk=>(by cases hk)⟩
   refine qlP (qwU l) _ _ _ z9 ?_;unfold qj1 at h1;split at h1
   ·exact(qdL (by decide) h1).elim
   ·exact h1
  ·rename_i h1;simp only[Prod.mk.injEq] at h;exact absurd h.2.2 h1
def qt8 (t:TokE):Nat:=if t.kd=2 then (Lib.decDigits t.iv.toNat).length else if t.kd=3 then (qiS t.rl).length else if t.kd=4 then (qdI t.tx.data.toList).length else t.tx.data.toList.length
def wtL (L:List TokE) (k:Nat):Nat:=((L.drop k).map fun t=>qt8 t+14).sum
theorem qwC {L:List TokE} {k:Nat} (h:k<L.length):wtL L k=qt8 (tkE L k)+14+wtL L (k+1):=by
 unfold wtL tkE;rw[List.drop_eq_getElem_cons h,List.map_cons,List.sum_cons,List.getD_eq_getElem?_getD,List.getElem?_eq_getElem h];rfl
theorem q7I (L:List TokE) (k:Nat):wtL L (k+1)≤wtL L k:=by
 rcases Nat.lt_or_ge k L.length with h|h
 ·rw[qwC h];omega
 ·unfold wtL;rw[List.drop_eq_nil_of_le h,List.drop_eq_nil_of_le (by omega)];exact Nat.le_refl _
def qbL (xs:List It):Nat:=(qa5 xs).length
theorem qbY:qbL []=0:=rfl
theorem qiT (x:It) (xs:List It):qbL (x :: xs)=x.sp.length+x.pc.length+qbL xs:=by
 unfold qbL;rw[qcG,List.length_append,List.length_append,Nat.add_assoc]
theorem qa4 (xs ys:List It):qbL (xs++ys)=qbL xs+qbL ys:=by
 unfold qbL;rw[qa9,List.length_append]
theorem qcE (s n:List UInt8) (xs:List It):qbL (nmI s n :: xs)=s.length+n.length+qbL xs:=qiT _ _
theorem qcS (s n:List UInt8) (xs:List It):qbL (mkI s n :: xs)=s.length+n.length+qbL xs:=qiT _ _
theorem qi0 (s:List UInt8) (b:ByteArray) (xs:List It):qbL (itB s b :: xs)=s.length+b.data.toList.length+qbL xs:=qiT _ _
def ubX:Ex→Nat
 | .lf l=>(itL [] l).pc.length
 | .un k a=>(qcF k).length+2+ubX a
 | .bi k a b=>(qcF k).length+6+ubX a+ubX b
theorem qt7:∀ (t:Ex) (s:List UInt8),qbL (itX s t)≤s.length+ubX t
 | .lf l,s=>by
  unfold itX ubX;rw[qiT,q6U,qvH,qbY];exact Nat.le_refl _
 | .un k a,s=>by
  have h:=qt7 a [];rw[List.length_nil] at h;unfold itX ubX;split
  ·simp only[qcE,qcS,qa4,qbY,List.length_nil,List.length_cons];omega
  ·split
   ·simp only[qcS];omega
   ·simp only[qcS,qa4,qbY,List.length_nil,List.length_cons];omega
 | .bi k a b,s=>by
  have h0:=qt7 a [];have h1:=qt7 a s;have h2:=qt7 b [];have h3:=qt7 b [32];simp only[List.length_nil,List.length_cons] at h0 h2 h3;unfold itX ubX;split
  ·simp only[qcE,qcS,qa4,qbY,List.length_nil,List.length_cons];omega
  ·split <;> split <;> (simp only[qcS,qa4,qbY,List.length_nil,List.length_cons];omega)
theorem qiI:∀ k,(qcF k).length≤5:=by
 intro k;rcases Nat.lt_or_ge k 27 with h|h
 ·have:∀ k:Fin 27,(qcF k.val).length≤5:=by decide
  exact this ⟨k,h⟩
 ·unfold qcF;rw[List.getD_eq_getElem?_getD,List.getElem?_eq_none (by simpa using h)];exact Nat.zero_le _
def addX:Nt→Nat
 | .loop _ a=>ubX a
 | .lvl _=>0
def lvX:Nt→Nat
 | .loop n _=>n
 | .lvl n=>n
theorem jaA {g:Nat→Cl} {W:Nat→Nat} (hw:∀ p,W (p+1)≤W p) (hs:∀ p,g p≠.no→14+W (p+1)≤W p) (hl:∀ p l,g p=.leaf l→(itL [] l).pc.length+W (p+1)≤W p) :
  ∀ (f:Nat) (X:Nt) (p:Nat) (t:Ex) (q:Nat),1≤lvX X→rd g f X p=some (.ok t q)→ubX t+W q≤W p+addX X:=by
 intro f
 induction f with
 | zero=>intro X p t q _ h;unfold rd at h;cases h
 | succ f ih =>
  intro X p t q hX h;have ih2:∀ (n p:Nat) (t:Ex) (q:Nat),1≤n→rd g f (.lvl n) p=some (.ok t q)→ubX t+W q≤W p:=fun n p t q hn h=>ih (.lvl n) p t q hn h;cases X with
  | lvl n =>
   show ubX t+W q≤W p+0;rw[rd] at h;split at h
   ·cases hg:g p with
    | leaf l =>
     rw[hg] at h;simp only[Option.some.injEq,Rs.ok.injEq] at h;obtain⟨rfl,rfl⟩:=h;exact hl p l hg
    | mark s =>
     rw[hg] at h;simp only at h;split at h
     ·obtain⟨a,e,h1,h2⟩:=qb5 h;split at h2
      ·simp only[Option.some.injEq,Rs.ok.injEq] at h2;obtain⟨rfl,rfl⟩:=h2;have:=ih2 _ _ _ _ (by decide) h1;have:=hw p;have:=hw e;omega
      ·cases h2
     ·cases h
    | word k =>
     have hp:=hs p (by rw[hg];simp);rw[hg] at h;simp only at h;split at h
     ·obtain⟨a,e,h1,h2⟩:=qb5 h;have g1:=ih2 _ _ _ _ (by decide) h1;have g2:W (p+2)≤W (p+1):=hw (p+1);have g3:=hw e;have g4:=qiI k;split at h2
      ·split at h2
       ·simp only[Option.some.injEq,Rs.ok.injEq] at h2;obtain⟨rfl,rfl⟩:=h2;unfold ubX;omega
       ·cases h2
      ·split at h2
       ·obtain⟨b,e2,h3,h4⟩:=qb5 h2;split at h4
        ·simp only[Option.some.injEq,Rs.ok.injEq] at h4;obtain⟨rfl,rfl⟩:=h4;have g5:=ih2 _ _ _ _ (by decide) h3;have g6:=hw e2;unfold ubX;omega
        ·cases h4
       ·cases h2
     ·cases h
    | no=>rw[hg] at h;cases h
   ·split at h
    ·split at h
     ·exact ih2 _ _ _ _ (by decide) h
     ·rename_i h0;have hp:=hs p (by intro hg;rw[hg] at h0;exact h0 rfl);obtain⟨a,e,h1,h2⟩:=qb5 h;simp only[Option.some.injEq,Rs.ok.injEq] at h2;obtain⟨rfl,rfl⟩:=h2;have g1:=ih2 _ _ _ _ (by decide) h1;have g4:=qiI (sgK (g p));unfold ubX;omega
    ·obtain⟨a,e,h1,h2⟩:=qb5 h;have hX:1≤n:=hX;have g1:=ih2 _ _ _ _ (by omega) h1;have g2:ubX t+W q≤W e+ubX a:=ih (.loop n a) _ _ _ hX h2;omega
  | loop n a =>
   show ubX t+W q≤W p+ubX a;have hX:1≤n:=hX;rw[rd] at h;split at h
   ·rename_i h0;have hp:=hs p (by intro hg;rw[hg] at h0;have:opL (clK Cl.no)=0:=rfl;omega);obtain⟨b,e,h1,h2⟩:=qb5 h;have g1:=ih2 _ _ _ _ (by omega) h1;have g4:=qiI (clK (g p));split at h2
    ·simp only[Option.some.injEq,Rs.ok.injEq] at h2;obtain⟨rfl,rfl⟩:=h2;have e1:ubX (.bi (clK (g p)) a b)=(qcF (clK (g p))).length+6+ubX a+ubX b:=rfl;rw[e1];omega
    ·have g2:ubX t+W q≤W e+ubX (.bi (clK (g p)) a b):=ih (.loop n _) _ _ _ hX h2;have e1:ubX (.bi (clK (g p)) a b)=(qcF (clK (g p))).length+6+ubX a+ubX b:=rfl;rw[e1] at g2;omega
   ·simp only[Option.some.injEq,Rs.ok.injEq] at h;obtain⟨rfl,rfl⟩:=h;omega
section
variable {L:List TokE} {n:Nat}
theorem q6Y {p:Nat} (h:gL L p≠.no):p<L.length:=by
 unfold gL at h;split at h
 ·assumption
 ·exact absurd rfl h
theorem q4V {t:TokE} {l:Lf} (h:clT t=.leaf l):(itL [] l).pc.length≤qt8 t:=by
 unfold clT at h;split at h
 ·cases h
 split at h
 ·rename_i h2;split at h
  ·cases h;unfold qt8;rw[if_pos h2];exact Nat.le_refl _
  ·cases h
 rename_i h2;split at h
 ·rename_i h3;split at h
  ·cases h;unfold qt8;rw[if_neg h2,if_pos h3];exact Nat.le_refl _
  ·cases h
 rename_i h3;split at h
 ·rename_i h4;split at h
  ·cases h;unfold qt8;rw[if_neg h2,if_neg h3,if_pos h4];exact Nat.le_refl _
  ·cases h
 rename_i h4;split at h
 ·have e:qt8 t=t.tx.data.toList.length:=by unfold qt8;rw[if_neg h2,if_neg h3,if_neg h4]
  rw[e];split at h
  ·split at h
   ·rename_i e1;cases h;rw[e1];exact Nat.le_refl _
   ·split at h
    ·rename_i e1;cases h;rw[e1];exact Nat.le_refl _
    ·split at h
     ·cases h;exact Nat.le_refl _
     ·cases h
  ·cases h
 ·cases h
theorem q55 {s:S8} {o:Option Ex} {a f:Int} {t:Ex} (h:rdX L s.k=(o,a,f)) (ho:o=some t):ubX t+wtL L a.toNat≤wtL L s.k:=by
 subst ho;have hr:=qoM h;have key:∀ (t':Ex) (q:Nat),Rd (gL L) (.lvl 1) s.k (.ok t' q)→ubX t'+wtL L q≤wtL L s.k:=by
  intro t' q hq;obtain⟨fu,hfu⟩:=hq;have:=jaA (g:=gL L) (W:=wtL L) (q7I L) (fun p hp=>by rw[qwC (q6Y hp)];omega) (fun p l hp=>by
   have hlt:p<L.length:=q6Y (by rw[hp];simp);have hc:clT (tkE L p)=.leaf l:=by
    unfold gL at hp;rw[if_pos hlt] at hp;exact hp
   have:=q4V hc;rw[qwC hlt];omega) fu (.lvl 1) s.k t' q (Nat.le_refl _) hfu
  exact this
 rcases hr with ⟨q,_,e,_⟩|⟨t',q,_,_,e,_⟩|⟨t',q,h1,hf,e,ha,_⟩
 ·cases e
 ·cases e
 ·cases e;have ha:a=(q:Nat):=ha;rw[ha,Int.toNat_natCast];exact key _ _ h1
def qyG {α:Type} (L:List TokE) (f:List UInt8→α→List It) (item:S8→S8 × α):Prop:=∀ (s:S8) (sp:List UInt8),(item s).1.bad=0→s.bad=0∧qbL (f sp (item s).2)+wtL L (item s).1.k≤sp.length+wtL L s.k
theorem qj0:qyG L itO (qaY L n):=by
 intro s sp h;unfold qaY at h ⊢;split at h
 ·rename_i hb;rw[if_pos hb];refine⟨hb,?_⟩;rcases hx:rdX L s.k with ⟨o,a,f⟩
  rw[hx] at h;cases o with
  | none =>
   exfalso;simp only at h;unfold qcB at h;rw[if_pos hb] at h;have hr:=q6H L s.k;rw[hx] at hr;simp only at h;rcases hr with ⟨q,_,_,_,e⟩|⟨t,q,_,e0,_,_,e⟩|⟨t,q,_,_,e0,_,_⟩
   ·have e:f=50:=e;rw[e] at h;exact absurd h (by decide)
   ·have e:f=qcW t:=e;rw[e] at h;exact e0 h
   ·cases e0
  | some t =>
   have:=q55 hx rfl;have h2:=qt7 t sp;show qbL (itX sp t)+wtL L a.toNat≤_;omega
 ·rename_i hb;exact absurd h hb
theorem qkK {s:S8} {t:ByteArray} (h:isB L s t=true):14+wtL L (qa6 s).k≤wtL L s.k:=by
 unfold isB at h;simp only[Bool.and_eq_true,decide_eq_true_eq] at h;have:=qwC h.2.1;show 14+wtL L (s.k+1)≤_;omega
theorem qdW {s:S8} {t:ByteArray} (h:(qa7 L n s t).bad=0):s.bad=0∧14+wtL L (qa7 L n s t).k≤wtL L s.k:=by
 refine⟨qcZ h,?_⟩;unfold qa7 at h ⊢;split at h
 ·rename_i hi;rw[if_pos hi];exact qkK hi
 ·exact(qdL (by decide) h).elim
theorem qeU {s:S8} (h:(qaV L n s).1.bad=0):s.bad=0∧14+(qaV L n s).2.data.toList.length+wtL L (qaV L n s).1.k≤wtL L s.k:=by
 unfold qaV at h ⊢;split at h
 ·rename_i hw;rw[if_pos hw];unfold qhP at hw;simp only[Bool.and_eq_true,decide_eq_true_eq,Bool.not_eq_true'] at hw;refine⟨hw.1,?_⟩;have h1:=qwC hw.2.1;have e:qt8 (tkE L s.k)=(tkE L s.k).tx.data.toList.length:=by unfold qt8;rw[hw.2.2.1];rfl
  show 14+(tkE L s.k).tx.data.toList.length+wtL L (s.k+1)≤_;omega
 ·exact(qdL (by decide) h).elim
theorem qv6 {α:Type} {f:List UInt8→α→List It} {item:S8→S8 × α} (hi:qyG L f item):∀ (fu:Nat) (s:S8) (l:List α),(qdE L n item fu s l).1.bad=0→s.bad=0∧∃ r,(qdE L n item fu s l).2=l++r∧qbL (itC f r)+wtL L (qdE L n item fu s l).1.k≤wtL L s.k
 | 0,s,l,h=>⟨h,[],by rw[List.append_nil];rfl,by show 0+wtL L s.k≤_;omega⟩
 | fu+1,s,l,h=>by
  rw[qdE] at h ⊢;split at h
  ·rename_i hb;rw[if_pos hb];refine⟨hb,?_⟩;split at h
   ·rename_i hi1;rw[if_pos hi1];have:=qkK hi1;refine⟨[],by rw[List.append_nil],?_⟩;show 0+wtL L (qa6 s).k≤_;omega
   ·rename_i hi1;rw[if_neg hi1];have hbad:(item (qa7 L n s ⟨#[44]⟩)).1.bad=0:=by
     rcases Classical.em ((item (qa7 L n s ⟨#[44]⟩)).1.bad=0) with h0|h0
     ·exact h0
     ·exfalso;cases fu with
      | zero=>exact h0 h
      | succ fu=>rw[qdE,if_neg h0] at h;exact h0 h
    obtain⟨h1,h2⟩:=hi _ [32] hbad;obtain⟨_,h4⟩:=qdW h1;obtain⟨_,r,h5,h6⟩:=qv6 hi fu _ _ h;refine⟨(item (qa7 L n s ⟨#[44]⟩)).2 :: r,by rw[h5];simp,?_⟩;unfold itC;simp only[qcS,qa4,List.length_nil,List.length_cons] at h2 ⊢;omega
  ·rename_i hb;exact absurd h hb
theorem qkZ {α:Type} {f:List UInt8→α→List It} {item:S8→S8 × α} (hi:qyG L f item) {s:S8} (h:(qcQ L n item s).1.bad=0):s.bad=0∧qbL (itS f (qcQ L n item s).2)+wtL L (qcQ L n item s).1.k≤wtL L s.k:=by
 unfold qcQ at h ⊢;split at h
 ·rename_i h1;rw[if_pos h1];obtain⟨h2,h3⟩:=qdW h;have h4:=qkK h1;refine⟨h2,?_⟩;show qbL [mkI [] [40],mkI [] [41]]+_≤_;simp only[qcS,qbY,List.length_nil,List.length_cons];omega
 ·rename_i h1;rw[if_neg h1];have hbad:(item (qa7 L n s ⟨#[40]⟩)).1.bad=0:=by
   rcases Classical.em ((item (qa7 L n s ⟨#[40]⟩)).1.bad=0) with h0|h0
   ·exact h0
   ·exfalso;have e:qaX L=L.length+1+1:=rfl;rw[e,qdE,if_neg h0] at h;exact h0 h
  obtain⟨h2,h3⟩:=hi _ [] hbad;obtain⟨h4,h5⟩:=qdW h2;obtain⟨_,r,h6,h7⟩:=qv6 hi _ _ _ h;refine⟨h4,?_⟩;rw[h6];show qbL (mkI [] [40] :: (f [] (item (qa7 L n s ⟨#[40]⟩)).2++(itC f r++[mkI [] [41]])))+_≤_;simp only[qcS,qa4,qbY,List.length_nil,List.length_cons] at h3 ⊢;omega
theorem qyY {α:Type} {f:α→List It} {item:S8→S8 × α} (hi:∀ s,(item s).1.bad=0→s.bad=0∧qbL (f (item s).2)+wtL L (item s).1.k≤wtL L s.k) (e:It):∀ (fu:Nat) (s:S8) (l:List α),(upS L item fu s l).1.bad=0→s.bad=0∧∃ r,(upS L item fu s l).2=l++r∧qbL (itU f e r)+wtL L (upS L item fu s l).1.k≤qbL [e]+wtL L s.k
 | 0,s,l,h=>⟨h,[],by rw[List.append_nil];rfl,Nat.le_refl _⟩
 | fu+1,s,l,h=>by
  rw[upS] at h ⊢;split at h
  ·rename_i hb;rw[if_pos hb];refine⟨hb,?_⟩;split at h
   ·rename_i hi1;rw[if_pos hi1];have:=qkK hi1;refine⟨[],by rw[List.append_nil],?_⟩;show qbL [e]+wtL L (qa6 s).k≤_;omega
   ·rename_i hi1;rw[if_neg hi1];have hbad:(item s).1.bad=0:=by
     rcases Classical.em ((item s).1.bad=0) with h0|h0
     ·exact h0
     ·exfalso;cases fu with
      | zero=>exact h0 h
      | succ fu=>rw[upS,if_neg h0] at h;exact h0 h
    obtain⟨h1,h2⟩:=hi _ hbad;obtain⟨_,r,h5,h6⟩:=qyY hi e fu _ _ h;refine⟨(item s).2 :: r,by rw[h5];simp,?_⟩;unfold itU;rw[qa4];omega
  ·rename_i hb;exact absurd h hb
theorem q1F:qyG L itT (qdK L n):=by
 intro s sp h;unfold qdK at h ⊢;split at h
 ·rename_i hk;rw[if_pos hk];refine⟨h,?_⟩;simp only[Bool.and_eq_true,decide_eq_true_eq] at hk;have hk1:=hk.1;unfold qiU at hk1;simp only[Bool.and_eq_true,decide_eq_true_eq] at hk1;have h1:=qwC hk1.2.1;have h2:∀ ty:Int,(tyN ty).length≤4:=by
   intro ty;unfold tyN;split
   ·decide
   ·split
    ·decide
    ·split <;> decide
  have h3:=h2 ((qs6 (tkE L s.k).tx.toList).1:Nat);show qbL [nmI sp (tyN ((qs6 (tkE L s.k).tx.toList).1:Nat))]+wtL L (s.k+1)≤_;rw[qcE,qbY];omega
 ·exact(qdL (by decide) h).elim
theorem q3D:qyG L itV (qhQ L n):=by
 intro s sp h;unfold qhQ at h ⊢;split at h
 ·rename_i h1;rw[if_pos h1];refine⟨h,?_⟩;have h2:=qkK h1;simp only;unfold itV;rw[if_pos rfl,qcS,qbY];simp only[List.length_cons,List.length_nil];omega
 ·rename_i h1;rw[if_neg h1];obtain⟨h2,h3⟩:=qeU h;refine⟨h2,?_⟩;unfold itV;split
  ·rw[qcS,qbY];simp only[List.length_cons,List.length_nil];omega
  ·rw[qi0,qbY];omega
theorem q7W {s:S8} {sp:List UInt8} (hsp:sp.length≤3) (hi:isB L s ⟨#[116,97,103]⟩=true) (h:(qmL L n (qa6 s)).1.bad=0):qbL (ql1 sp (qmL L n (qa6 s)).2)+wtL L (qmL L n (qa6 s)).1.k≤wtL L s.k:=by
 unfold qmL at h ⊢;simp only at h ⊢;obtain⟨h1,h2⟩:=qdW h;obtain⟨h3,h4⟩:=qkZ q1F h1;obtain⟨h5,h6⟩:=qeU h3;have h7:=qkK hi;unfold ql1;simp only[qcE,qi0,qa4,qcS,qbY,List.length_cons,List.length_nil];omega
theorem qr1:qyG L qhN (qdA L n):=by
 intro s sp h;unfold qdA at h ⊢;simp only at h ⊢;obtain⟨h3,h4⟩:=qkZ q3D h;obtain⟨h5,h6⟩:=qeU h3;refine⟨h5,?_⟩;unfold qhN;simp only[qi0];omega
theorem q9K {sp:List UInt8} (hsp:sp.length≤3) (s:S8) (h:(qjB L n s).1.bad=0):s.bad=0∧qbL (itA sp (qjB L n s).2)+wtL L (qjB L n s).1.k≤wtL L s.k:=by
 unfold qjB at h ⊢;simp only at h ⊢;obtain⟨h1,h2⟩:=qdW h;have key:s.bad=0∧qbL (itA sp (qcI L n s).2)+wtL L (qcI L n s).1.k≤1+wtL L s.k:=by
  clear h2 h;unfold qcI at h1 ⊢;split at h1
  ·rename_i i1;rw[if_pos i1];unfold q81 at h1 ⊢;simp only at h1 ⊢;obtain⟨a1,a2⟩:=qkZ qj0 h1;obtain⟨b1,b2⟩:=qeU a1;obtain⟨c1,c2⟩:=qj0 _ [32] b1;have d:=qkK i1;refine⟨c1,?_⟩;unfold itA;rw[if_pos rfl];simp only[qcE,qi0,qa4,qcS,qbY,List.length_cons,List.length_nil] at c2 ⊢;have a2:qbL (itS itO (qi9 L n (qaV L n (qaY L n (qa6 s)).1).1).2)+wtL L (qi9 L n (qaV L n (qaY L n (qa6 s)).1).1).1.k≤_:=a2;omega
  rename_i i1;rw[if_neg i1];split at h1
  ·rename_i i2;rw[if_pos i2];unfold qzG at h1 ⊢;simp only at h1 ⊢;obtain⟨b1,b2⟩:=qeU h1;obtain⟨c1,c2⟩:=qdW b1;obtain⟨e1,e2⟩:=qeU c1;have d:=qkK i2;refine⟨e1,?_⟩;unfold itA;rw[if_neg (show ¬ (2:Int)=1 by decide),if_pos rfl];simp only[qcE,qi0,qa4,qcS,qbY,List.length_cons,List.length_nil];omega
  rename_i i2;rw[if_neg i2];split at h1
  ·rename_i i3;rw[if_pos i3];unfold qzX at h1 ⊢;simp only at h1 ⊢;obtain⟨a1,a2⟩:=qkZ qj0 h1;have d:=qkK i3;refine⟨a1,?_⟩;unfold itA;rw[if_neg (show ¬ (3:Int)=1 by decide),if_neg (show ¬ (3:Int)=2 by decide),if_pos rfl];simp only[qcE,qi0,qa4,qcS,qbY,List.length_cons,List.length_nil];have a2:qbL (itS itO (qi9 L n (qa6 s)).2)+wtL L (qi9 L n (qa6 s)).1.k≤_:=a2;omega
  rename_i i3;rw[if_neg i3];split at h1
  ·rename_i i4;rw[if_pos i4];unfold qtN at h1 ⊢;simp only at h1 ⊢;obtain⟨b1,b2⟩:=qeU h1;have d:=qkK i4;refine⟨b1,?_⟩;unfold itA;rw[if_neg (show ¬ (4:Int)=1 by decide),if_neg (show ¬ (4:Int)=2 by decide),if_neg (show ¬ (4:Int)=3 by decide)];simp only[qcE,qi0,qa4,qcS,qbY,List.length_cons,List.length_nil];omega
  ·exact(qdL (by decide) h1).elim
 refine⟨key.1,?_⟩;have:=key.2;omega
theorem q2V:∀ (fu:Nat) (s:S8) (l:List PartE),(qk0 L n fu s l).1.bad=0→s.bad=0∧∃ r,(qk0 L n fu s l).2=l++r∧qbL (qhG r)+wtL L (qk0 L n fu s l).1.k≤wtL L s.k
 | 0,s,l,h=>⟨h,[],by rw[List.append_nil];rfl,by show 0+wtL L s.k≤_;omega⟩
 | fu+1,s,l,h=>by
  rw[qk0] at h ⊢;split at h
  ·rename_i i1;rw[if_pos i1];have hbad:(qdA L n (qa6 s)).1.bad=0:=by
    rcases Classical.em ((qdA L n (qa6 s)).1.bad=0) with h0|h0
    ·exact h0
    ·exfalso;cases fu with
     | zero=>exact h0 h
     | succ fu =>
      have hi:isB L (qdA L n (qa6 s)).1 ⟨#[38]⟩=false:=by unfold isB;rw[decide_eq_false h0];rfl
      rw[qk0,hi,if_neg (by decide)] at h;exact h0 h
   obtain⟨h2,h3⟩:=qr1 _ [32] hbad;obtain⟨_,r,h5,h6⟩:=q2V fu _ _ h;have d:=qkK i1;refine⟨h2,(qdA L n (qa6 s)).2 :: r,by rw[h5];simp,?_⟩;unfold qhG;simp only[qcS,qa4,List.length_cons,List.length_nil] at h3 ⊢;omega
  ·rename_i i1;rw[if_neg i1];exact⟨h,[],by rw[List.append_nil],by show 0+wtL L s.k≤_;omega⟩
end
end Go.Proofs.YtenlhcgpajphhaaGreatDoor
