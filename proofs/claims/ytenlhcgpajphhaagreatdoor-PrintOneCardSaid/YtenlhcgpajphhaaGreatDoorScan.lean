import Derived.Test.YtenlhcgpajphhaaGreatDoorRows
import Derived.Test.YtenlhcgpajphhaaGreatDoorIter
import Derived.Maps.OwnIn
import Derived.RangeFuncBox
namespace Go.Proofs.YtenlhcgpajphhaaGreatDoor
open Go.RowKit Go.Shelf
open Lib(hid)
set_option linter.all false
set_option maxHeartbeats 4000000
attribute [local go_sem] Oper.semAt_some
set_option maxRecDepth 100000
def qbG (t:Tok):List Value:=[.int .i64 t.kind,.string ⟨t.text.toArray⟩,.int .i64 t.int,.float .f64 t.real,.int .i64 t.at_,.int .i64 t.size]
def qmV (xs:List (Tok × Nat)):List Value:=xs.flatMap fun x=>qbG x.1
theorem qxV (xs:List (Tok × Nat)) (x:Tok × Nat):qmV (xs++[x])=qmV xs++qbG x.1:=by simp[qmV]
theorem qz8 (m:Nat) (a:Option Addr) (n cap:Nat) (w:World) :
  CallsIn Fence.wide m Tryz.prog 103 #[.slice a n cap] w fun e w'=>e=.returned (.func (.func 130) #[] #[.pointer (some ⟨w.heap.size,0,none⟩)])∧w'=w.alloc (.cells #[.slice a n cap] 22):=by
 refine callsIn_of_wp Tryz.func103 rfl trivial ?_ rfl;simp only[Tryz.ntmps103,List.size_toArray,List.length_cons,List.length_nil,Nat.reduceAdd,Nat.reduceSub,Array.replicate_succ,Array.replicate_zero,List.push_toArray,List.append_toArray,List.nil_append,List.cons_append]
 gi_wp2
 go_ret;exact⟨rfl,rfl⟩
theorem qoD (m:Nat) (Wr:Nat→Prop) (Ball n₀ nb Bn:Nat) (a:Option Addr) (n cap:Nat) (l:List UInt8) (w:World) (hm:1≤m) (hF:qg9)
  (hinv:ItInv Ball n₀ nb Bn 22 a n cap l w) (hWr:∀ k,Wr k→n₀≤k∧k<nb) (hBw:¬ Wr Bn) (hn0:n₀≤nb) (hBn:Bn<nb) (hBl:Ball<nb) :
  SeqStopsK Fence.wide m Tryz.prog 130 #[.pointer (some ⟨Bn,0,none⟩)] jc5 (Kq Wr Ball) (fun xs=>xs=qfH l) (fun pre=>pre <+: qfH l) (qfH l).length w:=fun lw J Jx W hW hJ _ hY h0=>by
 have hi:=hinv.grow hW hBl hBn;rcases Nat.lt_or_ge 32768 n with h|h
 ·exact qqG m Ball n₀ nb Bn a n cap l lw J Jx (Kq Wr Ball) W hm hi h hY h0
 ·exact qoE m Wr Ball n₀ nb Bn a n cap l lw J Jx W hm hF hi h hWr hBw hn0 hBn hBl hJ hY h0
theorem quF:∀ (f:Nat) (l:List UInt8) (i:Nat),(qjH f l i).length≤f
 | 0,_,_=>Nat.le_refl _
 | f+1,l,i=>by
  unfold qjH;split
  ·simp
  ·split
   ·simp
   ·simp only[List.length_cons];have:=quF f l ((qbV l i).1.at_+(qbV l i).1.size);omega
theorem q5U (l:List UInt8):(qfH l).length≤32769:=by
 unfold qfH;split
 ·simp
 ·rename_i h;have:=quF (l.length+1) l 0;omega
theorem Kq.of_below {Wr:Nat→Prop} {Ball:Nat} {W W':World} (h:Below W.heap.size W W') (hB:Ball<W.heap.size):Kq Wr Ball W W' :=
 ⟨h.size,fun k o hk _ _ _=>(h.block k (Array.getElem?_eq_some_iff.1 hk).1).trans hk,.inl (qhB (h.block Ball hB))⟩
theorem Kq.appended {Wr:Nat→Prop} {Ball:Nat} {W w1:World} {t:TypeId} {v v':Value} {tmp:Obj} (hv:Boxed W Ball t v) (hw:Wr Ball) (hv1:Boxed w1 Ball t v)
  (hg:(W.alloc tmp).grownBy w1 v.ownBlock) (hn:v'.ownBlock=v.ownBlock∨v'.ownBlock=some (W.alloc tmp).heap.size) (hlt:∀ g,v'.ownBlock=some g→g<w1.heap.size):Kq Wr Ball W (w1.setCell ⟨Ball,0,none⟩ v'):=by
 have hr0:qiK Ball W=v.ownBlock:=by unfold qiK;rw[hv.cell];rfl
 have hr1:qiK Ball (w1.setCell ⟨Ball,0,none⟩ v')=v'.ownBlock:=by unfold qiK;rw[(hv1.set v').cell];rfl
 have hz:=hg.size;simp only[World.size_alloc] at hz hn;have hs:(w1.setCell ⟨Ball,0,none⟩ v').heap.size=w1.heap.size:=by simp
 refine⟨by omega,fun k o hk _ hkw hkr=>?_,?_⟩
 ·have hlt:=(Array.getElem?_eq_some_iff.1 hk).1;rw[hr0] at hkr;have h1:=hg.block k (by simp;omega) (fun e=>hkr e.symm);rw[(grownBy_setCell' w1 Ball v').block k (by omega) (by rintro ⟨⟩;exact hkw hw),h1];exact(Below.heap_alloc W tmp k hlt).trans hk
 ·rw[hr0,hr1];rcases hn with h|h
  ·exact .inl h
  ·have:=hlt _ h;exact .inr ⟨_,h,by omega,by omega⟩
theorem q8O:(Tryz.prog.info? 158).map (fun i=>(i.zero,i.size,i.bytes))=some (some (.agg #[.int .i64 0,.string ByteArray.empty,.int .i64 0,.float .f64 0,.int .i64 0,.int .i64 0]),6,56):=by kernel_rfl
def jd5 (s:Nat) (w:World) (pre:List (Tok × Nat)) (W:World):Prop :=
 ((∀ x ∈ pre,x.2=0)∧(Boxed W s 123 (.slice none 0 0)∧Boxed W (s+1) 3 (.int .i64 0))∧Boxed W (s+2) 30 (.int .i64 0)) ∧
 (∃ v,Boxed W (s+3) 123 v∧W.ownsRow s 158 6 v pre.length (qmV pre)∧True)∧Below s w W
def jd4 (s:Nat) (w:World) (c:Code) (pre:List (Tok × Nat)) (W:World):Prop :=
 (∃ (p:List (Tok × Nat)) (x:Tok × Nat),c=.ret∧pre=p++[x]∧(∀ y ∈ p,y.2=0)∧x.2≠0∧(W.cell? ⟨s,0,none⟩=some (.slice none 0 0)∧W.cell? ⟨s+1,0,none⟩=some (.int .i64 x.1.at_))∧W.cell? ⟨s+2,0,none⟩=some (.int .i64 x.2))∧Below s w W
theorem q9N (m:Nat) (a:Option Addr) (n cap:Nat) (l:List UInt8) (w:World) (hm:3≤m) (hF:qg9) (hT:Txt w a n cap l) (hG:qq3 w) :
  CallsIn Fence.wide m Tryz.prog 64 #[.slice a n cap] w fun e W'=>Below w.heap.size w W' ∧
   ((∃ v,e=.returned (.tuple #[v,.int .i64 0,.int .i64 0])∧(∀ x ∈ qfH l,x.2=0)∧W'.ownsRow w.heap.size 158 6 v (qfH l).length (qmV (qfH l))) ∨
    (∃ p x r,qfH l=p++x :: r∧(∀ y ∈ p,y.2=0)∧x.2≠0∧e=.returned (.tuple #[.slice none 0 0,.int .i64 x.1.at_,.int .i64 x.2]))):=by
 have h1:1≤m:=by omega
 obtain⟨i0,hi,hz0,hz1,hz2⟩:=info_parts q8O;refine callsIn_of_wp_marks Tryz.func64 rfl trivial ?_ rfl;simp only[Tryz.ntmps64,List.size_toArray,List.length_cons,List.length_nil,Nat.reduceAdd,Nat.reduceSub,Array.replicate_succ,Array.replicate_zero,List.push_toArray,List.append_toArray,List.nil_append,List.cons_append]
 gi_wp2_with fail
 refine⟨trivial,?_⟩;refine(qz8 (m-1) a n cap _).mono ?_;rintro e w' ⟨rfl,rfl⟩;have e2:w.heap.size+1+1=w.heap.size+2:=rfl;have e3:w.heap.size+1+1+1=w.heap.size+3:=rfl;have e4:w.heap.size+1+1+1+1=w.heap.size+4:=rfl;obtain⟨w0,hw0⟩:∃ w0,w0=w.alloc (.cells #[.slice none 0 0] 123):=⟨_,rfl⟩
 obtain⟨w1,hw1⟩:∃ w1,w1=w0.alloc (.cells #[.int .i64 0] 3):=⟨_,rfl⟩
 obtain⟨w2,hw2⟩:∃ w2,w2=w1.alloc (.cells #[.int .i64 0] 30):=⟨_,rfl⟩
 obtain⟨w3,hw3⟩:∃ w3,w3=w2.alloc (.cells #[.slice none 0 0] 123):=⟨_,rfl⟩
 obtain⟨W0,hW0⟩:∃ W0,W0=w3.alloc (.cells #[.slice a n cap] 22):=⟨_,rfl⟩
 have z0:w0.heap.size=w.heap.size+1:=by rw[hw0];simp
 have z1:w1.heap.size=w.heap.size+2:=by rw[hw1];simp[z0]
 have z2:w2.heap.size=w.heap.size+3:=by rw[hw2];simp[z1]
 have z3:w3.heap.size=w.heap.size+4:=by rw[hw3];simp[z2]
 have z4:W0.heap.size=w.heap.size+5:=by rw[hW0];simp[z3]
 have b0:Boxed W0 w.heap.size 123 (.slice none 0 0):=by
  rw[hW0,hw3,hw2,hw1,hw0];exact((((Boxed.new w _ _).alloc _).alloc _).alloc _).alloc _
 have b1:Boxed W0 (w.heap.size+1) 3 (.int .i64 0):=by
  rw[← z0,hW0,hw3,hw2,hw1];exact(((Boxed.new w0 _ _).alloc _).alloc _).alloc _
 have b2:Boxed W0 (w.heap.size+2) 30 (.int .i64 0):=by
  rw[← z1,hW0,hw3,hw2];exact((Boxed.new w1 _ _).alloc _).alloc _
 have b3:Boxed W0 (w.heap.size+3) 123 (.slice none 0 0):=by
  rw[← z2,hW0,hw3];exact(Boxed.new w2 _ _).alloc _
 have b4:Boxed W0 (w.heap.size+4) 22 (.slice a n cap):=by
  rw[← z3,hW0];exact Boxed.new w3 _ _
 have hB0:Below w.heap.size w W0:=by
  rw[hW0,hw3,hw2,hw1,hw0];refine(((((Below.refl _ w).alloc (Nat.le_refl _) _).alloc ?_ _).alloc ?_ _).alloc ?_ _).alloc ?_ _ <;> (simp;try omega)
 have hgl1:=hG;obtain⟨⟨t1,p1,g1⟩,t2,p2,g2⟩:=hgl1;have hinv:ItInv (w.heap.size+3) w.heap.size (w.heap.size+5) (w.heap.size+4) 22 a n cap l W0:=by
  refine⟨hT.below hB0 (Nat.le_refl _),?_,hG.below hB0 (Nat.le_refl _),⟨World.block_lt_of_cell? w _ g1,World.block_lt_of_cell? w _ g2⟩,b4,by omega,?_⟩
  ·rintro x rfl h0;obtain⟨hl,_,_,⟨h,_⟩|⟨y,hy,hx⟩⟩:=hT
   ·cases h
   ·cases hy;have:=World.block_lt_of_cell? w _ (hx 0 (by omega))
    rwa [q2X] at this
  ·intro g hg;unfold qiK at hg;rw[b3.cell] at hg;cases hg
 have hEQ:((((w.alloc (Obj.cells #[Value.slice none 0 0] 123)).alloc (Obj.cells #[Value.int IntKind.i64 0] 3)).alloc (Obj.cells #[Value.int IntKind.i64 0] 30)).alloc (Obj.cells #[Value.slice none 0 0] 123))=w3:=by rw[hw3,hw2,hw1,hw0]
 rw[hEQ,← hW0,z3];clear hEQ hW0 hw3 hw2 hw1 hw0 z0 z1 z2 z3 g1 g2 b4;rw[e3,e2];have hwr:∀ k,(w.heap.size≤k∧k<w.heap.size+4)→w.heap.size≤k∧k<w.heap.size+5:=fun k h=>⟨h.1,by omega⟩
 have hst:=qoD (m-1) (fun k=>w.heap.size≤k∧k<w.heap.size+4) (w.heap.size+3) w.heap.size (w.heap.size+5) (w.heap.size+4) a n cap l W0 (by omega) hF hinv hwr (by omega) (by omega) (by omega) (by omega);clear hinv
 gi_wp2_with fail
 have sf:∀ (p:Addr) (b:Nat) (mo:Mode) (w':World),(store p (.float .f64 b) mo).run Tryz.prog w'=stored Tryz.prog w' p (.float .f64 b) mo:=fun p b mo w'=>run_store _ w' p _ mo rfl;have hmx:Tryz.prog.follows .mixedOrders=true:=by kernel_rfl
 have hlx:Tryz.prog.follows .lateStores=true:=by kernel_rfl
 have hBx:∀ (x:Tok × Nat) (Bx:Nat) (X Y:World) (row:Option Nat),X.heap[Bx]?=some (.cells (qbG x.1).toArray 158 (0,0))→X.grownBy Y row→(∀ r,row=some r→∃ o:Obj,X.heap[r]?=some o∧o.isCells=false)→Y.heap[Bx]?=some (.cells (qbG x.1).toArray 158 (0,0)):=by
  intro x Bx X Y row h hg hr;refine(hg.block Bx (Array.getElem?_eq_some_iff.1 h).1 (fun e=>?_)).trans h;obtain⟨o,ho,hc⟩:=hr Bx e.symm;rw[h] at ho;cases ho;cases hc
 refine wpIn_rangeFunc_ownH rfl h1 (gf:=130) (lb:=#[.pointer (some ⟨w.heap.size+4,0,none⟩)]) rfl trivial (enters_of Tryz.func130 (by kernel_rfl) rfl)
  hst (fun h k=>h.trans k) (Kq.put (by omega)) (Below.refl _ _) (fun _=>rfl)
  (jd5 w.heap.size w) (jd4 w.heap.size w)
  (OwnFrom.and (OwnFrom.and (ownFrom_pure _ _) (OwnFrom.and (OwnFrom.and (Own.from (boxed_own _ _ _) _) (Own.from (boxed_own _ _ _) _)) (Own.from (boxed_own _ _ _) _)))
   (OwnFrom.and (Own.from (holdsRow_own w.heap.size (w.heap.size+3) 123 158 6 (fun pre=>pre.length) qmV (fun _ _=>True)) _) (ownFrom_below (Nat.le_refl _) (by omega))))
  ?hIx ?h0
  (fun x a' W=>∃ Bx,w.heap.size+3<Bx∧W.heap[Bx]?=some (.cells (qbG x.1).toArray 158 (0,0))∧a'={ tmps:=#[.slice a n cap,undef,.pointer (some ⟨w.heap.size,0,none⟩),.pointer (some ⟨w.heap.size+1,0,none⟩),.pointer (some ⟨w.heap.size+2,0,none⟩),.pointer (some ⟨w.heap.size+3,0,none⟩),.pointer (some ⟨Bx,0,none⟩),.int .i64 x.2,.slice a n cap,.func (.func 130) #[] #[.pointer (some ⟨w.heap.size+4,0,none⟩)],qk6 x.1,.int .i64 x.2,undef,undef,undef,undef,undef,undef,undef,undef,undef,undef],defers:=[] })
  (fun x a' _ X Y row hs hg hr=>by obtain⟨Bx,h1,h2,h3⟩:=hs;exact⟨Bx,h1,hBx x Bx X Y row h2 hg (fun r e=>(hr r e).2),h3⟩)
  ?assign ?body ?done ?stop
 case hIx =>
  rintro c pre X Y row ⟨⟨p,x,rfl,rfl,h1,h2,⟨h3,h4⟩,h5⟩,h6⟩ hg hr;have hr':∀ r,row=some r→∃ o:Obj,X.heap[r]?=some o∧o.isCells=false:=fun r e=>(hr r e).2;exact⟨⟨p,x,rfl,rfl,h1,h2,⟨cell_kept h3 hg hr',cell_kept h4 hg hr'⟩,cell_kept h5 hg hr'⟩,ownFrom_below (β:=Unit) (Nat.le_refl _) (by omega) () X Y row h6 hg hr⟩
 case h0 =>
  exact⟨⟨by simp,⟨b0,b1⟩,b2⟩,⟨_,b3,World.ownsRow_nil _ _ _ _,trivial⟩,hB0⟩
 case assign =>
  rintro lw pre ⟨⟨kd,tx,iv,rl,at_,sz⟩,er⟩ W K hI hK;obtain⟨⟨hz,⟨c0,c1⟩,c2⟩,⟨v,c3,hrow,_⟩,hB⟩:=hI;simp only[jc5,qk6];have HK:=hid hK;clear hK
  gi_wp2_with fail
  have hb:=(Below.refl W.heap.size W).alloc (Nat.le_refl _) (.cells (qbG ⟨kd,tx,iv,rl,at_,sz⟩).toArray 158);refine HK.out _ _ ((KeepsOthers.alloc _ _).from _) (Kq.of_below hb c3.lt) ⟨⟨hz,⟨c0.alloc _,c1.alloc _⟩,c2.alloc _⟩,⟨v,c3.alloc _,hrow.alloc _,trivial⟩,hB.alloc hB.size _⟩ ⟨W.heap.size,c3.lt,heap_alloc_new W _,rfl⟩
 case body =>
  rintro lw pre ⟨⟨kd,tx,iv,rl,at_,sz⟩,er⟩ a' W hlw _ hI ⟨Bx,hBx1,hcx,rfl⟩ hlt;obtain⟨⟨hz,⟨c0,c1⟩,c2⟩,⟨v,c3,hrow,_⟩,hB⟩:=hI;simp only[qk6];have hlen:pre.length<32769:=Nat.lt_of_lt_of_le hlt (q5U l);have hml:32769≤maxLen:=by decide
  by_cases her:er=0
  ·subst her;have d3:=c3.cell;have x0:W.cell? ⟨Bx,0,none⟩=some (.int .i64 kd):=by simp[World.cell?,hcx,qbG]
   have x1:W.cell? ⟨Bx,1,none⟩=some (.string ⟨tx.toArray⟩):=by simp[World.cell?,hcx,qbG]
   have x2:W.cell? ⟨Bx,2,none⟩=some (.int .i64 iv):=by simp[World.cell?,hcx,qbG]
   have x3:W.cell? ⟨Bx,3,none⟩=some (.float .f64 rl):=by simp[World.cell?,hcx,qbG]
   have x4:W.cell? ⟨Bx,4,none⟩=some (.int .i64 at_):=by simp[World.cell?,hcx,qbG]
   have x5:W.cell? ⟨Bx,5,none⟩=some (.int .i64 sz):=by simp[World.cell?,hcx,qbG]
   have hz0':((0:Nat):Int)=0:=rfl;have hall:∀ u ∈ qbG ⟨kd,tx,iv,rl,at_,sz⟩,u.oneCell'=true:=by intro u hu;simp[qbG] at hu;rcases hu with rfl|rfl|rfl|rfl|rfl|rfl <;> rfl
   have hdm:decide (123=158)=false:=rfl
   gi_wp2_with (gi_at_builtin;refine wpListIn_append_own_at _ rfl _ _ 123 rfl w.heap.size 158 i0 (.agg #[.int .i64 0,.string ByteArray.empty,.int .i64 0,.float .f64 0,.int .i64 0,.int .i64 0]) 6 56 Tryz.underlying123 hi hz0 hz1 hz2 rfl (by decide) _ _ _ rfl (hrow.alloc _) ⟨W.heap.size,0,none⟩ 1 1 (qbG ⟨kd,tx,iv,rl,at_,sz⟩) rfl rfl (qfF W _ _) hall (by omega) (by omega) (by have:=hB.size;simp;omega) ?_;intro v' w4 hown' hgrow _ hnew;obtain⟨g',cap',rfl⟩:=ownsRow_succ hown';obtain⟨hv1,hv2,hr2,hk2,hb2⟩:=c3.appended (by decide) hrow hB.size (Nat.le_add_right _ _) hown' hgrow;have hc1:=hv1.cell;have hf1:=hv1.frozen)
   have hlt':∀ g,(Value.slice (some ⟨g',0,none⟩) (pre.length+1) cap').ownBlock=some g→g<w4.heap.size:=fun g hg=>(hown'.lt g hg).2;have hkq:Kq (fun k=>w.heap.size≤k∧k<w.heap.size+4) (w.heap.size+3) W (w4.setCell ⟨w.heap.size+3,0,none⟩ (.slice (some ⟨g',0,none⟩) (pre.length+1) cap')) :=
    Kq.appended c3 ⟨by omega,by omega⟩ hv1 hgrow hnew hlt'
   have k0:=((c0.alloc _).kept hgrow (c0.not_row (by decide) hrow)).other (B':=w.heap.size+3) (by omega) (.slice (some ⟨g',0,none⟩) (pre.length+1) cap');have k1:=((c1.alloc _).kept hgrow (c1.not_row (by decide) hrow)).other (B':=w.heap.size+3) (by omega) (.slice (some ⟨g',0,none⟩) (pre.length+1) cap');have k2:=((c2.alloc _).kept hgrow (c2.not_row (by decide) hrow)).other (B':=w.heap.size+3) (by omega) (.slice (some ⟨g',0,none⟩) (pre.length+1) cap');refine⟨hk2.from _,hkq,⟨?_,⟨k0,k1⟩,k2⟩,⟨_,hv2,by rw[qxV,List.length_append];exact hr2,trivial⟩,hB.trans hb2⟩;intro x hx;rcases List.mem_append.1 hx with h|h
   ·exact hz x h
   ·simp at h;rw[h]
  ·have hz3:((er:Int) != 0)=true:=by rw[bne_iff_ne];omega
   have hz1:((er:Int)==0)=false:=by rw[beq_eq_false_iff_ne];omega
   have hz2:(er==0)=false:=by rw[beq_eq_false_iff_ne];exact her
   have hz4:(er != 0)=true:=by rw[bne_iff_ne];exact her
   have x4:W.cell? ⟨Bx,4,none⟩=some (.int .i64 at_):=by simp[World.cell?,hcx,qbG]
   have d0:=c0.cell;have d1:=c1.cell;have d2:=c2.cell;have f0:=c0.frozen;have f1:=c1.frozen;have f2:=c2.frozen;have hkk:KeepsFrom W0.heap.size W (((W.setCell ⟨w.heap.size,0,none⟩ (.slice none 0 0)).setCell ⟨w.heap.size+1,0,none⟩ (.int .i64 at_)).setCell ⟨w.heap.size+2,0,none⟩ (.int .i64 er)).drew :=
    ((((KeepsOthers.setCell _ _ _).trans (KeepsOthers.setCell _ _ _)).trans (KeepsOthers.setCell _ _ _)).trans (KeepsOthers.drew _)).from _
   have hb:Below w.heap.size w (((W.setCell ⟨w.heap.size,0,none⟩ (.slice none 0 0)).setCell ⟨w.heap.size+1,0,none⟩ (.int .i64 at_)).setCell ⟨w.heap.size+2,0,none⟩ (.int .i64 er)) :=
    ((hB.setCell (p:=⟨w.heap.size,0,none⟩) (by simp) _).setCell (p:=⟨w.heap.size+1,0,none⟩) (by simp) _).setCell (p:=⟨w.heap.size+2,0,none⟩) (by simp) _
   have g0:=(((c0.set (.slice none 0 0)).other (B':=w.heap.size+1) (by omega) (.int .i64 at_)).other (B':=w.heap.size+2) (by omega) (.int .i64 er)).cell;have g1:=(((c1.other (B':=w.heap.size) (by omega) (.slice none 0 0)).set (.int .i64 at_)).other (B':=w.heap.size+2) (by omega) (.int .i64 er)).cell;have g2:=(((c2.other (B':=w.heap.size) (by omega) (.slice none 0 0)).other (B':=w.heap.size+1) (by omega) (.int .i64 at_)).set (.int .i64 er)).cell;have HKK:=hid hkk;have HBB:=hid hb;have HG0:=hid g0;have HG1:=hid g1;have HG2:=hid g2;clear hkk hb g0 g1 g2
   gi_wp2
   gi_region_with_o fail
   all_goals gi_wp2
   all_goals exact⟨HKK.out,⟨pre,(⟨kd,tx,iv,rl,at_,sz⟩,er),rfl,rfl,hz,her,⟨HG0.out,HG1.out⟩,HG2.out⟩,HBB.out.drew⟩
 case done =>
  rintro D ys W hD rfl ⟨⟨hz,⟨c0,c1⟩,c2⟩,⟨v,c3,hrow,_⟩,hB⟩ hK;obtain⟨va,vn,vc,rfl⟩:∃ va vn vc,v=.slice va vn vc:=by rcases hrow.2 with ⟨rfl,_⟩|⟨g,cap,cur,rfl,_⟩ <;> exact⟨_,_,_,rfl⟩
  have d0:=c0.cell;have d1:=c1.cell;have d2:=c2.cell;have d3:=c3.cell;have f0:=c0.frozen;have f1:=c1.frozen;have f2:=c2.frozen;obtain⟨w4,hw4⟩:∃ w4,w4=((W.setCell ⟨w.heap.size,0,none⟩ (.slice va vn vc)).setCell ⟨w.heap.size+1,0,none⟩ (.int .i64 0)).setCell ⟨w.heap.size+2,0,none⟩ (.int .i64 0):=⟨_,rfl⟩
  have hK4:w4.heap[D]?=some (.deferred (some [])):=by
   rw[hw4];exact(((KeepsOthers.setCell _ _ _).trans (KeepsOthers.setCell _ _ _)).trans (KeepsOthers.setCell _ _ _)).same D _ hK rfl
  have hb4:Below w.heap.size w w4:=by
   rw[hw4];exact((hB.setCell (p:=⟨w.heap.size,0,none⟩) (by simp) _).setCell (p:=⟨w.heap.size+1,0,none⟩) (by simp) _).setCell (p:=⟨w.heap.size+2,0,none⟩) (by simp) _
  have g0:w4.cell? ⟨w.heap.size,0,none⟩=some (.slice va vn vc):=by
   rw[hw4];exact(((c0.set (.slice va vn vc)).other (B':=w.heap.size+1) (by omega) (.int .i64 0)).other (B':=w.heap.size+2) (by omega) (.int .i64 0)).cell
  have g1:w4.cell? ⟨w.heap.size+1,0,none⟩=some (.int .i64 0):=by
   rw[hw4];exact(((c1.other (B':=w.heap.size) (by omega) (.slice va vn vc)).set (.int .i64 0)).other (B':=w.heap.size+2) (by omega) (.int .i64 0)).cell
  have g2:w4.cell? ⟨w.heap.size+2,0,none⟩=some (.int .i64 0):=by
   rw[hw4];exact(((c2.other (B':=w.heap.size) (by omega) (.slice va vn vc)).other (B':=w.heap.size+1) (by omega) (.int .i64 0)).set (.int .i64 0)).cell
  have hr4:w4.ownsRow w.heap.size 158 6 (.slice va vn vc) (qfH l).length (qmV (qfH l)):=by
   have h1:=hrow.kept (grownBy_setCell' W w.heap.size (.slice va vn vc)) (.inr (c0.not_row (by decide) hrow).symm);have q1:=c1.other (B':=w.heap.size) (by omega) (.slice va vn vc);have h2:=h1.kept (grownBy_setCell' _ (w.heap.size+1) (.int .i64 0)) (.inr (q1.not_row (by decide) h1).symm);have q2:=(c2.other (B':=w.heap.size) (by omega) (.slice va vn vc)).other (B':=w.heap.size+1) (by omega) (.int .i64 0);rw[hw4];exact h2.kept (grownBy_setCell' _ (w.heap.size+2) (.int .i64 0)) (.inr (q2.not_row (by decide) h2).symm)
  have HW4:=hid hw4;have HK4:=hid hK4;have HG0:=hid g0;have HG1:=hid g1;have HG2:=hid g2;have HR4:=hid hr4;have HB4:=hid hb4;clear hw4 hK4 g0 g1 g2 hr4 hb4
  gi_wp2
  rw[← HW4.out];refine⟨by simp,.inl ⟨_,_,rfl,run_takeDeferred HK4.out,?_⟩⟩;have hh:∀ r,some D=some r→∃ o:Obj,w4.heap[r]?=some o∧o.isCells=false:=fun r e=>by cases e;exact⟨_,HK4.out,rfl⟩
  have k0:=cell_kept HG0.out (grownBy_putObj' w4 D (.deferred none)) hh;have k1:=cell_kept HG1.out (grownBy_putObj' w4 D (.deferred none)) hh;have k2:=cell_kept HG2.out (grownBy_putObj' w4 D (.deferred none)) hh;refine⟨.tuple #[.slice va vn vc,.int .i64 0,.int .i64 0],?_,HB4.out.trans (belowK_b (w:=w) (Nat.le_refl _) w4 D _ _ (by omega) HK4.out rfl rfl),.inl ⟨_,rfl,hz,ownsRow_putObj HR4.out _ HK4.out rfl⟩⟩;simp[results,Tryz.f64,go_sem,k0,k1,k2]
 case stop =>
  rintro D c pre W hD hpre ⟨⟨p,x,rfl,rfl,hz,hne,⟨c0,c1⟩,c2⟩,hB⟩ hK
  gi_wp2
  refine⟨by simp,.inl ⟨_,_,rfl,run_takeDeferred hK,?_⟩⟩;have hh:∀ r,some D=some r→∃ o:Obj,W.heap[r]?=some o∧o.isCells=false:=fun r e=>by cases e;exact⟨_,hK,rfl⟩
  have k0:=cell_kept c0 (grownBy_putObj' W D (.deferred none)) hh;have k1:=cell_kept c1 (grownBy_putObj' W D (.deferred none)) hh;have k2:=cell_kept c2 (grownBy_putObj' W D (.deferred none)) hh;refine⟨.tuple #[.slice none 0 0,.int .i64 x.1.at_,.int .i64 x.2],?_,hB.trans (belowK_b (w:=w) (Nat.le_refl _) W D _ _ (by omega) hK rfl rfl),.inr ⟨p,x,?_⟩⟩
  ·simp[results,Tryz.f64,go_sem,k0,k1,k2]
  ·obtain⟨r,hr⟩:=hpre;exact⟨r,by rw[← hr];simp,hz,hne,rfl⟩
end Go.Proofs.YtenlhcgpajphhaaGreatDoor
