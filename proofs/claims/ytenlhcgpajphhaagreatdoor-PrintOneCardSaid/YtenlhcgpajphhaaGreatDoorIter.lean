import Derived.Test.YtenlhcgpajphhaaGreatDoorRows
import Derived.Test.YtenlhcgpajphhaaGreatDoorMNextPlain
import Derived.Test.YtenlhcgpajphhaaGreatDoorMVReal
import Derived.RangeFuncNested
import Derived.RangeFuncBound
import Derived.RangeFuncCalls
import Derived.RangeFuncLeaves
import Derived.RangeFuncFrom
import Derived.Shelf.Abstract
import Derived.Shelf.RegionOpen
import Derived.WalkKit
import Derived.OwnWalkIn
import Derived.TacticsInMore
import Derived.LoopNIn
import Derived.LoopIn
import Derived.Lib.Hide
namespace Go.Proofs.YtenlhcgpajphhaaGreatDoor
open Go.RowKit Go.Shelf
open Lib(hid)
set_option linter.all false
set_option maxHeartbeats 2000000
attribute [local go_sem] Oper.semAt_some
set_option maxRecDepth 100000
def jc5 (x:Tok × Nat):Array Value:=#[qk6 x.1,.int .i64 x.2]
theorem qqG (m:Nat) (Ball n₀ nb Bn:Nat) (a:Option Addr) (n cap:Nat) (l:List UInt8) (lw:Nat) (J Jx:List (Tok × Nat)→World→Prop) (Kp:World→World→Prop) (W:World) (hm:1≤m)
  (hinv:ItInv Ball n₀ nb Bn 22 a n cap l W) (hlong:32768<n)
  (hY:∀ pre x W1,J pre W1→pre.length<(qfH l).length→YieldAt Fence.wide (m-1) Tryz.prog lw (jc5 x) W1 fun e W' =>
   (e=.returned (.bool true)∧J (pre++[x]) W'∧Kp W1 W')∨(e=.returned (.bool false)∧Jx (pre++[x]) W')) (h0:J [] W) :
  CallsIn Fence.wide m Tryz.prog 130 #[.func (.yield lw) #[] #[],.pointer (some ⟨Bn,0,none⟩)] W fun e W'=>(∃ v,e=.returned v) ∧
   ((∃ xs,xs=qfH l∧J xs W')∨∃ pre,pre <+: qfH l∧Jx pre W'):=by
 have hl:=hinv.txt.1;have hall:qfH l=[(qcY,3)]:=by unfold qfH;rw[if_pos (by omega)]
 have hbc:=hinv.box.cell;obtain⟨fn,tmps,assign,body,hy,hR⟩:=hY [] (qcY,3) W h0 (by rw[hall];simp);have hy':(Instr.yield lw #[.agg #[.int .i64 0,.string ⟨#[]⟩,.int .i64 0,.float .f64 0,.int .i64 0,.int .i64 0],.int .i64 3]).run Tryz.prog W=.ok (.round lw fn tmps assign body) W:=hy;have HR:=hid hR;have HA:=hid hall;have hd:decide ((32768:Int)<(n:Int))=true:=by simp;omega
 clear hY hR hy hall hl;refine callsIn_of_wp Tryz.func130 rfl trivial ?_ rfl;simp only[Tryz.ntmps130,List.size_toArray,List.length_cons,List.length_nil,Nat.reduceAdd,Nat.reduceSub,Array.replicate_succ,Array.replicate_zero,List.push_toArray,List.append_toArray,List.nil_append,List.cons_append]
 gi_wp2
 refine HR.out.mono ?_;rintro e W3 (⟨rfl,hJ3,hk3⟩|⟨rfl,hJx3⟩)
 ·gi_wp2
  refine bodyPost_ret (results_none rfl _ _ _) rfl ?_;exact⟨⟨_,rfl⟩,.inl ⟨_,rfl,by rw[HA.out];exact hJ3⟩⟩
 ·gi_wp2
  refine bodyPost_ret (results_none rfl _ _ _) rfl ?_;exact⟨⟨_,rfl⟩,.inr ⟨_,by rw[HA.out];exact List.prefix_refl _,hJx3⟩⟩
theorem q3Y {f:Nat} {l:List UInt8} {i:Nat} (h:(qbV l i).2≠0):qjH (f+1) l i=[qbV l i]:=by rw[qjH,if_pos h]
theorem q3X {f:Nat} {l:List UInt8} {i:Nat} (h:(qbV l i).2=0) (hk:(qbV l i).1.kind=0):qjH (f+1) l i=[]:=by rw[qjH,if_neg (fun e=>e h),if_pos hk]
theorem q80 {f:Nat} {l:List UInt8} {i:Nat} (h:(qbV l i).2=0) (hk:(qbV l i).1.kind≠0):qjH (f+1) l i=qbV l i :: qjH f l ((qbV l i).1.at_+(qbV l i).1.size):=by rw[qjH,if_neg (fun e=>e h),if_neg hk]
theorem qoE (m:Nat) (Wr:Nat→Prop) (Ball n₀ nb Bn:Nat) (a:Option Addr) (n cap:Nat) (l:List UInt8) (lw:Nat) (J Jx:List (Tok × Nat)→World→Prop) (W:World) (hm:1≤m) (hF:qg9)
  (hinv:ItInv Ball n₀ nb Bn 22 a n cap l W) (hshort:n≤32768) (hWr:∀ k,Wr k→n₀≤k∧k<nb) (hBw:¬ Wr Bn) (hn0:n₀≤nb) (hBn:Bn<nb) (hBl:Ball<nb) (hJ:AbidesFrom W.heap.size J)
  (hY:∀ pre x W1,J pre W1→pre.length<(qfH l).length→YieldAt Fence.wide (m-1) Tryz.prog lw (jc5 x) W1 fun e W' =>
   (e=.returned (.bool true)∧J (pre++[x]) W'∧Kq Wr Ball W1 W')∨(e=.returned (.bool false)∧Jx (pre++[x]) W')) (h0:J [] W) :
  CallsIn Fence.wide m Tryz.prog 130 #[.func (.yield lw) #[] #[],.pointer (some ⟨Bn,0,none⟩)] W fun e W'=>(∃ v,e=.returned v) ∧
   ((∃ xs,xs=qfH l∧J xs W')∨∃ pre,pre <+: qfH l∧Jx pre W'):=by
 have hl:=hinv.txt.1;have hall:qfH l=qjH (l.length+1) l 0:=by unfold qfH;rw[if_neg (by omega)]
 have hbc:=hinv.box.cell;have sf:∀ (p:Addr) (b:Nat) (mo:Mode) (w':World),(store p (.float .f64 b) mo).run Tryz.prog w'=stored Tryz.prog w' p (.float .f64 b) mo:=fun p b mo w'=>run_store _ w' p _ mo rfl;have HF:=hid hF;have HINV:=hid hinv;have HALL:=hid hall;have HWR:=hid hWr;have HBW:=hid hBw;have HJ:=hid hJ;have HY:=hid hY;have H0:=hid h0;have HL:=hid hl;clear hF hinv hall hWr hBw hJ hY h0 hl;refine callsIn_of_wp Tryz.func130 rfl trivial ?_ rfl;simp only[Tryz.ntmps130,List.size_toArray,List.length_cons,List.length_nil,Nat.reduceAdd,Nat.reduceSub,Array.replicate_succ,Array.replicate_zero,List.push_toArray,List.append_toArray,List.nil_append,List.cons_append];have hd:decide ((32768:Int)<(n:Int))=false:=by simp;omega
 gi_wp2
 gi_loopw [3] (fun i wr=>∃ (k f:Nat) (pre:List (Tok × Nat)),i=.int .i64 k∧k≤n∧n+1≤k+f∧qfH l=pre++qjH f l k∧J pre wr∧ItInv Ball n₀ nb Bn 22 a n cap l wr∧W.heap.size≤wr.heap.size)
  (fun i wr=>n-(intOf i).toNat)
 case atStart =>
  exact⟨0,l.length+1,[],rfl,Nat.zero_le _,by rw[HL.out];omega,by rw[HALL.out];rfl,H0.out,HINV.out,Nat.le_refl _⟩
 case round =>
  obtain⟨k,f,pre,rfl,hk,hf,hx,hJs,hinv,hsz⟩:=hrel;have hbox:=hinv.box.cell;obtain⟨f',rfl⟩:∃ f',f=f'+1:=⟨f-1,by omega⟩
  have hnext:=q4N a n cap k l wr HF.out hinv.txt (by omega) hk hinv.glob;have hon:=q11 (l:=l) (i:=k) (by rw[HL.out];exact hk);have hbad:=qt5 (l:=l) (i:=k) (by rw[HL.out];exact hk);obtain⟨x,hxx⟩:∃ x,qbV l k=x:=⟨_,rfl⟩
  have q1:=@q3Y f' l k;have q2:=@q3X f' l k;have q3:=@q80 f' l k;rw[hxx] at hnext hon hbad q1 q2 q3;obtain⟨⟨kd,tx,iv,rl,at_,sz⟩,er⟩:=x;have HNX:Hid (Calls Tryz.prog 131 #[.slice a n cap,.int .i64 k] wr fun e w'=>e=.returned (.tuple #[.agg #[.int .i64 kd,.string ⟨tx.toArray⟩,.int .i64 iv,.float .f64 rl,.int .i64 at_,.int .i64 sz],.int .i64 er])∧Below wr.heap.size wr w'):=hnext;have HI:=hid hinv;have HX:=hid hx;have HJS:=hid hJs;have HON:=hid hon;have HBAD:=hid hbad;have Q1:=hid q1;have Q2:=hid q2;have Q3:=hid q3;clear hnext hinv hx hJs hon hbad q1 q2 q3 hxx
  gi_wp2_with fail
  refine⟨trivial,?_⟩;refine(callsIn_wide.2 HNX.out).mono ?_;rintro e w1 ⟨rfl,hb1⟩;have hz1:=hb1.size;obtain⟨w2,hw2⟩:∃ w2,w2=w1.alloc (Obj.cells #[Value.int IntKind.i64 kd,Value.string { data:=tx.toArray },Value.int IntKind.i64 iv,Value.float FloatKind.f64 rl,Value.int IntKind.i64 at_,Value.int IntKind.i64 sz] 158):=⟨_,rfl⟩
  have hb2:Below wr.heap.size wr w2:=by rw[hw2];exact hb1.alloc hz1 _
  have hJ2:J pre w2:=HJ.out pre wr w2 none HJS.out (qkL hb2) (fun r e=>by cases e);have hI2:=HI.out.grow hb2 hBl hBn;have HW2:=hid hw2;have HB2:=hid hb2;have HJ2:=hid hJ2;have HI2:=hid hI2;clear hb1 hb2 hJ2 hI2 hw2;by_cases her:er=0
  ·by_cases hkd:kd=0
   ·
    subst her hkd;have hend:qfH l=pre:=by rw[HX.out,Q2.out rfl rfl,List.append_nil]
    have HEND:=hid hend;have hz0:((0:Nat):Int)=0:=rfl;clear hend;have hw2':w2=w1.alloc (Obj.cells #[Value.int IntKind.i64 0,Value.string { data:=tx.toArray },Value.int IntKind.i64 iv,Value.float FloatKind.f64 rl,Value.int IntKind.i64 at_,Value.int IntKind.i64 sz] 158):=HW2.out;have HW3:=hid hw2';clear hw2'
    gi_wp2_with fail
    rw[← HW3.out];refine bodyPost_ret (results_none rfl _ _ _) rfl ?_;exact⟨⟨_,rfl⟩,.inl ⟨_,HEND.out.symm,HJ2.out⟩⟩
   ·subst her;have hz1:((kd:Int)==0)=false:=by rw[beq_eq_false_iff_ne];omega
    have hz2:(kd==0)=false:=by rw[beq_eq_false_iff_ne];exact hkd
    have hlen:pre.length<(qfH l).length:=by rw[HX.out,Q3.out rfl hkd];simp
    obtain⟨fn,tmps,assign,body,hy,hR⟩:=HY.out pre (⟨kd,tx,iv,rl,at_,sz⟩,0) w2 HJ2.out hlen;have hy':(Instr.yield lw #[.agg #[.int .i64 kd,.string ⟨tx.toArray⟩,.int .i64 iv,.float .f64 rl,.int .i64 at_,.int .i64 sz],.int .i64 0]).run Tryz.prog w2=.ok (.round lw fn tmps assign body) w2:=hy;have HR:=hid hR;have hxn:qfH l=(pre++[(⟨kd,tx,iv,rl,at_,sz⟩,0)])++qjH f' l (at_+sz):=by rw[HX.out,Q3.out rfl hkd];simp
    have HXN:=hid hxn;obtain⟨g1,g2,g3⟩:=HON.out rfl hkd
    try simp only at g1 g2 g3
    have g2':at_+sz≤n:=by rw[HL.out] at g2;exact g2
    clear hR hy hlen hxn hkd g2;rw[HW2.out] at hy'
    gi_wp2_with fail
    rw[← HW2.out];refine HR.out.mono ?_;rintro e W3 (⟨rfl,hJ3,hk3⟩|⟨rfl,hJx3⟩)
    ·have hI3:=HI2.out.kq hk3 (fun k h=>(HWR.out k h).1) HBW.out hn0 hBn;have hbx:W3.heap[w1.heap.size]?=some (.cells #[.int .i64 kd,.string ⟨tx.toArray⟩,.int .i64 iv,.float .f64 rl,.int .i64 at_,.int .i64 sz] 158 (0,0)):=by
      refine hk3.same _ _ (by rw[HW2.out];exact heap_alloc_new w1 _) rfl (fun h=>?_) (fun h=>?_)
      ·have:=(HWR.out _ h).2;have:=HI.out.size;omega
      ·rw[qhB (HB2.out.block Ball (by have:=HI.out.size;omega))] at h;have:=(HI.out.row _ h).2;omega
     have c4:W3.cell? ⟨w1.heap.size,4,none⟩=some (.int .i64 at_):=by simp[World.cell?,hbx]
     have c5:W3.cell? ⟨w1.heap.size,5,none⟩=some (.int .i64 sz):=by simp[World.cell?,hbx]
     have hs3:W.heap.size≤W3.heap.size:=by
      have h1:=HB2.out.size;have h2:=hk3.size;omega
     have HI3:=hid hI3;have HJ3:=hid hJ3;have HS3:=hid hs3;clear hI3 hbx hJ3 hk3 hs3
     gi_wp2
     go_roundw
     case rel=>exact⟨at_+sz,f',_,by go_num,g2',by omega,HXN.out,HJ3.out,HI3.out,HS3.out⟩
     case measure=>simp[intOf];omega
    ·have HJX:=hid hJx3;clear hJx3
     gi_wp2
     refine bodyPost_ret (results_none rfl _ _ _) rfl ?_;exact⟨⟨_,rfl⟩,.inr ⟨_,⟨_,HXN.out.symm⟩,HJX.out⟩⟩
  ·have hkd:kd=0:=HBAD.out her;subst hkd;have hz1:((er:Int)==0)=false:=by rw[beq_eq_false_iff_ne];omega
   have hz2:(er==0)=false:=by rw[beq_eq_false_iff_ne];exact her
   have hz3:((er:Int) != 0)=true:=by rw[bne_iff_ne];omega
   have hz4:(er != 0)=true:=by rw[bne_iff_ne];exact her
   have hlen:pre.length<(qfH l).length:=by rw[HX.out,Q1.out her];simp
   obtain⟨fn,tmps,assign,body,hy,hR⟩:=HY.out pre (⟨0,tx,iv,rl,at_,sz⟩,er) w2 HJ2.out hlen;have hy':(Instr.yield lw #[.agg #[.int .i64 0,.string ⟨tx.toArray⟩,.int .i64 iv,.float .f64 rl,.int .i64 at_,.int .i64 sz],.int .i64 er]).run Tryz.prog w2=.ok (.round lw fn tmps assign body) w2:=hy;have HR:=hid hR;have hxn:qfH l=pre++[(⟨0,tx,iv,rl,at_,sz⟩,er)]:=by rw[HX.out,Q1.out her]
   have HXN:=hid hxn;clear hR hy hlen hxn her;have hw2':w2=w1.alloc (Obj.cells #[Value.int IntKind.i64 0,Value.string { data:=tx.toArray },Value.int IntKind.i64 iv,Value.float FloatKind.f64 rl,Value.int IntKind.i64 at_,Value.int IntKind.i64 sz] 158):=HW2.out;have HW3:=hid hw2';rw[hw2'] at hy';clear hw2'
   gi_wp2_with fail
   rw[← HW3.out];refine HR.out.mono ?_;rintro e W3 (⟨rfl,hJ3,hk3⟩|⟨rfl,hJx3⟩)
   ·have HJ3:=hid hJ3;clear hJ3 hk3
    gi_wp2
    refine bodyPost_ret (results_none rfl _ _ _) rfl ?_;exact⟨⟨_,rfl⟩,.inl ⟨_,HXN.out.symm,HJ3.out⟩⟩
   ·have HJX:=hid hJx3;clear hJx3
    gi_wp2
    refine bodyPost_ret (results_none rfl _ _ _) rfl ?_;exact⟨⟨_,rfl⟩,.inr ⟨_,by rw[HXN.out];exact List.prefix_refl _,HJX.out⟩⟩
end Go.Proofs.YtenlhcgpajphhaaGreatDoor
