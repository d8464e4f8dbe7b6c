import Derived.Test.YtenlhcgpajphhaaGreatDoorMErSize
import Derived.Test.YtenlhcgpajphhaaGreatDoorMErRead
namespace Go.Proofs.YtenlhcgpajphhaaGreatDoor
open Go.RowKit Go.Shelf
open Lib(hid)
set_option maxRecDepth 100000
set_option linter.all false
set_option maxHeartbeats 8000000
def okM (n:Nd):Prop:=n.re=0∧n.im=0∧(n.vk=0∨∃ l,okL l=true∧n=leafN l)
theorem okM_leaf {l:Lf} (h:okL l=true):okM (leafN l):=by
 refine⟨?_,?_,.inr ⟨l,h,rfl⟩⟩ <;> cases l <;> rfl
theorem okM_pair (k a b:Int):okM (pairN k a b):=⟨rfl,rfl,.inl rfl⟩
theorem okM_lay:∀ (t:Ex) (o:Nat),WfT t→∀ n ∈ lay o t,okM n:=by
 intro t
 induction t with
 | lf l=>intro o h n hn;rcases List.mem_singleton.1 hn with rfl;exact okM_leaf h
 | un k a ih =>
  intro o h n hn;rcases List.mem_append.1 hn with hn|hn
  ·exact ih o h.2.2 n hn
  ·rcases List.mem_singleton.1 hn with rfl;exact okM_pair _ _ _
 | bi k a b iha ihb =>
  intro o h n hn;rcases List.mem_append.1 hn with hn|hn
  ·exact iha o h.2.2.1 n hn
  ·rcases List.mem_append.1 hn with hn|hn
   ·exact ihb _ h.2.2.2 n hn
   ·rcases List.mem_singleton.1 hn with rfl;exact okM_pair _ _ _
def okE (o:Option Ex):Prop:=∀ t,o=some t→WfT t∧cnt t≤64
theorem wexprs_some (ns:List Nd) (g1 g2 c1 c2 N:Nat) (hN:ns.length=N) (hN2:N≤1000000000) (hok:∀ n ∈ ns,okM n) (w:World) (h1:NodesAt w g1 ns) (h2:NodesAt w g2 ns) (hg1:g1<w.heap.size) (hg2:g2<w.heap.size) :
  Calls Tryz.prog 45 #[.agg #[.slice (some ⟨g1,0,none⟩) N c1],.agg #[.slice (some ⟨g2,0,none⟩) N c2]] w fun e w'=>e=.returned (.bool true)∧Below w.heap.size w w':=by
 have sf:=store_float;have sc:=store_cplx;have hz0:FloatKind.f64.format.order 0 0=some Ordering.eq:=by decide
 obtain⟨W0,hW0,ha,hb,hB,hsz⟩:=new2 w 41 [.slice (some ⟨g1,0,none⟩) N c1] [.slice (some ⟨g2,0,none⟩) N c2];have HW0:=hid hW0;have HA:=hid ha;have HB:=hid hb;have HBW:=hid hB;have HSZ:=hid hsz;have HN:=hid hN;have HOK:=hid hok;have H1:=hid (h1.keep hB hg1);have H2:=hid (h2.keep hB hg2);have a0:=ha.c 0 rfl;have b0:=hb.c 0 rfl;clear hW0 ha hb hB hN hok h1 h2;go_enter Tryz.func45,Tryz.ntmps45;go_upto_region 1 with (fail);rw[← HW0.out];go_wp2
 go_loopw [5] (fun i wr=>∃ k:Nat,i=.int .i64 k∧k≤N∧Hid (Below (w.heap.size+2) W0 wr)) (fun i _=>N-(intOf i).toNat)
 case atStart=>exact⟨0,rfl,Nat.zero_le _,hid (Below.refl _ _)⟩
 case round =>
  obtain⟨k,rfl,hk,HBR⟩:=hrel;have a0:=(HA.out.keep HBR.out (by omega)).c 0 rfl;have b0:=(HB.out.keep HBR.out (by omega)).c 0 rfl;have hwr:w.heap.size+2≤wr.heap.size:=by have:=HBR.out.size;have:=HSZ.out;omega
  rcases Nat.lt_or_ge k N with hlt|hge
  ·have hkl:k<ns.length:=by rw[HN.out];exact hlt
   have HC1:=H1.out.keep HBR.out (by omega);have HC2:=H2.out.keep HBR.out (by omega);obtain⟨hre,him,hvk⟩:=HOK.out (ns.getD k default) (by rw[List.getD_eq_getElem?_getD,List.getElem?_eq_getElem hkl];exact List.getElem_mem hkl);generalize hn:ns.getD k default=n at *
   have HC1:∀ j v,(ndCells n)[j]?=some v→wr.cell? ⟨g1,k * 9+j,none⟩=some v:=fun j v hj=>HC1 k j v hkl (by rw[hn];exact hj);have HC2:∀ j v,(ndCells n)[j]?=some v→wr.cell? ⟨g2,k * 9+j,none⟩=some v:=fun j v hj=>HC2 k j v hkl (by rw[hn];exact hj);have x0:wr.cell? ⟨g1,k * 9,none⟩=some (.int .i64 n.k):=HC1 0 _ rfl;have x1:wr.cell? ⟨g1,k * 9+1,none⟩=some (.int .i64 n.a):=HC1 1 _ rfl;have x2:wr.cell? ⟨g1,k * 9+2,none⟩=some (.int .i64 n.b):=HC1 2 _ rfl;have x3:wr.cell? ⟨g1,k * 9+3,none⟩=some (.string n.nm):=HC1 3 _ rfl;have x4:wr.cell? ⟨g1,k * 9+4,none⟩=some (.int .i64 n.vk):=HC1 4 _ rfl;have x5:wr.cell? ⟨g1,k * 9+5,none⟩=some (.int .i64 n.vi):=HC1 5 _ rfl;have x6:wr.cell? ⟨g1,k * 9+6,none⟩=some (.float .f64 n.rl):=HC1 6 _ rfl;have x7:wr.cell? ⟨g1,k * 9+7,none⟩=some (.complex .f64 0 0):=by have:=HC1 7 _ rfl;rw[hre,him] at this;exact this
   have x8:wr.cell? ⟨g1,k * 9+8,none⟩=some (.string n.tx):=HC1 8 _ rfl;have y0:wr.cell? ⟨g2,k * 9,none⟩=some (.int .i64 n.k):=HC2 0 _ rfl;have y1:wr.cell? ⟨g2,k * 9+1,none⟩=some (.int .i64 n.a):=HC2 1 _ rfl;have y2:wr.cell? ⟨g2,k * 9+2,none⟩=some (.int .i64 n.b):=HC2 2 _ rfl;have y3:wr.cell? ⟨g2,k * 9+3,none⟩=some (.string n.nm):=HC2 3 _ rfl;have y4:wr.cell? ⟨g2,k * 9+4,none⟩=some (.int .i64 n.vk):=HC2 4 _ rfl;have y5:wr.cell? ⟨g2,k * 9+5,none⟩=some (.int .i64 n.vi):=HC2 5 _ rfl;have y6:wr.cell? ⟨g2,k * 9+6,none⟩=some (.float .f64 n.rl):=HC2 6 _ rfl;have y7:wr.cell? ⟨g2,k * 9+7,none⟩=some (.complex .f64 0 0):=by have:=HC2 7 _ rfl;rw[hre,him] at this;exact this
   have y8:wr.cell? ⟨g2,k * 9+8,none⟩=some (.string n.tx):=HC2 8 _ rfl;have HLT:=hid hlt;have HVK:=hid hvk;clear HC1 HC2 hn hre him hkl hvk;go_upto_region 6 with (fail)
   go_region_held3 (fun W=>W.cell? ⟨w.heap.size,0,none⟩=some (.slice (some ⟨g1,0,none⟩) N c1)∧W.cell? ⟨w.heap.size+1,0,none⟩=some (.slice (some ⟨g2,0,none⟩) N c2)∧W.cell? ⟨g1,k * 9,none⟩=some (.int .i64 n.k)∧W.cell? ⟨g1,k * 9+1,none⟩=some (.int .i64 n.a)∧W.cell? ⟨g1,k * 9+2,none⟩=some (.int .i64 n.b)∧W.cell? ⟨g1,k * 9+3,none⟩=some (.string n.nm)∧W.cell? ⟨g1,k * 9+4,none⟩=some (.int .i64 n.vk)∧W.cell? ⟨g1,k * 9+5,none⟩=some (.int .i64 n.vi)∧W.cell? ⟨g1,k * 9+6,none⟩=some (.float .f64 n.rl)∧W.cell? ⟨g1,k * 9+7,none⟩=some (.complex .f64 0 0)∧W.cell? ⟨g1,k * 9+8,none⟩=some (.string n.tx)∧W.cell? ⟨g2,k * 9,none⟩=some (.int .i64 n.k)∧W.cell? ⟨g2,k * 9+1,none⟩=some (.int .i64 n.a)∧W.cell? ⟨g2,k * 9+2,none⟩=some (.int .i64 n.b)∧W.cell? ⟨g2,k * 9+3,none⟩=some (.string n.nm)∧W.cell? ⟨g2,k * 9+4,none⟩=some (.int .i64 n.vk)∧W.cell? ⟨g2,k * 9+5,none⟩=some (.int .i64 n.vi)∧W.cell? ⟨g2,k * 9+6,none⟩=some (.float .f64 n.rl)∧W.cell? ⟨g2,k * 9+7,none⟩=some (.complex .f64 0 0)∧W.cell? ⟨g2,k * 9+8,none⟩=some (.string n.tx))
    (first|(refine⟨?_,?_,?_,?_,?_,?_,?_,?_,?_,?_,?_,?_,?_,?_,?_,?_,?_,?_,?_,?_⟩ <;> assumption)|go_keep)
    (fail)
   all_goals
    obtain⟨W1,hW1,hP,hQ,hB1,hs1⟩:=new2 wr 109 [.int .i64 n.k,.int .i64 n.a,.int .i64 n.b,.string n.nm,.int .i64 n.vk,.int .i64 n.vi,.float .f64 n.rl,.complex .f64 0 0,.string n.tx] [.int .i64 n.k,.int .i64 n.a,.int .i64 n.b,.string n.nm,.int .i64 n.vk,.int .i64 n.vi,.float .f64 n.rl,.complex .f64 0 0,.string n.tx];have hW1':W1.drew=((wr.alloc (.cells #[.int .i64 n.k,.int .i64 n.a,.int .i64 n.b,.string n.nm,.int .i64 n.vk,.int .i64 n.vi,.float .f64 n.rl,.complex .f64 0 0,.string n.tx] 109)).alloc (.cells #[.int .i64 n.k,.int .i64 n.a,.int .i64 n.b,.string n.nm,.int .i64 n.vk,.int .i64 n.vi,.float .f64 n.rl,.complex .f64 0 0,.string n.tx] 109)).drew:=by rw[hW1]
    rw[← hW1'];have HP:=hid (bx_drew hP);have HQ:=hid (bx_drew hQ);have HBR1:=hid (HBR.out.trans ((hB1.drew).mono hwr));have hwz:wr.heap.size+2=W1.drew.heap.size:=hs1.symm;rename_i hHeld;clear hHeld hW1' hW1 hP hQ hB1 hs1 a0 b0 x0 x1 x2 x3 x4 x5 x6 x7 x8 y0 y1 y2 y3 y4 y5 y6 y7 y8;generalize W1.drew=WD at HP HQ HBR1 hwz ⊢;generalize hQe:wr.heap.size+1=Q at HQ hwz ⊢;generalize wr.heap.size=P at HP hwr hQe hwz ⊢;have p0:=HP.out.c 0 rfl;have p1:=HP.out.c 1 rfl;have p2:=HP.out.c 2 rfl;have p3:=HP.out.c 3 rfl;have p4:=HP.out.c 4 rfl;have p5:=HP.out.c 5 rfl;have p6:=HP.out.c 6 rfl;have p7:=HP.out.c 7 rfl;have p8:=HP.out.c 8 rfl;have q0:=HQ.out.c 0 rfl;have q1:=HQ.out.c 1 rfl;have q2:=HQ.out.c 2 rfl;have q3:=HQ.out.c 3 rfl;have q4:=HQ.out.c 4 rfl;have q5:=HQ.out.c 5 rfl;have q6:=HQ.out.c 6 rfl;have q7:=HQ.out.c 7 rfl;have q8:=HQ.out.c 8 rfl;have HSZ2:=hid HBR1.out.size;by_cases h0:n.vk=0
    ·rw[h0] at p4 q4;clear HVK h0;go_wp2;exact⟨⟨k+1,by go_num,HLT.out,HBR1⟩,by have:=HLT.out;simp[intOf];omega⟩
    ·have t0:(n.vk==0)=false:=beq_eq_false_iff_ne.2 h0;have t0':(n.vk != 0)=true:=by rw[bne,t0];rfl
     have HSM:Hid (∀ W,Calls Tryz.prog 77 #[.agg #[.int .i64 n.vk,.int .i64 n.vi,.float .f64 n.rl,.complex .f64 0 0,.string n.tx],.agg #[.int .i64 n.vk,.int .i64 n.vi,.float .f64 n.rl,.complex .f64 0 0,.string n.tx]] W fun e w'=>e=.returned (.bool true)∧Below W.heap.size W w'):=hid (fun W=>by
      rcases HVK.out with h|⟨l,hl,hnl⟩
      ·exact absurd h h0
      ·have:=wsame_any l hl W;unfold litV valV at this;rw[← hnl] at this;exact this)
     clear HVK h0;go_wp2_with (go_at_call 77;(with_reducible refine(HSM.out _).mono ?_);rintro e w8 ⟨rfl,hb8⟩;have HB8:=hid (HBR1.out.trans (hb8.mono (by have:=HSZ2.out;have:=HSZ.out;omega)));clear hb8);exact⟨⟨k+1,by go_num,HLT.out,HB8⟩,by have:=HLT.out;simp[intOf];omega⟩
  ·obtain rfl:k=N:=by omega
   have HBR2:=HBR;go_wp2;go_ret;exact⟨rfl,HBW.out.trans (HBR2.out.mono (by omega))⟩
theorem wexprs_none (a1 a2:Option Addr) (c1 c2:Nat) (w:World):Calls Tryz.prog 45 #[.agg #[.slice a1 0 c1],.agg #[.slice a2 0 c2]] w fun e w'=>e=.returned (.bool true)∧Below w.heap.size w w':=by
 obtain⟨W0,hW0,ha,hb,hB,hsz⟩:=new2 w 41 [.slice a1 0 c1] [.slice a2 0 c2];have HW0:=hid hW0;have HBW:=hid hB;have a0:=ha.c 0 rfl;have b0:=hb.c 0 rfl;clear hW0 ha hb hB hsz;go_enter Tryz.func45,Tryz.ntmps45;go_upto_region 1 with (fail);rw[← HW0.out];go_wp2
 go_loopw [5] (fun i wr=>i=.int .i64 0∧wr=W0) (fun i _=>0)
 case atStart=>exact⟨rfl,rfl⟩
 case round =>
  obtain⟨rfl,rfl⟩:=hrel;go_wp2;go_ret;exact⟨rfl,HBW.out⟩
theorem ex_nodes {w:World} {F:List Nat} {v:Value} {o:Option Ex} (h:exE w F [v] o):(∃ a c,v=.slice a 0 c∧(exN o).length=0)∨∃ g c,v=.slice (some ⟨g,0,none⟩) (exN o).length c∧0<(exN o).length∧g<w.heap.size∧NodesAt w g (exN o):=by
 obtain⟨v',hv,_,hr⟩:=h;cases hv;rcases Nat.eq_zero_or_pos (exN o).length with h0|h0
 ·rcases hr.2 with ⟨rfl,_⟩|⟨g,cap,cur,rfl,_⟩
  ·exact .inl ⟨none,0,rfl,h0⟩
  ·rw[h0];exact .inl ⟨_,_,rfl,rfl⟩
 ·obtain⟨g,c,rfl,h1,h2,h3⟩:=nodes_own rfl h0 hr;exact .inr ⟨g,c,rfl,h0,h2,h3⟩
theorem okE_ok {o:Option Ex} (h:okE o):(∀ n ∈ exN o,okM n)∧(exN o).length≤1000000000:=by
 cases o with
 | none=>exact⟨fun n hn=>(by cases hn),by show 0≤_;omega⟩
 | some t =>
  obtain⟨h1,h2⟩:=h t rfl;refine⟨okM_lay t 0 h1,?_⟩;show (lay 0 t).length≤_;rw[lay_len];omega
theorem wexprs_any (o:Option Ex) (ho:okE o) (v1 v2:Value) (w:World) {F1 F2:List Nat} (h1:exE w F1 [v1] o) (h2:exE w F2 [v2] o) :
  Calls Tryz.prog 45 #[.agg #[v1],.agg #[v2]] w fun e w'=>e=.returned (.bool true)∧Below w.heap.size w w':=by
 obtain⟨hok,hlen⟩:=okE_ok ho;rcases ex_nodes h1 with ⟨a1,c1,rfl,h0⟩|⟨g1,c1,rfl,hp,hg1,hn1⟩
 ·rcases ex_nodes h2 with ⟨a2,c2,rfl,_⟩|⟨g2,c2,rfl,hp,_⟩
  ·exact wexprs_none a1 a2 c1 c2 w
  ·omega
 ·rcases ex_nodes h2 with ⟨a2,c2,rfl,h0⟩|⟨g2,c2,rfl,_,hg2,hn2⟩
  ·omega
  ·exact wexprs_some (exN o) g1 g2 c1 c2 _ rfl hlen hok w hn1 hn2 hg1 hg2
structure LpS {α:Type} (E:Shp α) (T:TypeId) (sz lo:Nat) (w:World) (p cap n:Nat) (a:Option Addr) (L:List TokE) (wr:World) (v:Value) (s:S8) (l:List α) (cs:List Value):Prop where
 lst:Lst E T sz lo wr v l cs
 st:DSt wr p cap n a L s
 eff:Eff p w wr
 few:l.length+rem8 L s≤L.length+2
 base:w.heap.size≤lo
 top:lo≤wr.heap.size
section
variable {α:Type} {E:Shp α} {T:TypeId} {sz lo:Nat} {w:World} {p cap n:Nat} {a:Option Addr} {L:List TokE}
end
def ListP {α:Type} (E:Shp α) (T:TypeId) (sz p cap n:Nat) (a:Option Addr) (L:List TokE) (R:S8 × List α) (w:World) (e:Ending) (w':World):Prop :=
 ∃ v cs,e=.returned v∧Lst E T sz w.heap.size w' v R.2 cs∧St8 p cap n a L R.1 w w'
end Go.Proofs.YtenlhcgpajphhaaGreatDoor
