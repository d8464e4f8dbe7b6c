import Derived.Test.YtkpboalccpancaaGreatDoorDwSame
import Derived.Test.YtkpboalccpancaaGreatDoorMErRead
namespace Go.Proofs.YtkpboalccpancaaGreatDoor
open Go.RowKit Go.Shelf
open Lib(hid)
set_option maxRecDepth 100000
set_option linter.all false
set_option maxHeartbeats 8000000
def okM (n:Nd):Prop:=n.re=0∧n.im=0∧(n.vk=0∨∃ l,okL l=true∧n=leafN l)
theorem okM_leaf {l:Lf} (h:okL l=true):okM (leafN l):=by
 refine⟨?_,?_,.inr ⟨l,h,rfl⟩⟩ <;> cases l <;> rfl
theorem okM_pair (k a b:Int):okM (pairN k a b):=⟨rfl,rfl,.inl rfl⟩
theorem okM_lay:∀ (t:Ex) (o:Nat),WfT t→∀ n ∈ lay o t,okM n:=by
 intro t
 induction t with
 | lf l=>intro o h n hn;rcases List.mem_singleton.1 hn with rfl;exact okM_leaf h
 | un k a ih =>
  intro o h n hn;rcases List.mem_append.1 hn with hn|hn
  ·exact ih o h.2.2 n hn
  ·rcases List.mem_singleton.1 hn with rfl;exact okM_pair _ _ _
 | bi k a b iha ihb =>
  intro o h n hn;rcases List.mem_append.1 hn with hn|hn
  ·exact iha o h.2.2.1 n hn
  ·rcases List.mem_append.1 hn with hn|hn
   ·exact ihb _ h.2.2.2 n hn
   ·rcases List.mem_singleton.1 hn with rfl;exact okM_pair _ _ _
def okE (o:Option Ex):Prop:=∀ t,o=some t→WfT t∧cnt t≤64
theorem wexprs_some (ns:List Nd) (g1 g2 c1 c2 N:Nat) (hN:ns.length=N) (hN2:N≤1000000000) (hok:∀ n ∈ ns,okM n) (w:World) (h1:NodesAt w g1 ns) (h2:NodesAt w g2 ns) (hg1:g1<w.heap.size) (hg2:g2<w.heap.size) :
  Calls Tryz.prog 39 #[.agg #[.slice (some ⟨g1,0,none⟩) N c1],.agg #[.slice (some ⟨g2,0,none⟩) N c2]] w fun e w'=>e=.returned (.bool true)∧Below w.heap.size w w':=by
 have sf:=store_float;have sc:=store_cplx;have hz0:FloatKind.f64.format.order 0 0=some Ordering.eq:=by decide
 obtain⟨W0,hW0,ha,hb,hB,hsz⟩:=new2 w 41 [.slice (some ⟨g1,0,none⟩) N c1] [.slice (some ⟨g2,0,none⟩) N c2];have HW0:=hid hW0;have HA:=hid ha;have HB:=hid hb;have HBW:=hid hB;have HSZ:=hid hsz;have HN:=hid hN;have HOK:=hid hok;have H1:=hid (h1.keep hB hg1);have H2:=hid (h2.keep hB hg2);have a0:=ha.c 0 rfl;have b0:=hb.c 0 rfl;clear hW0 ha hb hB hN hok h1 h2;go_enter Tryz.func39,Tryz.ntmps39;go_upto_region 1 with (fail);rw[← HW0.out];go_wp2
 go_loopw [5] (fun i wr=>∃ k:Nat,i=.int .i64 k∧k≤N∧Hid (Below (w.heap.size+2) W0 wr)) (fun i _=>N-(intOf i).toNat)
 case atStart=>exact⟨0,rfl,Nat.zero_le _,hid (Below.refl _ _)⟩
 case round =>
  obtain⟨k,rfl,hk,HBR⟩:=hrel;have a0:=(HA.out.keep HBR.out (by omega)).c 0 rfl;have b0:=(HB.out.keep HBR.out (by omega)).c 0 rfl;have hwr:w.heap.size+2≤wr.heap.size:=by have:=HBR.out.size;have:=HSZ.out;omega
  rcases Nat.lt_or_ge k N with hlt|hge
  ·have hkl:k<ns.length:=by rw[HN.out];exact hlt
   have HC1:=H1.out.keep HBR.out (by omega);have HC2:=H2.out.keep HBR.out (by omega);obtain⟨hre,him,hvk⟩:=HOK.out (ns.getD k default) (by rw[List.getD_eq_getElem?_getD,List.getElem?_eq_getElem hkl];exact List.getElem_mem hkl);generalize hn:ns.getD k default=n at *
   have HC1:∀ j v,(ndCells n)[j]?=some v→wr.cell? ⟨g1,k * 9+j,none⟩=some v:=fun j v hj=>HC1 k j v hkl (by rw[hn];exact hj);have HC2:∀ j v,(ndCells n)[j]?=some v→wr.cell? ⟨g2,k * 9+j,none⟩=some v:=fun j v hj=>HC2 k j v hkl (by rw[hn];exact hj);have x0:wr.cell? ⟨g1,k * 9,none⟩=some (.int .i64 n.k):=HC1 0 _ rfl;have x1:wr.cell? ⟨g1,k * 9+1,none⟩=some (.int .i64 n.a):=HC1 1 _ rfl;have x2:wr.cell? ⟨g1,k * 9+2,none⟩=some (.int .i64 n.b):=HC1 2 _ rfl;have x3:wr.cell? ⟨g1,k * 9+3,none⟩=some (.string n.nm):=HC1 3 _ rfl;have x4:wr.cell? ⟨g1,k * 9+4,none⟩=some (.int .i64 n.vk):=HC1 4 _ rfl;have x5:wr.cell? ⟨g1,k * 9+5,none⟩=some (.int .i64 n.vi):=HC1 5 _ rfl;have x6:wr.cell? ⟨g1,k * 9+6,none⟩=some (.float .f64 n.rl):=HC1 6 _ rfl;have x7:wr.cell? ⟨g1,k * 9+7,none⟩=some (.complex .f64 0 0):=by have:=HC1 7 _ rfl;rw[hre,him] at this;exact this
   have x8:wr.cell? ⟨g1,k * 9+8,none⟩=some (.string n.tx):=HC1 8 _ rfl;have y0:wr.cell? ⟨g2,k * 9,none⟩=some (.int .i64 n.k):=HC2 0 _ rfl;have y1:wr.cell? ⟨g2,k * 9+1,none⟩=some (.int .i64 n.a):=HC2 1 _ rfl;have y2:wr.cell? ⟨g2,k * 9+2,none⟩=some (.int .i64 n.b):=HC2 2 _ rfl;have y3:wr.cell? ⟨g2,k * 9+3,none⟩=some (.string n.nm):=HC2 3 _ rfl;have y4:wr.cell? ⟨g2,k * 9+4,none⟩=some (.int .i64 n.vk):=HC2 4 _ rfl;have y5:wr.cell? ⟨g2,k * 9+5,none⟩=some (.int .i64 n.vi):=HC2 5 _ rfl;have y6:wr.cell? ⟨g2,k * 9+6,none⟩=some (.float .f64 n.rl):=HC2 6 _ rfl;have y7:wr.cell? ⟨g2,k * 9+7,none⟩=some (.complex .f64 0 0):=by have:=HC2 7 _ rfl;rw[hre,him] at this;exact this
   have y8:wr.cell? ⟨g2,k * 9+8,none⟩=some (.string n.tx):=HC2 8 _ rfl;have HLT:=hid hlt;have HVK:=hid hvk;clear HC1 HC2 hn hre him hkl hvk;go_upto_region 6 with (fail)
   go_region_held3 (fun W=>W.cell? ⟨w.heap.size,0,none⟩=some (.slice (some ⟨g1,0,none⟩) N c1)∧W.cell? ⟨w.heap.size+1,0,none⟩=some (.slice (some ⟨g2,0,none⟩) N c2)∧W.cell? ⟨g1,k * 9,none⟩=some (.int .i64 n.k)∧W.cell? ⟨g1,k * 9+1,none⟩=some (.int .i64 n.a)∧W.cell? ⟨g1,k * 9+2,none⟩=some (.int .i64 n.b)∧W.cell? ⟨g1,k * 9+3,none⟩=some (.string n.nm)∧W.cell? ⟨g1,k * 9+4,none⟩=some (.int .i64 n.vk)∧W.cell? ⟨g1,k * 9+5,none⟩=some (.int .i64 n.vi)∧W.cell? ⟨g1,k * 9+6,none⟩=some (.float .f64 n.rl)∧W.cell? ⟨g1,k * 9+7,none⟩=some (.complex .f64 0 0)∧W.cell? ⟨g1,k * 9+8,none⟩=some (.string n.tx)∧W.cell? ⟨g2,k * 9,none⟩=some (.int .i64 n.k)∧W.cell? ⟨g2,k * 9+1,none⟩=some (.int .i64 n.a)∧W.cell? ⟨g2,k * 9+2,none⟩=some (.int .i64 n.b)∧W.cell? ⟨g2,k * 9+3,none⟩=some (.string n.nm)∧W.cell? ⟨g2,k * 9+4,none⟩=some (.int .i64 n.vk)∧W.cell? ⟨g2,k * 9+5,none⟩=some (.int .i64 n.vi)∧W.cell? ⟨g2,k * 9+6,none⟩=some (.float .f64 n.rl)∧W.cell? ⟨g2,k * 9+7,none⟩=some (.complex .f64 0 0)∧W.cell? ⟨g2,k * 9+8,none⟩=some (.string n.tx))
    (first|(refine⟨?_,?_,?_,?_,?_,?_,?_,?_,?_,?_,?_,?_,?_,?_,?_,?_,?_,?_,?_,?_⟩ <;> assumption)|go_keep)
    (fail)
   all_goals
    obtain⟨W1,hW1,hP,hQ,hB1,hs1⟩:=new2 wr 104 [.int .i64 n.k,.int .i64 n.a,.int .i64 n.b,.string n.nm,.int .i64 n.vk,.int .i64 n.vi,.float .f64 n.rl,.complex .f64 0 0,.string n.tx] [.int .i64 n.k,.int .i64 n.a,.int .i64 n.b,.string n.nm,.int .i64 n.vk,.int .i64 n.vi,.float .f64 n.rl,.complex .f64 0 0,.string n.tx];have hW1':W1.drew=((wr.alloc (.cells #[.int .i64 n.k,.int .i64 n.a,.int .i64 n.b,.string n.nm,.int .i64 n.vk,.int .i64 n.vi,.float .f64 n.rl,.complex .f64 0 0,.string n.tx] 104)).alloc (.cells #[.int .i64 n.k,.int .i64 n.a,.int .i64 n.b,.string n.nm,.int .i64 n.vk,.int .i64 n.vi,.float .f64 n.rl,.complex .f64 0 0,.string n.tx] 104)).drew:=by rw[hW1]
    rw[← hW1'];have HP:=hid (bx_drew hP);have HQ:=hid (bx_drew hQ);have HBR1:=hid (HBR.out.trans ((hB1.drew).mono hwr));have hwz:wr.heap.size+2=W1.drew.heap.size:=hs1.symm;rename_i hHeld;clear hHeld hW1' hW1 hP hQ hB1 hs1 a0 b0 x0 x1 x2 x3 x4 x5 x6 x7 x8 y0 y1 y2 y3 y4 y5 y6 y7 y8;generalize W1.drew=WD at HP HQ HBR1 hwz ⊢;generalize hQe:wr.heap.size+1=Q at HQ hwz ⊢;generalize wr.heap.size=P at HP hwr hQe hwz ⊢;have p0:=HP.out.c 0 rfl;have p1:=HP.out.c 1 rfl;have p2:=HP.out.c 2 rfl;have p3:=HP.out.c 3 rfl;have p4:=HP.out.c 4 rfl;have p5:=HP.out.c 5 rfl;have p6:=HP.out.c 6 rfl;have p7:=HP.out.c 7 rfl;have p8:=HP.out.c 8 rfl;have q0:=HQ.out.c 0 rfl;have q1:=HQ.out.c 1 rfl;have q2:=HQ.out.c 2 rfl;have q3:=HQ.out.c 3 rfl;have q4:=HQ.out.c 4 rfl;have q5:=HQ.out.c 5 rfl;have q6:=HQ.out.c 6 rfl;have q7:=HQ.out.c 7 rfl;have q8:=HQ.out.c 8 rfl;have HSZ2:=hid HBR1.out.size;by_cases h0:n.vk=0
    ·rw[h0] at p4 q4;clear HVK h0;go_wp2;exact⟨⟨k+1,by go_num,HLT.out,HBR1⟩,by have:=HLT.out;simp[intOf];omega⟩
    ·have t0:(n.vk==0)=false:=beq_eq_false_iff_ne.2 h0;have t0':(n.vk != 0)=true:=by rw[bne,t0];rfl
     have HSM:Hid (∀ W,Calls Tryz.prog 63 #[.agg #[.int .i64 n.vk,.int .i64 n.vi,.float .f64 n.rl,.complex .f64 0 0,.string n.tx],.agg #[.int .i64 n.vk,.int .i64 n.vi,.float .f64 n.rl,.complex .f64 0 0,.string n.tx]] W fun e w'=>e=.returned (.bool true)∧Below W.heap.size W w'):=hid (fun W=>by
      rcases HVK.out with h|⟨l,hl,hnl⟩
      ·exact absurd h h0
      ·have:=wsame_any l hl W;unfold litV valV at this;rw[← hnl] at this;exact this)
     clear HVK h0;go_wp2_with (go_at_call 63;(with_reducible refine(HSM.out _).mono ?_);rintro e w8 ⟨rfl,hb8⟩;have HB8:=hid (HBR1.out.trans (hb8.mono (by have:=HSZ2.out;have:=HSZ.out;omega)));clear hb8);exact⟨⟨k+1,by go_num,HLT.out,HB8⟩,by have:=HLT.out;simp[intOf];omega⟩
  ·obtain rfl:k=N:=by omega
   have HBR2:=HBR;go_wp2;go_ret;exact⟨rfl,HBW.out.trans (HBR2.out.mono (by omega))⟩
theorem wexprs_none (a1 a2:Option Addr) (c1 c2:Nat) (w:World):Calls Tryz.prog 39 #[.agg #[.slice a1 0 c1],.agg #[.slice a2 0 c2]] w fun e w'=>e=.returned (.bool true)∧Below w.heap.size w w':=by
 obtain⟨W0,hW0,ha,hb,hB,hsz⟩:=new2 w 41 [.slice a1 0 c1] [.slice a2 0 c2];have HW0:=hid hW0;have HBW:=hid hB;have a0:=ha.c 0 rfl;have b0:=hb.c 0 rfl;clear hW0 ha hb hB hsz;go_enter Tryz.func39,Tryz.ntmps39;go_upto_region 1 with (fail);rw[← HW0.out];go_wp2
 go_loopw [5] (fun i wr=>i=.int .i64 0∧wr=W0) (fun i _=>0)
 case atStart=>exact⟨rfl,rfl⟩
 case round =>
  obtain⟨rfl,rfl⟩:=hrel;go_wp2;go_ret;exact⟨rfl,HBW.out⟩
theorem ex_nodes {w:World} {F:List Nat} {v:Value} {o:Option Ex} (h:exE w F [v] o):(∃ a c,v=.slice a 0 c∧(exN o).length=0)∨∃ g c,v=.slice (some ⟨g,0,none⟩) (exN o).length c∧0<(exN o).length∧g<w.heap.size∧NodesAt w g (exN o):=by
 obtain⟨v',hv,_,hr⟩:=h;cases hv;rcases Nat.eq_zero_or_pos (exN o).length with h0|h0
 ·rcases hr.2 with ⟨rfl,_⟩|⟨g,cap,cur,rfl,_⟩
  ·exact .inl ⟨none,0,rfl,h0⟩
  ·rw[h0];exact .inl ⟨_,_,rfl,rfl⟩
 ·obtain⟨g,c,rfl,h1,h2,h3⟩:=nodes_own rfl h0 hr;exact .inr ⟨g,c,rfl,h0,h2,h3⟩
theorem okE_ok {o:Option Ex} (h:okE o):(∀ n ∈ exN o,okM n)∧(exN o).length≤1000000000:=by
 cases o with
 | none=>exact⟨fun n hn=>(by cases hn),by show 0≤_;omega⟩
 | some t =>
  obtain⟨h1,h2⟩:=h t rfl;refine⟨okM_lay t 0 h1,?_⟩;show (lay 0 t).length≤_;rw[lay_len];omega
theorem wexprs_any (o:Option Ex) (ho:okE o) (v1 v2:Value) (w:World) {F1 F2:List Nat} (h1:exE w F1 [v1] o) (h2:exE w F2 [v2] o) :
  Calls Tryz.prog 39 #[.agg #[v1],.agg #[v2]] w fun e w'=>e=.returned (.bool true)∧Below w.heap.size w w':=by
 obtain⟨hok,hlen⟩:=okE_ok ho;rcases ex_nodes h1 with ⟨a1,c1,rfl,h0⟩|⟨g1,c1,rfl,hp,hg1,hn1⟩
 ·rcases ex_nodes h2 with ⟨a2,c2,rfl,_⟩|⟨g2,c2,rfl,hp,_⟩
  ·exact wexprs_none a1 a2 c1 c2 w
  ·omega
 ·rcases ex_nodes h2 with ⟨a2,c2,rfl,h0⟩|⟨g2,c2,rfl,_,hg2,hn2⟩
  ·omega
  ·exact wexprs_some (exN o) g1 g2 c1 c2 _ rfl hlen hok w hn1 hn2 hg1 hg2
theorem infoE8:(Tryz.prog.info? 41).map (fun i=>(i.zero,i.size,i.bytes))=some (some (.agg #[.slice none 0 0]),1,24):=by kernel_rfl
structure LpS {α:Type} (E:Shp α) (T:TypeId) (sz lo:Nat) (w:World) (p cap n:Nat) (a:Option Addr) (L:List TokE) (wr:World) (v:Value) (s:S8) (l:List α) (cs:List Value):Prop where
 lst:Lst E T sz lo wr v l cs
 st:DSt wr p cap n a L s
 eff:Eff p w wr
 few:l.length+rem8 L s≤L.length+2
 base:w.heap.size≤lo
 top:lo≤wr.heap.size
theorem list_slice {α:Type} {E:Shp α} {T:TypeId} {sz lo:Nat} {w:World} {v:Value} {xs:List α} {c:List Value} (h:Lst E T sz lo w v xs c):∃ ad cp,v=.slice ad xs.length cp:=by
 rcases h.row.2 with ⟨rfl,hn⟩|⟨g,cap,cur,rfl,_⟩
 ·exact⟨none,0,by rw[hn]⟩
 ·exact⟨_,_,rfl⟩
section
variable {α:Type} {E:Shp α} {T:TypeId} {sz lo:Nat} {w:World} {p cap n:Nat} {a:Option Addr} {L:List TokE}
theorem LpS.step {wr w1:World} {v:Value} {s s1:S8} {l:List α} {cs:List Value} (ke:KE E sz) (h:LpS E T sz lo w p cap n a L wr v s l cs)
  (hp:p<w.heap.size) (hs:DSt w1 p cap n a L s1) (he:Eff p wr w1) (hr:rem8 L s1≤rem8 L s):LpS E T sz lo w p cap n a L w1 v s1 l cs :=
 ⟨h.lst.keep ke he.2 (Nat.lt_of_lt_of_le hp h.base),hs,h.eff.trans he,by have:=h.few;omega,h.base,Nat.le_trans h.top he.size⟩
theorem LpS.low {w1 w5 w6 w7:World} {v:Value} {s:S8} {l:List α} {cs:List Value} (h:LpS E T sz lo w p cap n a L w1 v s l cs) (he:Eff p w1 w5) (h6:Below w5.heap.size w5 w6) (hgrow:w6.grownBy w7 v.ownBlock):∀ b,b<lo→w7.heap[b]?=w5.heap[b]?:=fun b hb=>by
 have h1:=h.top;have h15:=he.size;have h56:=h6.size;exact(hgrow.block b (by omega) (fun e=>by have:=(h.lst.own b e.symm).1;omega)).trans (h6.block b (by omega))
theorem LpS.more {w1 w5 w6 w7:World} {v:Value} {s s5:S8} {l:List α} {cs c1:List Value} {x:α} {m g cp:Nat} (ke:KE E sz) (h:LpS E T sz lo w p cap n a L w1 v s l cs)
  (hp:p<w.heap.size) (hx:Itm E w1.heap.size w5 c1 x) (hs:DSt w5 p cap n a L s5) (he:Eff p w1 w5) (h6:Below w5.heap.size w5 w6) (hm:m=l.length)
  (hown:w7.ownsRow 0 T sz (.slice (some ⟨g,0,none⟩) (m+1) cp) (m+1) (cs++c1)) (hgrow:w6.grownBy w7 v.ownBlock) (hat:v.ownBlock=some g∨g=w6.heap.size) (hlt:g<w7.heap.size) (hf:l.length+1+rem8 L s5≤L.length+2) :
  LpS E T sz lo w p cap n a L w7 (.slice (some ⟨g,0,none⟩) (m+1) cp) s5 (l++[x]) (cs++c1):=by
 have hsz:=h.top;have hbs:=h.base;have h15:=he.size;have h56:=h6.size;have h67:=hgrow.size;have hb57:=h.low he h6 hgrow;have h2:=h.eff.trans he;refine⟨h.lst.snoc ke he.2 (by omega) hsz hx h6 hm hown hgrow hat hlt,hs.same (fun b hb=>hb57 b (by omega)),?_,?_,hbs,by omega⟩
 ·exact⟨h2.1.trans ⟨hgrow.os.trans h6.os,hgrow.tape.trans h6.tape,hgrow.output.trans h6.output,by omega,fun k hk=>hb57 k (by omega)⟩,by omega,fun k hk hkp=>(hb57 k (by omega)).trans (h2.2.2 k hk hkp)⟩
 ·rw[List.length_append];exact hf
theorem LpS.boxed {wr:World} {v:Value} {s:S8} {l:List α} {cs:List Value} (ke:KE E sz) (h:LpS E T sz lo w p cap n a L wr v s l cs) (hp:p<w.heap.size) {X:Nat} (h1:w.heap.size≤X) (h2:X<lo) (j:Nat) (u:Value) :
  LpS E T sz lo w p cap n a L (wr.setCell ⟨X,j,none⟩ u) v s l cs:=by
 obtain⟨F,hl,hg⟩:=h.lst;refine⟨⟨F,hl.keep ke (fun b hb=>Below.heap_setCell _ _ _ _ (by have:=hg.lies b hb;show b≠X;omega)),hg.wide (Nat.le_refl _) (by simp)⟩,h.st.same (fun b hb=>Below.heap_setCell _ _ _ _ (by show b≠X;omega)),h.eff.mine hp h1 _ _,h.few,h.base,by have:=h.top;simpa using this⟩
end
def ListP {α:Type} (E:Shp α) (T:TypeId) (sz p cap n:Nat) (a:Option Addr) (L:List TokE) (R:S8 × List α) (w:World) (e:Ending) (w':World):Prop :=
 ∃ v cs,e=.returned v∧Lst E T sz w.heap.size w' v R.2 cs∧St8 p cap n a L R.1 w w'
theorem args8_any (p cap n:Nat) (a:Option Addr) (L:List TokE) (s:S8) (w:World) (h:DSt w p cap n a L s) :
  Calls Tryz.prog 72 #[.pointer (some ⟨p,0,none⟩)] w (ListP exE 41 1 p cap n a L (argsS L n s) w):=by
 obtain⟨i0,hi,hz0,hz1,hz2⟩:=info_parts3 infoE8;have hlt:=h.lt;have HW:=hid (want8_any p cap n a L s ⟨#[40]⟩ w h);have HTK:=hid (fun (s:S8) W (hW:DSt W p cap n a L s)=>take8_any p cap n a L s ⟨#[41]⟩ W hW);have HWC:=hid (fun (s:S8) W (hW:DSt W p cap n a L s)=>want8_any p cap n a L s ⟨#[44]⟩ W hW);have HEX:=hid (fun (s:S8) W (hW:DSt W p cap n a L s)=>expr8_any p cap n a L s W hW);unfold ListP argsS listS;have HLE:=hid (want_le (L:=L) (n:=n) (s:=s) ⟨#[40]⟩ h.at_);generalize wantS L n s ⟨#[40]⟩=s0 at *
 clear h;cases hi0:isB L s0 ⟨#[41]⟩ with
 | true =>
  rw[if_pos rfl];have HI:=hid hi0;clear hi0;go_enter Tryz.func72,Tryz.ntmps72;go_wp2_with (first
   | (go_at_call 28;(with_reducible refine HW.out.mono ?_);rintro e w1 ⟨rfl,hs⟩;have HS1:=hid hs;clear hs)
   | (go_at_call 26;(with_reducible refine(take8_yes HS1.out.1 HI.out).mono ?_);rintro e w2 ⟨rfl,hs⟩;have HS2:=hid hs;clear hs))
  go_ret;exact⟨_,[],rfl,Lst.nil _ _ _ _ _,HS2.out.1,HS1.out.2.trans HS2.out.2⟩
 | false =>
  rw[if_neg (by decide)];have HI:=hid hi0;have HFE:=hid (expr_le (L:=L) (n:=n) (s:=s0) HLE.out.1);obtain⟨R,hR⟩:∃ R,R=loopS L n (exprS L n) (fuel8 L) (exprS L n s0).1 [(exprS L n s0).2]:=⟨_,rfl⟩
  rw[← hR];have HRR:=hid hR;clear hi0 hR;go_enter Tryz.func72,Tryz.ntmps72;go_upto_region 6 with (first
   | (go_at_call 28;(with_reducible refine HW.out.mono ?_);rintro e w1 ⟨rfl,hs⟩;have HS1:=hid hs;clear hs)
   | (go_at_call 26;(with_reducible refine(take8_no HS1.out.1 HI.out).mono ?_);rintro e w2 ⟨rfl,hs⟩;have HS2:=hid hs;have HL0:Hid (LpS exE 41 1 w.heap.size w p cap n a L w2 (.slice none 0 0) s0 [] []):=hid ⟨Lst.nil _ _ _ _ _,HS2.out.1,HS1.out.2.trans HS2.out.2,by have:=rem8_le L s0;unfold fuel8 at this;show 0+_≤_;omega,Nat.le_refl _,(HS1.out.2.trans HS2.out.2).size⟩;clear hs)
   | (go_at_call 48;(with_reducible refine(HEX.out s0 w2 HS2.out.1).mono ?_);rintro e w3 ⟨v,rfl,hit,hs⟩;obtain⟨ad,m,c,rfl⟩:=ex_slice hit;have HIT:=hid hit;have HS3:=hid hs;clear hit hs)
   | (at_builtin;refine wpList_append_lies _ rfl (.tmp 8) (.tmp 11) 93 rfl 0 41 i0 (.agg #[.slice none 0 0]) 1 24 Tryz.underlying93 hi hz0 hz1 hz2 rfl (by decide) (.slice none 0 0) 0 [] rfl (World.ownsRow_nil _ _ _ _) ⟨w3.heap.size,0,none⟩ 1 1 [.slice ad m c] rfl rfl (news_one w3 (.slice ad m c) 41) (fun u hu=>by simp at hu;subst hu;rfl) (by decide) (by decide) (by decide) (Nat.zero_le _) _ rfl ?_;intro g cp w7 hown hgrow hat hlt7;have HL7:=hid (LpS.more exK HL0.out hlt HIT.out HS3.out.1 HS3.out.2 ((Below.refl _ w3).alloc (Nat.le_refl _) (.cells #[.slice ad m c] 41)) rfl hown hgrow hat hlt7 (by have:=rem8_le L (exprS L n s0).1;unfold fuel8 at this;show 0+1+_≤_;omega));clear hown hgrow hat hlt7))
  have HF0:=hid (rem8_le L (exprS L n s0).1);clear HS1 HS2 HS3 HIT HL0
  go_loopg [3] (fuel8 L) (fun gk v wr=>∃ (s1:S8) (l:List (Option Ex)) (cs:List Value) (ad2:Option Addr) (cp2:Nat),v=.slice ad2 l.length cp2∧Hid (rem8 L s1<gk)∧Hid (R=loopS L n (exprS L n) gk s1 l)∧Hid (LpS exE 41 1 w.heap.size w p cap n a L wr (.slice ad2 l.length cp2) s1 l cs))
  case atStart=>exact⟨_,_,_,_,_,rfl,HF0,HRR,HL7⟩
  case round =>
   obtain⟨s1,l,cs,ad2,cp2,rfl,HG,HQ,HL⟩:=hrel;clear HRR HL7;obtain⟨f,rfl⟩:∃ f,gk=f+1:=⟨gk-1,by have:=HG.out;omega⟩
   have c3:=HL.out.st.cells.2.2.2.1;by_cases hb:s1.bad=0
   ·cases hi1:isB L s1 ⟨#[41]⟩ with
    | true =>
     have HI1:=hid hi1;have HQ1:Hid (R=(nextS s1,l)):=hid (by rw[HQ.out];unfold loopS;rw[if_pos hb,hi1,if_pos rfl]);have HLT:=hid (is_lt hi1 HL.out.st.at_);rw[hb] at c3;clear hi1 hb HQ;go_wp2_with (go_at_call 26;(with_reducible refine(take8_yes HL.out.st HI1.out).mono ?_);rintro e w4 ⟨rfl,hs⟩;have HS4:=hid hs;clear hs);go_ret;have h4:=LpS.step exK HL.out hlt HS4.out.1 HS4.out.2 (Nat.le_of_lt HLT.out.2);exact⟨_,_,rfl,by rw[HQ1.out];exact h4.lst,by rw[HQ1.out];exact h4.st,h4.eff⟩
    | false =>
     have HI1:=hid hi1;have HQ1:Hid (R=loopS L n (exprS L n) f (exprS L n (wantS L n s1 ⟨#[44]⟩)).1 (l++[(exprS L n (wantS L n s1 ⟨#[44]⟩)).2])):=hid (by rw[HQ.out];conv=>lhs;unfold loopS;rw[if_pos hb,hi1,if_neg (by decide)]);have hw:=want_lt (L:=L) (n:=n) (t:=⟨#[44]⟩) hb HL.out.st.at_;have he:=expr_le (L:=L) (n:=n) hw.1;have HLR:Hid (rem8 L (exprS L n (wantS L n s1 ⟨#[44]⟩)).1≤rem8 L s1∧rem8 L (wantS L n s1 ⟨#[44]⟩)≤rem8 L s1∧rem8 L (exprS L n (wantS L n s1 ⟨#[44]⟩)).1+1≤rem8 L s1):=hid ⟨by omega,by omega,by omega⟩;rw[hb] at c3;clear hi1 hb HQ hw he;go_upto_region 9 with (first
      | (go_at_call 26;(with_reducible refine(take8_no HL.out.st HI1.out).mono ?_);rintro e w4 ⟨rfl,hs⟩;have HS4:=hid hs;clear hs)
      | (go_at_call 28;(with_reducible refine(HWC.out s1 w4 HS4.out.1).mono ?_);rintro e w5 ⟨rfl,hs⟩;have HS5:=hid hs;clear hs)
      | (go_at_call 48;(with_reducible refine(HEX.out _ w5 HS5.out.1).mono ?_);rintro e w6 ⟨v,rfl,hit,hs⟩;obtain⟨ad3,m3,c3',rfl⟩:=ex_slice hit;have HIT:=hid hit;have HS6:=hid hs;clear hit hs)
      | (at_builtin;refine wpList_append_lies _ rfl (.tmp 25) (.tmp 28) 93 rfl 0 41 i0 (.agg #[.slice none 0 0]) 1 24 Tryz.underlying93 hi hz0 hz1 hz2 rfl (by decide) (.slice ad2 l.length cp2) l.length cs rfl ((LpS.step exK HL.out hlt HS6.out.1 (HS4.out.2.trans (HS5.out.2.trans HS6.out.2)) HLR.out.1).lst.row.alloc (.cells #[.slice ad3 m3 c3'] 41)) ⟨w6.heap.size,0,none⟩ 1 1 [.slice ad3 m3 c3'] rfl rfl (news_one w6 (.slice ad3 m3 c3') 41) (fun u hu=>by simp at hu;subst hu;rfl) (by decide) (by have:=HL.out.few;have:=HL.out.st.len;unfold maxLen;omega) (by have:=HL.out.few;have:=HL.out.st.len;omega) (Nat.zero_le _) _ rfl ?_;intro g cp w7 hown hgrow hat hlt7;have HL7:=hid (LpS.more exK (LpS.step exK HL.out hlt HS5.out.1 (HS4.out.2.trans HS5.out.2) HLR.out.2.1) hlt HIT.out HS6.out.1 HS6.out.2 ((Below.refl _ w6).alloc (Nat.le_refl _) (.cells #[.slice ad3 m3 c3'] 41)) rfl hown hgrow hat hlt7 (by have h1:=HL.out.few;have h2:=HLR.out.2.2;omega));clear hown hgrow hat hlt7))
     go_roundg f
     case measure=>exact Nat.lt_succ_self f
     case rel=>exact⟨_,l++[(exprS L n (wantS L n s1 ⟨#[44]⟩)).2],_,some ⟨g,0,none⟩,cp,by simp,hid (by have:=HLR.out.2.2;have:=HG.out;omega),HQ1,by rw[show (l++[(exprS L n (wantS L n s1 ⟨#[44]⟩)).2]).length=l.length+1 by simp];exact HL7⟩
   ·have HQ1:Hid (R=(s1,l)):=hid (by rw[HQ.out];unfold loopS;rw[if_neg hb]);have d:(s1.bad==0)=false:=beq_eq_false_iff_ne.2 hb;generalize hbd:s1.bad=bd at c3 d;clear hb HQ hbd;go_wp2;go_ret;exact⟨_,_,rfl,by rw[HQ1.out];exact HL.out.lst,by rw[HQ1.out];exact HL.out.st,HL.out.eff⟩
end Go.Proofs.YtkpboalccpancaaGreatDoor
