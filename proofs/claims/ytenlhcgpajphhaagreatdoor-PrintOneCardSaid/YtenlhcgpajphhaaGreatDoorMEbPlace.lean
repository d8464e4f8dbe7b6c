import Derived.Test.YtenlhcgpajphhaaGreatDoorMEbLeaf
import Derived.Laws.Tables
import Derived.Laws.CopyRow
import Derived.Laws.ResultCell
import Derived.Deep.RegionHeld3
import Derived.Recover
import Derived.Test.YtenlhcgpajphhaaGreatDoorMQuotePlain
import Derived.Test.YtenlhcgpajphhaaGreatDoorMNextPlain
namespace Go.Proofs.YtenlhcgpajphhaaGreatDoor
open Go.RowKit Go.Shelf
open Lib(hid)
set_option maxRecDepth 100000
set_option linter.all false
set_option maxHeartbeats 1000000
def Agr (F0 D0 F D:Nat→Nat) (i:Nat):Prop:=∀ j,j<i→F0 j=F j∧D0 j=D j
def Oth (b:Nat) (w w':World):Prop:=w.heap.size≤w'.heap.size∧∀ k,k<w.heap.size→k≠b→w'.heap[k]?=w.heap[k]?
theorem Oth.of_below {b:Nat} {w w':World} (h:Below w.heap.size w w'):Oth b w w':=⟨h.size,fun k hk _=>h.block k hk⟩
theorem Oth.trans {b:Nat} {w w1 w2:World} (h:Oth b w w1) (h2:Oth b w1 w2):Oth b w w2:=⟨Nat.le_trans h.1 h2.1,fun k hk hb=>(h2.2 k (Nat.lt_of_lt_of_le hk h.1) hb).trans (h.2 k hk hb)⟩
theorem Oth.blk {b:Nat} {w w':World} (h:Oth b w w') {k:Nat} (hk:k<w.heap.size) (hb:k≠b):w'.heap[k]?=w.heap[k]?:=h.2 k hk hb
theorem Bx.oth {w w':World} {g b:Nat} {T:TypeId} {cs:List Value} (h:Bx w g T cs) (ho:Oth b w w') (hb:g≠b):Bx w' g T cs:=by
 have hl:=h.lt;unfold Bx at h ⊢;rw[ho.blk hl hb];exact h
theorem Oth.set {b:Nat} {w w1:World} (h:Oth b w w1) (j:Nat) (v:Value):Oth b w (w1.setCell ⟨b,j,none⟩ v):=⟨by have:=h.1;simpa using this,fun k hk hb=>(Below.heap_setCell _ _ _ _ hb).trans (h.2 k hk hb)⟩
def q35 (b i:Nat) (F D:Nat→Nat) (w:World) (e:Ending) (w':World):Prop:=e=.returned (.bool true)∧(∃ F1 D1,Otl w' b F1 D1∧Agr F1 D1 F D (i+1))∧Below b w w'∧Oth b w w'
theorem q0M (b i:Nat) (F0 D0 F D:Nat→Nat) (n:Nd) (w:World) (h:Otl w b F0 D0) (hi:i<64) (hA:Agr F0 D0 F D i) (hDb:∀ j,D j≤900) (hS:StepN F D i n) (hT:Tab w) (hg:0<b) :
  Calls Tryz.prog 185 #[.pointer (some ⟨b,0,none⟩),.int .i64 i,ndV n] w (q35 b i F D w):=by
 have hlt:=h.lt;obtain⟨W0,hW0,ha,hB⟩:∃ W0,W0=w.alloc (.cells (qaB n).toArray 109)∧Bx W0 w.heap.size 109 (qaB n)∧Below w.heap.size w W0:=⟨_,rfl,Bx.new w _ _,(Below.refl _ w).alloc (Nat.le_refl _) _⟩
 have hO:=h.keep hB hlt;have c1:=hO.cF hi;have c2:=hO.cD hi;have z1:=hO.fz i;have z2:=hO.fz (64+i);have HW0:Hid (W0=w.alloc (.cells #[.int .i64 n.k,.int .i64 n.a,.int .i64 n.b,.string n.nm,.int .i64 n.vk,.int .i64 n.vi,.float .f64 n.rl,.complex .f64 n.re n.im,.string n.tx] 109)):=hid hW0;have HA0:=hid ha;have HO:=hid hO;have HBW:=hid hB;have HS:=hid hS;have HAG:=hid hA;have HDB:=hid hDb;have HT:=hid (hT.of_block (hB.block _ (Nat.lt_trans hg hlt)));have sh:=quD;clear h hW0 ha hB hO hS hA hDb hT;unfold ndV;go_enter Tryz.func185,Tryz.ntmps185;go_upto_region 1 with (fail);rw[← HW0.out];go_region;go_upto_region 2 with (fail);have HO1:Hid (Otl ((W0.setCell ⟨b,i,none⟩ (.int .i64 (i:Nat))).setCell ⟨b,64+i,none⟩ (.int .i64 1)).drew b (upd F0 i i) (upd D0 i 1)):=hid ((HO.out.setF hi i).setD hi 1);have HA1:Hid (Bx ((W0.setCell ⟨b,i,none⟩ (.int .i64 (i:Nat))).setCell ⟨b,64+i,none⟩ (.int .i64 1)).drew w.heap.size 109 (qaB n)):=hid ((HA0.out.other (by omega) _ _).other (by omega) _ _);have HB1:Hid (Below b w ((W0.setCell ⟨b,i,none⟩ (.int .i64 (i:Nat))).setCell ⟨b,64+i,none⟩ (.int .i64 1)).drew):=hid ((((HBW.out.mono (Nat.le_of_lt hlt)).setCell (Nat.le_refl _) _).setCell (Nat.le_refl _) _).drew);have HT1:Hid (Tab ((W0.setCell ⟨b,i,none⟩ (.int .i64 (i:Nat))).setCell ⟨b,64+i,none⟩ (.int .i64 1)).drew):=hid (HT.out.of_block ((Below.heap_setCell _ _ _ _ (by show _≠b;omega)).trans (Below.heap_setCell _ _ _ _ (by show _≠b;omega))));have HX1:Hid (Oth b w ((W0.setCell ⟨b,i,none⟩ (.int .i64 (i:Nat))).setCell ⟨b,64+i,none⟩ (.int .i64 1)).drew):=hid (((Oth.of_below HBW.out).set _ _).set _ _);generalize ((W0.setCell ⟨b,i,none⟩ (.int .i64 (i:Nat))).setCell ⟨b,64+i,none⟩ (.int .i64 1)).drew=W1 at HO1 HA1 HB1 HT1 HX1 ⊢;clear c1 c2 z1 z2 HO HT HA0 HBW HW0;rcases HS.out with ⟨l,hl,hn,hF,hD⟩|⟨K,hK,hc,hi1,hn,hF,hD⟩|⟨K,m,hK,hc,hi1,hm,hn,hF,hD⟩
 ·have hkv:∃ K:Nat,n.k=K∧K<27∧qeJ K=0:=by
   rw[hn];cases l with
   | var t=>exact⟨2,rfl,by decide,rfl⟩
   | int v=>exact⟨1,rfl,by decide,rfl⟩
   | real v=>exact⟨1,rfl,by decide,rfl⟩
   | text v=>exact⟨1,rfl,by decide,rfl⟩
   | bool v=>exact⟨1,rfl,by decide,rfl⟩
  obtain⟨K,hk,hK,hch⟩:=hkv;have HSH:=hid (qgC K hK W1 HT1.out (Nat.lt_trans hg HO1.out.lt));rw[hch] at HSH;have HLF:=hid (fun W hT hg=>qnP l (fun b hb=>by rw[hb] at hl;have:=of_decide_eq_true hl;omega) W hT hg);rw[hl,← hn] at HLF;unfold ndV at HLF;rw[hk] at HLF;have hk0:=hid hk;have k0:=HA1.out.c 0 rfl;rw[hk] at k0;have HF:Hid (Agr (upd F0 i i) (upd D0 i 1) F D (i+1)):=hid (fun j hj=>by
   rcases Nat.lt_or_ge j i with h|h
   ·rw[qb1 _ _ (by omega),qb1 _ _ (by omega)];exact HAG.out j h
   ·obtain rfl:j=i:=by omega
    rw[qcV,qcV,hF,hD];exact⟨rfl,rfl⟩)
  clear hn hl hF hD HS hch hk;go_upto_region 8 with (go_at_call 205;refine HSH.out.mono ?_;rintro e w2 ⟨rfl,hb2⟩;have HO2:=hid (HO1.out.keep hb2 HO1.out.lt);have HA2:=hid (HA1.out.keep hb2 HA1.out.lt);have HB2:=hid (HB1.out.trans (hb2.mono (Nat.le_of_lt HO1.out.lt)));have HT2:=hid (HT1.out.of_block (hb2.block _ (Nat.lt_trans hg HO1.out.lt)));have HX2:=hid (HX1.out.trans (Oth.of_below hb2));clear hb2;have k0:=HA2.out.c 0 rfl;rw[hk0.out] at k0;have k1:=HA2.out.c 1 rfl;have k2:=HA2.out.c 2 rfl;have k3:=HA2.out.c 3 rfl;have k4:=HA2.out.c 4 rfl;have k5:=HA2.out.c 5 rfl;have k6:=HA2.out.c 6 rfl;have k7:=HA2.out.c 7 rfl;have k8:=HA2.out.c 8 rfl);have HL2:=hid (HLF.out w2 HT2.out (Nat.lt_trans hg HO2.out.lt));clear HLF;go_wp2_with (go_at_call 208;with_reducible refine HL2.out.mono ?_;rintro e w3 ⟨rfl,hb3⟩;have HO3:=hid (HO2.out.keep hb3 HO2.out.lt);have HB3:=hid (HB2.out.trans (hb3.mono (Nat.le_of_lt HO2.out.lt)));have HX3:=hid (HX2.out.trans (Oth.of_below hb3));clear hb3);go_ret;exact⟨rfl,⟨_,_,HO3.out,HF.out⟩,HB3.out,HX3.out⟩
 ·subst hn;have HSH:=hid (qgC K hK W1 HT1.out (Nat.lt_trans hg HO1.out.lt));rw[hc] at HSH;have k0:W1.cell? ⟨w.heap.size,0,none⟩=some (.int .i64 K):=HA1.out.c 0 rfl;have e1:upd F0 i i i=(i-1)+1:=by rw[qcV];omega
  obtain⟨f1,f2⟩:=HAG.out (i-1) (by omega);have e2:upd D0 i 1 (i-1)≤1000:=by rw[qb1 _ _ (by omega),f2];have:=HDB.out (i-1);omega
  have HJ:=hid (fun W hO=>qpB b i (i-1) (upd F0 i i) (upd D0 i 1) W hO hi (by omega) e1 e2);have HF:Hid (Agr (upd (upd F0 i i) i (upd F0 i i (i-1))) (upd (upd D0 i 1) i (max (upd D0 i 1 i) (upd D0 i 1 (i-1)+1))) F D (i+1)):=hid (fun j hj=>by
   rcases Nat.lt_or_ge j i with h|h
   ·rw[qb1 _ _ (by omega),qb1 _ _ (by omega),qb1 _ _ (by omega),qb1 _ _ (by omega)];exact HAG.out j h
   ·obtain rfl:j=i:=by omega
    rw[qcV,qcV,qcV,qb1 _ _ (by omega),qb1 _ _ (by omega),f1,f2,hF,hD];exact⟨rfl,by omega⟩)
  clear hc hF hD HS e1 e2 f1 f2;go_upto_region 7 with (go_at_call 205;refine HSH.out.mono ?_;rintro e w2 ⟨rfl,hb2⟩;have HO2:=hid (HO1.out.keep hb2 HO1.out.lt);have HA2:=hid (HA1.out.keep hb2 HA1.out.lt);have HB2:=hid (HB1.out.trans (hb2.mono (Nat.le_of_lt HO1.out.lt)));have HT2:=hid (HT1.out.of_block (hb2.block _ (Nat.lt_trans hg HO1.out.lt)));have HX2:=hid (HX1.out.trans (Oth.of_below hb2));clear hb2;have k1:w2.cell? ⟨w.heap.size,1,none⟩=some (.int .i64 ((i-1:Nat):Int)):=HA2.out.c 1 rfl);go_wp2_with (go_at_call 207;refine(HJ.out _ HO2.out).mono ?_;rintro e w3 ⟨rfl,ho3,hb3,hx3⟩;have HO3:=hid ho3;have HB3:=hid (HB2.out.trans hb3);have HX3:=hid (HX2.out.trans ⟨hb3.size,fun k _ hk=>hx3 k hk⟩);clear hb3 ho3 hx3);go_ret;exact⟨rfl,⟨_,_,HO3.out,HF.out⟩,HB3.out,HX3.out⟩
 ·subst hn;have HSH:=hid (qgC K hK W1 HT1.out (Nat.lt_trans hg HO1.out.lt));rw[hc] at HSH;have k0:W1.cell? ⟨w.heap.size,0,none⟩=some (.int .i64 K):=HA1.out.c 0 rfl;have e1:upd F0 i i i=(i-1)+1:=by rw[qcV];omega
  obtain⟨f1,f2⟩:=HAG.out (i-1) (by omega);obtain⟨g1,g2⟩:=HAG.out m (by omega);have e2:upd D0 i 1 (i-1)≤1000:=by rw[qb1 _ _ (by omega),f2];have:=HDB.out (i-1);omega
  have HJ:=hid (fun W hO=>qpB b i (i-1) (upd F0 i i) (upd D0 i 1) W hO hi (by omega) e1 e2);obtain⟨F2,hF2⟩:∃ F2,F2=upd (upd F0 i i) i (upd F0 i i (i-1)):=⟨_,rfl⟩
  obtain⟨D2,hD2⟩:∃ D2,D2=upd (upd D0 i 1) i (max (upd D0 i 1 i) (upd D0 i 1 (i-1)+1)):=⟨_,rfl⟩
  rw[← hF2,← hD2] at HJ;have e3:F2 i=m+1:=by rw[hF2,qcV,qb1 _ _ (by omega),f1,hm]
  have e4:D2 i=max 1 (D (i-1)+1):=by rw[hD2,qcV,qcV,qb1 _ _ (by omega),f2]
  have e5:∀ j,j<i→F2 j=F j∧D2 j=D j:=fun j h=>by
   rw[hF2,hD2,qb1 _ _ (by omega),qb1 _ _ (by omega),qb1 _ _ (by omega),qb1 _ _ (by omega)];exact HAG.out j h
  have e6:D2 m≤1000:=by rw[(e5 m (by omega)).2];have:=HDB.out m;omega
  have HJ2:=hid (fun W hO=>qpB b i m F2 D2 W hO hi (by omega) e3 e6);have HF:Hid (Agr (upd F2 i (F2 m)) (upd D2 i (max (D2 i) (D2 m+1))) F D (i+1)):=hid (fun j hj=>by
   rcases Nat.lt_or_ge j i with h|h
   ·rw[qb1 _ _ (by omega),qb1 _ _ (by omega)];exact e5 j h
   ·obtain rfl:j=i:=by omega
    obtain⟨q1,q2⟩:=e5 m (by omega);rw[qcV,qcV,q1,q2,e4,hF,hD];exact⟨rfl,by omega⟩)
  clear hc hF hD HS e1 e2 e3 e4 e5 e6 f1 f2 g1 g2 hm hF2 hD2;go_upto_region 5 with (go_at_call 205;refine HSH.out.mono ?_;rintro e w2 ⟨rfl,hb2⟩;have HO2:=hid (HO1.out.keep hb2 HO1.out.lt);have HA2:=hid (HA1.out.keep hb2 HA1.out.lt);have HB2:=hid (HB1.out.trans (hb2.mono (Nat.le_of_lt HO1.out.lt)));have HT2:=hid (HT1.out.of_block (hb2.block _ (Nat.lt_trans hg HO1.out.lt)));have HX2:=hid (HX1.out.trans (Oth.of_below hb2));clear hb2;have k1:w2.cell? ⟨w.heap.size,1,none⟩=some (.int .i64 (m:Int)):=HA2.out.c 1 rfl;have k2:w2.cell? ⟨w.heap.size,2,none⟩=some (.int .i64 ((i-1:Nat):Int)):=HA2.out.c 2 rfl);go_upto_region 7 with (fail);refine(HJ.out _ HO2.out).mono ?_;rintro e w3 ⟨rfl,ho3,hb3,hx3⟩;have HO3:=hid ho3;have HB3:=hid (HB2.out.trans hb3);have HX3:=hid (HX2.out.trans ⟨hb3.size,fun k _ hk=>hx3 k hk⟩);have HA3:Hid (Bx w3 w.heap.size 109 (qaB (qdU K m (i-1:Nat)))):=hid ((hx3 w.heap.size (by omega)).trans HA2.out);clear hb3 ho3 hx3;have k1:w3.cell? ⟨w.heap.size,1,none⟩=some (.int .i64 (m:Int)):=HA3.out.c 1 rfl;go_upto_region 7 with (fail);go_upto_region 99 with (fail);refine(HJ2.out _ HO3.out).mono ?_;rintro e w4 ⟨rfl,ho4,hb4,hx4⟩;have HO4:=hid ho4;have HB4:=hid (HB3.out.trans hb4);have HX4:=hid (HX3.out.trans ⟨hb4.size,fun k _ hk=>hx4 k hk⟩);clear hb4 ho4 hx4;go_wp2;go_ret;exact⟨rfl,⟨_,_,HO4.out,HF.out⟩,HB4.out,HX4.out⟩
set_option maxHeartbeats 4000000
theorem q8P:(Tryz.prog.info? 225).map (·.size)=some 128:=by kernel_rfl
theorem qiN (F D:Nat→Nat):(qhC F D).toArray.size=128:=by simp[qoT]
theorem qsX (F D:Nat→Nat):(qhC F D).toArray.all (·.oneCell')=true:=by
 rw[Array.all_eq_true_iff_forall_mem];intro x hx;simp[qhC] at hx;rcases hx with ⟨j,_,rfl⟩|⟨j,_,rfl⟩ <;> rfl
theorem quV {o:Oper} {ops:Array Oper} {rest:List Oper} {a:Act} {W:World} {Q:Exit→Act→World→Prop} (hgd:o.guard=none) (x:Operand) (ho:o.op=.load 225 x) (b:Nat) (hx:a.eval x=.pointer (some ⟨b,0,none⟩)) (F D:Nat→Nat) (h:Otl W b F D)
  (hk:wpList Tryz.prog ops Q rest (a.put o.dst (.agg (qhC F D).toArray)) W):wpList Tryz.prog ops Q (o :: rest) a W :=
 wpList_load_row hgd 225 x ho b hx 225 (qhC F D).toArray (0,0) _ h Tryz.underlying225 rfl (by rw[qiN];exact q8P) hk
theorem qr6 {o:Oper} {ops:Array Oper} {rest:List Oper} {a:Act} {W:World} {Q:Exit→Act→World→Prop} (hgd:o.guard=none) (x y:Operand) (ho:o.op=.store 225 x y) (r:Nat) (F D F0 D0:Nat→Nat) (hx:a.eval x=.pointer (some ⟨r,0,none⟩)) (hy:a.eval y=.agg (qhC F D).toArray) (h:Otl W r F0 D0)
  (hk:∀ W',Otl W' r F D→Below r W W'→wpList Tryz.prog ops Q rest (a.put o.dst undef) W'):wpList Tryz.prog ops Q (o :: rest) a W :=
 wpList_store_row hgd 225 x y ho r (qhC F D).toArray hx hy 225 (qhC F0 D0).toArray h (by rw[qiN];exact q8P) (by rw[qiN,qiN]) (qsX F D)
  (hk _ (setRow_heap W r _ _ _ (0,0) h) ⟨rfl,rfl,rfl,by simp[World.setRow],fun k hk=>setRow_other W r k _ (by omega)⟩)
theorem q0S {fn:Func} {p u:Tmp} {tmps:Array Value} {W:World} {r:Nat} {F D:Nat→Nat} (hf:fn.results=#[.cell p 225,.tmp u]) (hp:tmps.getD p undef=.pointer (some ⟨r,0,none⟩)) (h:Otl W r F D) :
  (results fn tmps).run Tryz.prog W=.ok (.tuple #[.agg (qhC F D).toArray,tmps.getD u undef]) W:=by
 have hl:=run_loadVar_row (P:=Tryz.prog) W r 225 225 (qhC F D).toArray (0,0) _ h Tryz.underlying225 rfl (by rw[qiN];exact q8P);have hp':tmps[p]?.getD undef=.pointer (some ⟨r,0,none⟩):=by simpa using hp
 rw[results_cell_tmp hf];simp[hp',asAddr,hl]
def zF:Nat→Nat:=fun _=>0
theorem qq5 {m:Nat} (h:m<1000):wrap64 (m:Int)=(m:Int):=by
 unfold wrap64;omega
theorem qwA {W:World} {r:Nat} (h:Otl W r zF zF):(storeCells ⟨r,0,none⟩ Tryz.zeroCells225.toList).run Tryz.prog W=.ok () W:=by
 rw[← show (qhC zF zF).toArray=Tryz.zeroCells225 by kernel_rfl];have:=run_storeCells_from (P:=Tryz.prog) r 225 (qhC zF zF).toArray.toList 0 _ W h (by simp) (fun v hv=>(Array.all_eq_true_iff_forall_mem.1 (qsX zF zF)) v (by simpa using hv));rw[this];simp only[List.take_zero,List.nil_append,Array.toArray_toList];rw[setRow_self W r _ _ _ h]
def jc6 (fault:Int) (w:World) (e:Ending) (w':World):Prop:=(∃ F D,e=.returned (.tuple #[.agg (qhC F D).toArray,.int .i64 fault]))∧Below w.heap.size w w'
theorem qyL:(qhC zF zF).toArray=Tryz.zeroCells225:=by kernel_rfl
theorem qr5 (a:Option Addr) (n cap:Nat) (w:World) (hn:64<n) (hn2:n≤1000000000000):Calls Tryz.prog 159 #[.slice a n cap] w (jc6 52 w):=by
 have d0:decide ((64:Int)<(n:Int))=true:=decide_eq_true (by omega);obtain⟨W0,hW0,hr,hb,hB,hsz⟩:=qm0 w 225 (qhC zF zF) (qhC zF zF);rw[qyL] at hW0;have HW0:=hid hW0;have HR:Hid (Otl W0 w.heap.size zF zF):=hid hr;have HO:Hid (Otl W0 (w.heap.size+1) zF zF):=hid hb;have HB:=hid hB;clear hW0 hr hb hB;go_enter Tryz.func159,Tryz.ntmps159;go_upto_region 2 with (fail);rw[← HW0.out];go_upto_region 3 with (fail);apply wp_region_lit;refine quV rfl _ rfl (w.heap.size+1) rfl zF zF HO.out ?_;refine qr6 rfl _ _ rfl w.heap.size zF zF zF zF rfl rfl HR.out ?_;intro W1 hr1 hb1;have HR1:=hid hr1;have HB1:=hid (HB.out.trans hb1);clear hr1 hb1;go_wp2;exact bodyPost_ret (q0S rfl rfl HR1.out) rfl ⟨⟨_,_,rfl⟩,HB1.out⟩
theorem qtH:∀ t:Ex,dep t≤cnt t:=by
 intro t
 induction t with
 | lf l=>exact Nat.le_refl _
 | un k a ih=>show dep a+1≤cnt a+1;omega
 | bi k a b iha ihb=>show max (dep a) (dep b)+1≤cnt a+cnt b+1;omega
theorem jbP:∀ (t:Ex),∀ x ∈ qjY t,x≤cnt t:=by
 intro t
 induction t with
 | lf l=>intro x hx;simp[qjY] at hx;subst hx;exact Nat.le_refl _
 | un k a ih =>
  intro x hx;have hc:cnt (.un k a)=cnt a+1:=rfl;have:=qtH a;simp only[qjY,List.mem_append,List.mem_singleton] at hx;rcases hx with h|h
  ·have:=ih x h;omega
  ·omega
 | bi k a b iha ihb =>
  intro x hx;have hc:cnt (.bi k a b)=cnt a+cnt b+1:=rfl;have:=qtH a;have:=qtH b;simp only[qjY,List.mem_append,List.mem_singleton] at hx;rcases hx with h|h|h
  ·have:=iha x h;omega
  ·have:=ihb x h;omega
  ·omega
theorem q8V {l:List Nat} {j m:Nat} (h:∀ x ∈ l,x≤m):l.getD j 0≤m:=by
 rw[List.getD_eq_getElem?_getD];cases hj:l[j]? with
 | none=>exact Nat.zero_le _
 | some x=>exact h x (List.mem_of_getElem? hj)
theorem q70:eqB 0 0=true:=by decide
theorem qxG {F D:Nat→Nat} {i:Nat} {n:Nd} (hi:i<64) (h:StepN F D i n):∃ K,K<27∧PlainN K n∧eqB n.rl n.rl=true∧n.re=0∧n.im=0:=by
 rcases h with ⟨l,hl,hn,hF,hD⟩|⟨K,hK,hc,hi1,hn,hF,hD⟩|⟨K,m,hK,hc,hi1,hm,hn,hF,hD⟩
 ·obtain⟨K,hK,hP,_⟩:=qnF hl;refine⟨K,hK,by rw[hn];exact hP,?_,?_,?_⟩
  ·rw[hn];cases l with
   | real b=>exact ql6 (of_decide_eq_true hl)
   | var t=>exact q70
   | int v=>exact q70
   | text v=>exact q70
   | bool v=>exact q70
  ·rw[hn];cases l <;> rfl
  ·rw[hn];cases l <;> rfl
 ·exact⟨K,hK,.one _ (by omega) hc hn,by rw[hn];exact q70,by rw[hn];rfl,by rw[hn];rfl⟩
 ·exact⟨K,hK,.two _ _ (by omega) (by omega) hc hn,by rw[hn];exact q70,by rw[hn];rfl,by rw[hn];rfl⟩
theorem q6R (n:Nd) (h1:eqB n.rl n.rl=true) (h2:n.re=0) (h3:n.im=0) (W:World) :
  (binOp .neq 109 (.agg #[.int .i64 n.k,.int .i64 n.a,.int .i64 n.b,.string n.nm,.int .i64 n.vk,.int .i64 n.vi,.float .f64 n.rl,.complex .f64 0 0,.string n.tx]) (.agg #[.int .i64 n.k,.int .i64 n.a,.int .i64 n.b,.string n.nm,.int .i64 n.vk,.int .i64 n.vi,.float .f64 n.rl,.complex .f64 0 0,.string n.tx])).run Tryz.prog W=.ok (.bool false) W:=by
 have h1':(FloatKind.f64.format.order n.rl n.rl==some Ordering.eq)=true:=h1;have h0:(FloatKind.f64.format.order 0 0==some Ordering.eq)=true:=by decide
 have e1:(Op.equalIn 9998 57 (.float .f64 n.rl) (.float .f64 n.rl)).run Tryz.prog W=.ok (eqB n.rl n.rl) W:=rfl;have e2:(Op.equalIn 9998 105 (.complex .f64 0 0) (.complex .f64 0 0)).run Tryz.prog W=.ok (eqB 0 0 && eqB 0 0) W:=rfl;rw[h1] at e1;rw[q70] at e2;go_simp
def qcO (w:World) (g:Nat) (ns:List Nd):Prop:=∀ (i j:Nat) (v:Value),i<ns.length→(qaB (ns.getD i default))[j]?=some v→w.cell? ⟨g,i * 9+j,none⟩=some v
theorem qcO.keep {w w':World} {B g:Nat} {ns:List Nd} (h:qcO w g ns) (hb:Below B w w') (hg:g<B):qcO w' g ns:=fun i j v hi hj=>(hb.cell (p:=⟨g,i * 9+j,none⟩) hg).trans (h i j v hi hj)
theorem qsW (g cap:Nat) (t:Ex) (hw:WfT t) (hc:cnt t≤64) (w:World) (hN:qcO w g (lay 0 t)) (hT:Tab w) (hg:0<w.heap.size) (hgl:g<w.heap.size) :
  Calls Tryz.prog 159 #[.slice (some ⟨g,0,none⟩) (cnt t) cap] w (jc6 (if 12<dep t then 51 else 0) w):=by
 obtain⟨F,hF⟩:∃ F:Nat→Nat,F=fun j=>(qmM 0 t).getD j 0:=⟨_,rfl⟩
 obtain⟨D,hD⟩:∃ D:Nat→Nat,D=fun j=>(qjY t).getD j 0:=⟨_,rfl⟩
 have hst:=jcB F D t 0 hw (fun j _=>by rw[hF,Nat.zero_add]) (fun j _=>by rw[hD,Nat.zero_add]);have hDb:∀ j,D j≤900:=fun j=>by rw[hD];have:=q8V (l:=qjY t) (j:=j) (jbP t);simp only;omega
 have hF1:F (cnt t-1)=0:=by rw[hF];exact ql4 t 0
 have hD1:D (cnt t-1)=dep t:=by rw[hD];exact ql8 t
 have hp:=qeD t;have hNl:=qaF t 0;obtain⟨W0,hW0,hr,hb,hB,hsz⟩:=qm0 w 225 (qhC zF zF) (qhC zF zF);rw[qyL] at hW0;have HW0:=hid hW0;have HR:Hid (Otl W0 w.heap.size zF zF):=hid hr;have HO:Hid (Otl W0 (w.heap.size+1) zF zF):=hid hb;have HB:=hid hB;have HN:=hid (hN.keep hB hgl);have HT:=hid (hT.of_block (hB.block _ hg));have HST:=hid hst;have HDB:=hid hDb;have HF1:=hid hF1;have HD1:=hid hD1;have HNL:=hid hNl;obtain⟨N,hNN⟩:∃ N,N=cnt t:=⟨_,rfl⟩
 generalize hns:lay 0 t=ns at HN HST HNL;generalize hdp:dep t=dp at HD1 ⊢;rw[← hNN] at HF1 HD1 HNL hc hp HST ⊢;have d0:decide ((64:Int)<(N:Int))=false:=decide_eq_false (by omega);clear hF hD hst hDb hF1 hD1 hW0 hr hb hB hN hT hw hNl hns hdp hNN;have hsz1:=hid hsz;clear hsz;have HPC:=hid (And.intro hp hc);obtain⟨M,hM⟩:∃ M,M=N-1:=⟨_,rfl⟩
 rw[← hM] at HF1 HD1;have HM:=hid (show ((N:Int)-1)=(M:Int) by omega);have HM2:=hid hM;have HMW:=hid (qq5 (m:=M) (by omega));clear hM;clear hp hc;obtain⟨fl,hfl⟩:∃ fl:Int,fl=if 12<dp then 51 else 0:=⟨_,rfl⟩
 rw[← hfl];have HFL:=hid hfl;clear hfl;go_enter Tryz.func159,Tryz.ntmps159;go_upto_region 2 with (fail);rw[← HW0.out];go_wp2;rw[HM.out,HMW.out]
 go_loopw [17] (fun v wr=>∃ k:Nat,v=.int .i64 k∧k≤N∧Hid (∃ F1 D1,Otl wr (w.heap.size+1) F1 D1∧Agr F1 D1 F D k)∧Hid (Below (w.heap.size+1) W0 wr)) (fun v _=>N-(intOf v).toNat)
 case atStart=>exact⟨0,rfl,by omega,hid ⟨_,_,HO.out,fun j hj=>absurd hj (by omega)⟩,hid (Below.refl _ _)⟩
 case round =>
  obtain⟨k,rfl,hk,HA,HBR⟩:=hrel;obtain⟨hp,hc⟩:=HPC.out;rcases Nat.lt_or_ge k N with hlt|hge
  ·obtain⟨F1,D1,hO1,hA1⟩:=HA.out;have hgb:g<w.heap.size+1:=by omega
   have HNR:=hid (HN.out.keep HBR.out hgb);have hS:=HST.out k hlt;rw[Nat.zero_add] at hS;obtain⟨K,hK27,hPl,he1,he2,he3⟩:=qxG (by omega) hS;obtain⟨n,hn⟩:∃ n,n=ns.getD k default:=⟨_,rfl⟩
   have hkl:k<ns.length:=by rw[HNL.out];exact hlt
   rw[← hn] at hS hPl he1 he2 he3;have c0:wr.cell? ⟨g,k * 9,none⟩=some (.int .i64 n.k):=HNR.out k 0 _ hkl (by rw[← hn];rfl);have c1:wr.cell? ⟨g,k * 9+1,none⟩=some (.int .i64 n.a):=HNR.out k 1 _ hkl (by rw[← hn];rfl);have c2:wr.cell? ⟨g,k * 9+2,none⟩=some (.int .i64 n.b):=HNR.out k 2 _ hkl (by rw[← hn];rfl);have c3:wr.cell? ⟨g,k * 9+3,none⟩=some (.string n.nm):=HNR.out k 3 _ hkl (by rw[← hn];rfl);have c4:wr.cell? ⟨g,k * 9+4,none⟩=some (.int .i64 n.vk):=HNR.out k 4 _ hkl (by rw[← hn];rfl);have c5:wr.cell? ⟨g,k * 9+5,none⟩=some (.int .i64 n.vi):=HNR.out k 5 _ hkl (by rw[← hn];rfl);have c6:wr.cell? ⟨g,k * 9+6,none⟩=some (.float .f64 n.rl):=HNR.out k 6 _ hkl (by rw[← hn];rfl);have c7:wr.cell? ⟨g,k * 9+7,none⟩=some (.complex .f64 n.re n.im):=HNR.out k 7 _ hkl (by rw[← hn];rfl);have c8:wr.cell? ⟨g,k * 9+8,none⟩=some (.string n.tx):=HNR.out k 8 _ hkl (by rw[← hn];rfl);rw[he2,he3] at c7;have HO1:=hid hO1;have HA1:=hid hA1;have HS:=hid hS;have HPL:=hid hPl;have HNE:=q6R n he1 he2 he3;have he23:=hid (And.intro he2 he3);have hnd:ndV n=.agg #[.int .i64 n.k,.int .i64 n.a,.int .i64 n.b,.string n.nm,.int .i64 n.vk,.int .i64 n.vi,.float .f64 n.rl,.complex .f64 0 0,.string n.tx]:=by unfold ndV;rw[he2,he3]
   have HND:=hid hnd;have hncl:qaB n=[.int .i64 n.k,.int .i64 n.a,.int .i64 n.b,.string n.nm,.int .i64 n.vk,.int .i64 n.vi,.float .f64 n.rl,.complex .f64 0 0,.string n.tx]:=by unfold qaB;rw[he2,he3]
   have HNCL:=hid hncl;have sf:=qbQ;have sc:=qe9;have hwr:w.heap.size+1<wr.heap.size:=hO1.lt;clear hO1 hA1 hS hPl he1 he2 he3 hn hnd hncl;go_upto_region 8 with (fail);have hb8:Below wr.heap.size wr (wr.alloc (.cells #[.int .i64 n.k,.int .i64 n.a,.int .i64 n.b,.string n.nm,.int .i64 n.vk,.int .i64 n.vi,.float .f64 n.rl,.complex .f64 0 0,.string n.tx] 109)):=(Below.refl _ _).alloc (Nat.le_refl _) _;have HX8:Hid (Bx (wr.alloc (.cells #[.int .i64 n.k,.int .i64 n.a,.int .i64 n.b,.string n.nm,.int .i64 n.vk,.int .i64 n.vi,.float .f64 n.rl,.complex .f64 0 0,.string n.tx] 109)) wr.heap.size 109 [.int .i64 n.k,.int .i64 n.a,.int .i64 n.b,.string n.nm,.int .i64 n.vk,.int .i64 n.vi,.float .f64 n.rl,.complex .f64 0 0,.string n.tx]):=hid (Bx.new wr _ _);have HO8:=hid (HO1.out.keep hb8 hwr);have HB8:=hid (HBR.out.trans (hb8.mono (Nat.le_of_lt hwr)));have HZ8:Hid ((wr.alloc (.cells #[.int .i64 n.k,.int .i64 n.a,.int .i64 n.b,.string n.nm,.int .i64 n.vk,.int .i64 n.vi,.float .f64 n.rl,.complex .f64 0 0,.string n.tx] 109)).heap.size=wr.heap.size+1):=hid (by simp);clear hb8 c0 c1 c2 c3 c4 c5 c6 c7 c8;generalize wr.alloc (.cells #[.int .i64 n.k,.int .i64 n.a,.int .i64 n.b,.string n.nm,.int .i64 n.vk,.int .i64 n.vi,.float .f64 n.rl,.complex .f64 0 0,.string n.tx] 109)=W8 at HX8 HO8 HB8 HZ8 ⊢;have HP:Hid (∀ W,Below W8.heap.size W8 W→Calls Tryz.prog 184 #[.agg #[.int .i64 n.k,.int .i64 n.a,.int .i64 n.b,.string n.nm,.int .i64 n.vk,.int .i64 n.vi,.float .f64 n.rl,.complex .f64 0 0,.string n.tx],.int .i64 0] W fun e w'=>e=.returned (.agg #[.int .i64 n.k,.int .i64 n.a,.int .i64 n.b,.string n.nm,.int .i64 n.vk,.int .i64 n.vi,.float .f64 n.rl,.complex .f64 0 0,.string n.tx])∧Below W.heap.size W w'):=hid (fun W hW=>by
    have:=qqY K n hK27 HPL.out W (HT.out.of_block ((HB8.out.trans (hW.mono (by have:=HZ8.out;omega))).block _ (by omega))) (by have:=hW.size;have:=HZ8.out;omega);rw[HND.out] at this;exact this)
   have HQ:Hid (∀ W,Below W8.heap.size W8 W→Calls Tryz.prog 185 #[.pointer (some ⟨w.heap.size+1,0,none⟩),.int .i64 k,.agg #[.int .i64 n.k,.int .i64 n.a,.int .i64 n.b,.string n.nm,.int .i64 n.vk,.int .i64 n.vi,.float .f64 n.rl,.complex .f64 0 0,.string n.tx]] W (q35 (w.heap.size+1) k F D W)):=hid (fun W hW=>by
    have:=q0M (w.heap.size+1) k F1 D1 F D n W (HO8.out.keep hW HO8.out.lt) (by omega) HA1.out HDB.out HS.out (HT.out.of_block ((HB8.out.trans (hW.mono (by have:=HZ8.out;omega))).block _ (by omega))) (by omega);rw[HND.out] at this;exact this)
   have k0:=HX8.out.c 0 rfl;have k1:=HX8.out.c 1 rfl;have k2:=HX8.out.c 2 rfl;have k3:=HX8.out.c 3 rfl;have k4:=HX8.out.c 4 rfl;have k5:=HX8.out.c 5 rfl;have k6:=HX8.out.c 6 rfl;have k7:=HX8.out.c 7 rfl;have k8:=HX8.out.c 8 rfl;skip;have hz8:wr.heap.size<W8.heap.size:=HX8.out.lt
   go_region_held3 (fun W'=>W'.cell? ⟨wr.heap.size,0,none⟩=some (.int .i64 n.k)∧W'.cell? ⟨wr.heap.size,1,none⟩=some (.int .i64 n.a)∧W'.cell? ⟨wr.heap.size,2,none⟩=some (.int .i64 n.b)∧W'.cell? ⟨wr.heap.size,3,none⟩=some (.string n.nm)∧W'.cell? ⟨wr.heap.size,4,none⟩=some (.int .i64 n.vk)∧W'.cell? ⟨wr.heap.size,5,none⟩=some (.int .i64 n.vi)∧W'.cell? ⟨wr.heap.size,6,none⟩=some (.float .f64 n.rl)∧W'.cell? ⟨wr.heap.size,7,none⟩=some (.complex .f64 0 0)∧W'.cell? ⟨wr.heap.size,8,none⟩=some (.string n.tx))
    (first|(refine⟨?_,?_,?_,?_,?_,?_,?_,?_,?_⟩ <;> assumption)|go_keep)
    (first
     | (go_at_call 184;with_reducible refine(HP.out _ (by first|exact Below.refl _ _|exact qa0 _)).mono ?_;rintro e w9 ⟨rfl,hb9⟩;have hb9:Below W8.heap.size W8 w9:=(by first|exact hb9|exact(qa0 _).trans (hb9.mono (qa0 _).size));have HB9:=hid hb9;have HX9:=hid (HX8.out.keep hb9 HX8.out.lt);clear hb9;have k0:=HX9.out.c 0 rfl;have k1:=HX9.out.c 1 rfl;have k2:=HX9.out.c 2 rfl;have k3:=HX9.out.c 3 rfl;have k4:=HX9.out.c 4 rfl;have k5:=HX9.out.c 5 rfl;have k6:=HX9.out.c 6 rfl;have k7:=HX9.out.c 7 rfl;have k8:=HX9.out.c 8 rfl;have hz9:wr.heap.size<w9.heap.size:=HX9.out.lt)
     | (go_at_call 185;with_reducible refine(HQ.out _ HB9.out).mono ?_;rintro e w10 hpd;unfold q35 at hpd;obtain⟨hpe,hp10,hb10,hx10⟩:=hpd;subst hpe;have HP10:=hid hp10;have HB10:=hid (HB8.out.trans ((HB9.out.mono (by have:=HO8.out.lt;omega)).trans hb10));have HX10:Hid (Bx w10 wr.heap.size 109 [.int .i64 n.k,.int .i64 n.a,.int .i64 n.b,.string n.nm,.int .i64 n.vk,.int .i64 n.vi,.float .f64 n.rl,.complex .f64 0 0,.string n.tx]):=hid (HX9.out.oth hx10 (by omega));clear hp10 hb10 hx10;have k0:=HX10.out.c 0 rfl;have k1:=HX10.out.c 1 rfl;have k2:=HX10.out.c 2 rfl;have k3:=HX10.out.c 3 rfl;have k4:=HX10.out.c 4 rfl;have k5:=HX10.out.c 5 rfl;have k6:=HX10.out.c 6 rfl;have k7:=HX10.out.c 7 rfl;have k8:=HX10.out.c 8 rfl;have hz10:wr.heap.size<w10.heap.size:=HX10.out.lt))
   go_wp2;go_roundw
   case rel=>exact⟨k+1,by go_num,by omega,HP10,HB10⟩
   case measure=>simp[intOf];omega
  ·obtain rfl:k=N:=by omega
   obtain⟨F1,D1,hO1,hA1⟩:=HA.out;have hM64:M<64:=by have:=HM2.out;omega
   obtain⟨g1,g2⟩:=hA1 M (by have:=HM2.out;omega);have c1:=hO1.cF hM64;have c2:=hO1.cD hM64;rw[g1,HF1.out] at c1;rw[g2,HD1.out] at c2;have c1':wr.cell? ⟨w.heap.size+1,M,none⟩=some (.int .i64 0):=c1;have e1:(M:Int)<64:=by omega
   have HO1:=hid hO1;have HR1:Hid (Otl wr w.heap.size zF zF):=hid (HR.out.keep HBR.out (by omega));have HBW:Hid (Below w.heap.size w wr):=hid (HB.out.trans (HBR.out.mono (by omega)));clear hO1 hA1 g1 g2 c1;by_cases hd:12<dp
   ·have d12:decide ((12:Int)<(dp:Int))=true:=decide_eq_true (by omega);have HE:Hid (fl=51):=hid (by rw[HFL.out,if_pos hd]);clear hd;have hz:=qwA HR1.out;go_wp2;exact bodyPost_ret (q0S rfl rfl HR1.out) rfl ⟨⟨_,_,by rw[HE.out];rfl⟩,HBW.out⟩
   ·have d12:decide ((12:Int)<(dp:Int))=false:=decide_eq_false (by omega);have HE:Hid (fl=0):=hid (by rw[HFL.out,if_neg hd]);clear hd;go_upto_region 15 with (fail);apply wp_region_lit;refine quV rfl _ rfl (w.heap.size+1) rfl F1 D1 HO1.out ?_;refine qr6 rfl _ _ rfl w.heap.size F1 D1 zF zF rfl rfl HR1.out ?_;intro W1 hr1 hb1;have HR2:=hid hr1;have HB2:=hid (HBW.out.trans hb1);clear hr1 hb1;go_wp2;exact bodyPost_ret (q0S rfl rfl HR2.out) rfl ⟨⟨_,_,by rw[HE.out];rfl⟩,HB2.out⟩
def qcW (t:Ex):Int:=if 64<cnt t then 52 else if 12<dep t then 51 else 0
theorem jaK (g cap:Nat) (t:Ex) (hw:WfT t) (hc:cnt t≤1000000000000) (w:World) (hN:qcO w g (lay 0 t)) (hT:Tab w) (hg:0<w.heap.size) (hgl:g<w.heap.size) :
  Calls Tryz.prog 159 #[.slice (some ⟨g,0,none⟩) (cnt t) cap] w (jc6 (qcW t) w):=by
 unfold qcW;by_cases h:64<cnt t
 ·rw[if_pos h];exact qr5 _ _ _ w h hc
 ·rw[if_neg h];exact qsW g cap t hw (by omega) w hN hT hg hgl
theorem q89 {W:World} {r:Nat} {F0 D0:Nat→Nat} (F D:Nat→Nat) (h:Otl W r F0 D0):(storeCells ⟨r,0,none⟩ (qhC F D)).run Tryz.prog W=.ok () (W.setRow r (qhC F D).toArray):=by
 have:=run_storeCells_from (P:=Tryz.prog) r 225 (qhC F D) 0 _ W h (by simp[qoT]) (fun v hv=>(Array.all_eq_true_iff_forall_mem.1 (qsX F D)) v (by simpa using hv));rw[this];simp only[List.take_zero,List.nil_append]
theorem q2N {B r:Nat} {w W:World} (hb:Below B w W) (hr:B≤r) (cs:Array Value):Below B w (W.setRow r cs):=hb.trans ⟨rfl,rfl,rfl,by simp[World.setRow],fun k hk=>setRow_other W r k cs (by omega)⟩
theorem qvR (g cap:Nat) (t:Ex) (hw:WfT t) (hc:cnt t≤1000000000000) (w:World) (hN:qcO w g (lay 0 t)) (hT:Tab w) (hg:0<w.heap.size) (hgl:g<w.heap.size) :
  Calls Tryz.prog 141 #[.agg #[.slice (some ⟨g,0,none⟩) (cnt t) cap]] w fun e w'=>e=.returned (.int .i64 (qcW t))∧Below w.heap.size w w':=by
 obtain⟨W0,hW0⟩:∃ W0,W0=w.alloc (.cells #[.slice (some ⟨g,0,none⟩) (cnt t) cap] 41):=⟨_,rfl⟩
 have hb0:Below w.heap.size w W0:=by rw[hW0];exact(Below.refl _ w).alloc (Nat.le_refl _) _
 have hx0:Bx W0 w.heap.size 41 [.slice (some ⟨g,0,none⟩) (cnt t) cap]:=by rw[hW0];exact Bx.new w _ _
 have HO:=hid (jaK g cap t hw hc W0 (hN.keep hb0 hgl) (hT.of_block (hb0.block _ hg)) (by have:=hb0.size;omega) (by have:=hb0.size;omega));have c0:=hx0.c 0 rfl;have HB0:=hid hb0;have HW0:=hid hW0;generalize qcW t=fl at HO ⊢;generalize cnt t=N at HO HW0 c0 hx0 ⊢;clear hW0 hb0 hx0 hN hT hw hc;go_enter Tryz.func141,Tryz.ntmps141;go_upto_region 1 with (fail);rw[← HW0.out];go_wp2_with (go_at_call 159;refine HO.out.mono ?_;rintro e w1 hpd;unfold jc6 at hpd;obtain⟨⟨F,D,hpe⟩,hb1⟩:=hpd;subst hpe;have HB1:=hid (HB0.out.trans (hb1.mono HB0.out.size));clear hb1;have hl:=qoT F D;have hz:=q89 F D (show Otl (w1.alloc (.cells Tryz.zeroCells225 225)) w1.heap.size zF zF from qyL ▸ heap_alloc_new _ _));go_ret;exact⟨rfl,q2N (HB1.out.alloc HB1.out.size _) HB1.out.size _⟩
theorem qvO:∀ (ns:List Nd) (k j:Nat),k<ns.length→j<9→(qg3 ns)[k * 9+j]?=(qaB (ns.getD k default))[j]?
 | [],k,j,h,_=>by simp at h
 | y :: ys,0,j,h,hj=>by
  have hl:(qaB y).length=9:=rfl;unfold qg3;rw[List.flatMap_cons,List.getElem?_append_left (by omega)];simp
 | y :: ys,k+1,j,h,hj=>by
  have hl:(qaB y).length=9:=rfl;have:=qvO ys k j (by simpa using h) hj;unfold qg3 at this ⊢;rw[List.flatMap_cons,List.getElem?_append_right (by omega),hl];rw[show (k+1) * 9+j-9=k * 9+j by omega]
  simpa using this
theorem qxJ {n:Nd} {j:Nat} {v:Value} (h:(qaB n)[j]?=some v):j<9:=by
 obtain⟨hj,_⟩:=List.getElem?_eq_some_iff.1 h;exact hj
theorem qlZ {w:World} {base n:Nat} {e:TypeId} {v:Value} {ns:List Nd} (hn:ns.length=n) (h0:0<n) (h:w.ownsRow base e 9 v n (qg3 ns)):∃ g c,v=.slice (some ⟨g,0,none⟩) n c∧base≤g∧g<w.heap.size∧qcO w g ns:=by
 rcases h.2 with ⟨_,hn⟩|⟨g,c,cur,hv,hg,hgg,rest⟩
 ·omega
 ·have hlt:g<w.heap.size:=(Array.getElem?_eq_some_iff.1 hgg).1;subst hv;refine⟨g,c,rfl,hg,hlt,fun i j v hi hj=>?_⟩;have h9:=qxJ hj;rw[h.cellAt (i * 9+j) (by omega),qvO ns i j hi h9];exact hj
theorem St.nodes {w:World} {p cap k:Nat} {a:Option Addr} {L:List TokE} {nv:Value} {ns:List Nd} (h:St w p cap a L k nv ns) (h0:0<ns.length):∃ g c,nv=.slice (some ⟨g,0,none⟩) ns.length c∧p+1≤g∧g<w.heap.size∧qcO w g ns :=
 qlZ rfl h0 h.row
theorem q27 {fn:Func} {p:Tmp} {tmps:Array Value} {W:World} {g:Nat} {v:Value} (hf:fn.results=#[.cell p 41]) (hp:tmps.getD p undef=.pointer (some ⟨g,0,none⟩)) (h:Bx W g 41 [v]) :
  (results fn tmps).run Tryz.prog W=.ok (.agg #[v]) W:=results_cell_row hf _ _ g 41 _ (0,0) _ hp h Tryz.underlying41 rfl (by kernel_rfl)
def q7A (p g c from_:Nat) (t:Ex) (w:World) (e:Ending) (w':World):Prop :=
 ((qcW t≠0∧e=qbO from_ (qcW t))∨(qcW t=0∧e=.returned (.agg #[.slice (some ⟨g,0,none⟩) (cnt t) c])))∧Below w.heap.size w w'
theorem qkD (t:Ex):(qcW t=0∧cnt t≤64∧dep t≤12)∨qcW t=51∨qcW t=52:=by
 unfold qcW;by_cases h:64<cnt t
 ·rw[if_pos h];exact .inr (.inr rfl)
 ·rw[if_neg h];by_cases h2:12<dep t
  ·rw[if_pos h2];exact .inr (.inl rfl)
  ·rw[if_neg h2];exact .inl ⟨rfl,by omega,by omega⟩
theorem qxY (p cap k g c from_:Nat) (a:Option Addr) (L:List TokE) (t:Ex) (w:World) (hw:WfT t) (hc:cnt t≤1000000000000) (h:St w p cap a L k (.slice (some ⟨g,0,none⟩) (cnt t) c) (lay 0 t)) (hN:qcO w g (lay 0 t)) (hgl:g<w.heap.size) :
  Calls Tryz.prog 135 #[.pointer (some ⟨p,0,none⟩),.int .i64 from_] w (q7A p g c from_ t w):=by
 have c2:=h.rdr.c2;have hgp:=h.gp;have hlt:=h.rdr.lt;have HT:=hid h.tab;have HN:=hid hN;have HM:Hid (∀ W,Below w.heap.size w W→Calls Tryz.prog 141 #[.agg #[.slice (some ⟨g,0,none⟩) (cnt t) c]] W fun e w'=>e=.returned (.int .i64 (qcW t))∧Below W.heap.size W w') :=
  hid (fun W hW=>qvR g c t hw hc W (HN.out.keep hW hgl) (HT.out.of_block (hW.block _ (by omega))) (by have:=hW.size;omega) (by have:=hW.size;omega))
 have HF:=hid (qkD t);unfold q7A;generalize qcW t=fl at HM HF ⊢;generalize cnt t=N at HM c2 ⊢;clear h hN hw hc;obtain⟨W0,hW0⟩:∃ W0,W0=(w.alloc (.cells #[.slice none 0 0] 41)).alloc (.cells #[.slice (some ⟨g,0,none⟩) N c] 41):=⟨_,rfl⟩
 have hs1:(w.alloc (.cells #[.slice none 0 0] 41)).heap.size=w.heap.size+1:=by simp
 have hx0:Bx W0 w.heap.size 41 [.slice none 0 0]:=by
  rw[hW0];exact(Bx.new w 41 [.slice none 0 0]).keep ((Below.refl (w.heap.size+1) _).alloc (by omega) _) (by omega)
 have hx1:Bx W0 (w.heap.size+1) 41 [.slice (some ⟨g,0,none⟩) N c]:=by
  rw[hW0,← hs1];exact Bx.new _ 41 [.slice (some ⟨g,0,none⟩) N c]
 have hb0:Below w.heap.size w W0:=by rw[hW0];exact((Below.refl _ w).alloc (Nat.le_refl _) _).alloc (by omega) _
 have HW0:=hid hW0;have HX0:=hid hx0;have HX1:=hid hx1;have HB0:=hid hb0;clear hW0 hx0 hx1 hb0 hs1;by_cases h0:fl=0
 ·subst h0;clear HF;go_enter Tryz.func135,Tryz.ntmps135;go_wp2_with (fail);rw[← HW0.out];refine(HM.out _ HB0.out).mono ?_;rintro e w1 ⟨rfl,hb⟩;have HB:=hid (HB0.out.trans (hb.mono HB0.out.size));have hx0:=HX0.out.keep hb HX0.out.lt;have hx1:=HX1.out.keep hb HX1.out.lt;have a0:=hx0.c 0 rfl;have f0:=hx0.fz 0;have a1:=hx1.c 0 rfl;have HXA:=hid hx0;clear hb hx0 hx1;go_wp2;have HX2:Hid (Bx (w1.setCell ⟨w.heap.size,0,none⟩ (.slice (some ⟨g,0,none⟩) N c)) w.heap.size 41 [.slice (some ⟨g,0,none⟩) N c]):=hid (HXA.out.set 0 _);exact bodyPost_ret (q27 rfl rfl HX2.out) rfl ⟨.inr ⟨trivial,rfl⟩,HB.out.setCell (Nat.le_refl _) _⟩
 ·have d1:(fl==0)=false:=beq_eq_false_iff_ne.2 h0;go_enter Tryz.func135,Tryz.ntmps135;go_wp2_with (fail);rw[← HW0.out];refine(HM.out _ HB0.out).mono ?_;rintro e w1 ⟨rfl,hb⟩;have HB:=hid (HB0.out.trans (hb.mono HB0.out.size));clear hb;have hgu:qbO from_ fl=.panicked [{ v:=.iface 190 (.agg #[.int .i64 from_,.int .i64 fl]),recovered:=false }]:=rfl;go_wp2;exact⟨rfl,.inl ⟨h0,rfl⟩,HB.out⟩
def jcL (L:List TokE) (n q:Nat):Int:=if q=L.length then n else (L.getD q default).pl
theorem qeL {W:World} {b c:Nat} {i j:Nat} {v:Value} {x:Option Value} (h:b≠c) (h2:W.cell? ⟨c,j,none⟩=x):(W.setCell ⟨b,i,none⟩ v).cell? ⟨c,j,none⟩=x :=
 (World.cell?_setCell_other _ _ _ _ (fun e=>h (congrArg Addr.block e))).trans h2
def jbY (B pe pa pf:Nat) (at_ fl:Int) (w w':World):Prop :=
 Bx w' pe 41 [.slice none 0 0]∧Bx w' pa 3 [.int .i64 at_]∧Bx w' pf 30 [.int .i64 fl]∧Below B w w'
end Go.Proofs.YtenlhcgpajphhaaGreatDoor
namespace Go.Proofs.YtenlhcgpajphhaaGreatDoor
open Go.RowKit
set_option linter.all false
def inR (N:Nat):Rs→Prop
 | .ok _ q=>q≤N
 | .bad q=>q≤N
theorem qtF {L:List TokE} {k:Nat} (h:¬ k<L.length):gL L k=.no:=by unfold gL;rw[if_neg h]
theorem qrJ {L:List TokE} {k:Nat} {s:List UInt8} (h:isM (gL L k) s=true):k<L.length:=by
 rcases Nat.lt_or_ge k L.length with h'|h'
 ·exact h'
 ·rw[qtF (by omega)] at h;cases h
theorem qhA {N:Nat} {o:Option Rs} {k:Ex→Nat→Option Rs} {r:Rs} (h:qjF o k=some r) (h1:∀ x,o=some x→inR N x) (h2:∀ a q,q≤N→k a q=some r→inR N r):inR N r:=by
 unfold qjF at h;cases ho:o with
 | none=>rw[ho] at h;cases h
 | some x =>
  rw[ho] at h;have hx:=h1 x ho;cases x with
  | ok a e=>exact h2 a e hx h
  | bad e=>cases h;exact hx
theorem jaB (L:List TokE):∀ (f:Nat) (X:Nt) (p:Nat) (r:Rs),(∀ n a,X=.loop n a→1≤n)→(∀ n,X=.lvl n→1≤n)→p≤L.length→rd (gL L) f X p=some r→inR L.length r:=by
 intro f
 induction f with
 | zero=>intro X p r _ _ _ h;unfold rd at h;cases h
 | succ f ih =>
  intro X p r hl hv hp h;have ih1:∀ n p r,1≤n→p≤L.length→rd (gL L) f (.lvl n) p=some r→inR L.length r:=fun n p r hn hp h=>ih _ _ _ (fun _ _ e=>by cases e) (fun _ e=>by cases e;exact hn) hp h;cases X with
  | lvl n =>
   have hn:=hv n rfl;rw[rd] at h;split at h
   ·cases hg:gL L p with
    | leaf l =>
     rw[hg] at h;have hlt:p<L.length:=by
      rcases Nat.lt_or_ge p L.length with h'|h'
      ·exact h'
      ·rw[qtF (by omega)] at hg;cases hg
     cases h;exact hlt
    | mark s =>
     rw[hg] at h;have hlt:p<L.length:=by
      rcases Nat.lt_or_ge p L.length with h'|h'
      ·exact h'
      ·rw[qtF (by omega)] at hg;cases hg
     simp only at h;split at h
     ·refine qhA h (fun x hx=>ih1 1 _ _ (by omega) hlt hx) (fun a q hq hk=>?_);split at hk
      ·rename_i hm;cases hk;exact qrJ hm
      ·cases hk;exact hq
     ·cases h;exact hp
    | word k =>
     rw[hg] at h;have hlt:p<L.length:=by
      rcases Nat.lt_or_ge p L.length with h'|h'
      ·exact h'
      ·rw[qtF (by omega)] at hg;cases hg
     simp only at h;split at h
     ·rename_i hb;have hlt2:=qrJ hb;refine qhA h (fun x hx=>ih1 1 _ _ (by omega) hlt2 hx) (fun a q hq hk=>?_);split at hk
      ·split at hk
       ·rename_i hm;cases hk;exact qrJ hm
       ·cases hk;exact hq
      ·split at hk
       ·rename_i hm;have hlt3:=qrJ hm;refine qhA hk (fun x hx=>ih1 1 _ _ (by omega) hlt3 hx) (fun b q2 hq2 hk2=>?_);split at hk2
        ·rename_i hm2;cases hk2;exact qrJ hm2
        ·cases hk2;exact hq2
       ·cases hk;exact hq
     ·cases h;exact hlt
    | no=>rw[hg] at h;cases h;exact hp
   ·split at h
    ·split at h
     ·exact ih1 _ _ _ (by omega) hp h
     ·rename_i hs;have hlt:p<L.length:=by
       rcases Nat.lt_or_ge p L.length with h'|h'
       ·exact h'
       ·rw[qtF (by omega)] at hs;exact absurd rfl hs
      exact qhA h (fun x hx=>ih1 6 _ _ (by omega) hlt hx) (fun a q hq hk=>by cases hk;exact hq)
    ·exact qhA h (fun x hx=>ih1 _ _ _ (by omega) hp hx) (fun a q hq hk=>ih _ _ _ (fun _ _ e=>by cases e;exact hn) (fun _ e=>by cases e) hq hk)
  | loop n a =>
   have hn:=hl n a rfl;rw[rd] at h;split at h
   ·rename_i hop;have hlt:p<L.length:=by
     rcases Nat.lt_or_ge p L.length with h'|h'
     ·exact h'
     ·rw[qtF (by omega)] at hop;have e0:opL (clK .no)=0:=rfl;omega
    refine qhA h (fun x hx=>ih1 _ _ _ (by omega) hlt hx) (fun b q hq hk=>?_);split at hk
    ·cases hk;exact hq
    ·exact ih _ _ _ (fun _ _ e=>by cases e;exact hn) (fun _ e=>by cases e) hq hk
   ·cases h;exact hp
theorem Rd.bad_le {L:List TokE} {n p q:Nat} (hn:1≤n) (hp:p≤L.length) (h:Rd (gL L) (.lvl n) p (.bad q)):q≤L.length:=by
 obtain⟨f,hf⟩:=h;exact jaB L f _ _ _ (fun _ _ e=>by cases e) (fun _ e=>by cases e;exact hn) hp hf
theorem Rd.ok_le {L:List TokE} {n p q:Nat} {t:Ex} (hn:1≤n) (hp:p≤L.length) (h:Rd (gL L) (.lvl n) p (.ok t q)):q≤L.length:=by
 obtain⟨f,hf⟩:=h;exact jaB L f _ _ _ (fun _ _ e=>by cases e) (fun _ e=>by cases e;exact hn) hp hf
def qzB (t:Tok):TokE:=⟨t.kind,⟨t.text.toArray⟩,t.int,t.real,t.at_,t.size⟩
open Go.Shelf
open Lib(hid)
set_option maxRecDepth 100000
set_option maxHeartbeats 2000000
theorem qx9 (args:Array Value) (hz:args.size=3) (w:World):CallsD Tryz.prog 133 args .returning w fun e u' w'=>e=.returned (.tuple #[])∧u'=.returning∧w'=w:=by
 refine callsD_of_wpS Tryz.func133 rfl fun c₀ cs hu=>?_;obtain⟨v0,v1,v2,rfl⟩:∃ v0 v1 v2,args=#[v0,v1,v2]:=by
  obtain⟨l⟩:=args
  match l,hz with
  | [a,b,c],_=>exact⟨a,b,c,rfl⟩
 apply wpS_seq;apply wpS_region;simp[wpOpsS,go_sem,recoverD,hu,Tryz.ntmps133,Exit.thenS];refine wpS_of_wp (Code.wp_mono (Q:=fun e a' w'=>(e=.normal∨e=.ret)∧a'.defers=[]∧w'=w) ?_ ?_)
 ·rintro e a' w' ⟨he,hd,hs⟩;cases c₀;rcases he with rfl|rfl <;> simp_all [bodyPostS,results,Tryz.results133,Exit.thenS]
 refine Eq.mpr (congrArg (fun t:Array Value=>Code.wp Tryz.prog _ _ ⟨t,[]⟩ w) (show _=(#[v0,v1,v2,.nilIface,undef,.nilIface,undef,undef,undef,undef,undef,undef,undef,undef,undef]:Array Value) from rfl)) ?_;go_wp2
theorem qsQ (B pe pa pf q:Nat) (fl:Int) (ve va vf:Value) (w:World) (hxe:Bx w pe 41 [ve]) (hxa:Bx w pa 3 [va]) (hxf:Bx w pf 30 [vf])
  (hea:pe≠pa) (hef:pe≠pf) (haf:pa≠pf) (hBe:B≤pe) (hBa:B≤pa) (hBf:B≤pf) :
  CallsD Tryz.prog 133 #[.pointer (some ⟨pe,0,none⟩),.pointer (some ⟨pa,0,none⟩),.pointer (some ⟨pf,0,none⟩)] (.panicking [{ v:=.iface 190 (.agg #[.int .i64 q,.int .i64 fl]),recovered:=false }]) w fun e u' w' =>
   e=.returned (.tuple #[])∧u'=.panicking [{ v:=.iface 190 (.agg #[.int .i64 q,.int .i64 fl]),recovered:=true }]∧jbY B pe pa pf q fl w w':=by
 refine callsD_of_wpS Tryz.func133 rfl fun c₀ cs hu=>?_;apply wpS_seq;apply wpS_region;simp[wpOpsS,go_sem,recoverD,hu,Tryz.ntmps133,Exit.thenS];refine wpS_of_wp (Code.wp_mono (Q:=fun e a' w'=>(e=.normal∨e=.ret)∧a'.defers=[]∧jbY B pe pa pf q fl w w') ?_ ?_)
 ·rintro e a' w' ⟨he,hd,hs⟩;rcases he with rfl|rfl <;> simp_all [bodyPostS,results,Tryz.results133,Exit.thenS]
 refine Eq.mpr (congrArg (fun t:Array Value=>Code.wp Tryz.prog _ _ ⟨t,[]⟩ w) (show _=(#[.pointer (some ⟨pe,0,none⟩),.pointer (some ⟨pa,0,none⟩),.pointer (some ⟨pf,0,none⟩),.iface 190 (.agg #[.int .i64 q,.int .i64 fl]),undef,.iface 190 (.agg #[.int .i64 q,.int .i64 fl]),undef,undef,undef,undef,undef,undef,undef,undef,undef]:Array Value) from rfl)) ?_;have hass:∀ (v:Value) (W:World),(Instr.typeAssert (.iface 190 v) 20 190 false).run Tryz.prog W=.ok v W:=fun v W=>rfl;go_wp2_with (fail);obtain⟨W1,hW1⟩:∃ W1,W1=w.alloc (.cells #[.int .i64 q,.int .i64 fl] 190):=⟨_,rfl⟩
 have hb1:Below w.heap.size w W1:=by rw[hW1];exact(Below.refl _ w).alloc (Nat.le_refl _) _
 have hg:Bx W1 w.heap.size 190 [.int .i64 q,.int .i64 fl]:=by rw[hW1];exact Bx.new w _ _
 rw[← hW1];have g0:=hg.c 0 rfl;have g1:=hg.c 1 rfl;have he1:=hxe.keep hb1 hxe.lt;have ha1:=hxa.keep hb1 hxa.lt;have hf1:=hxf.keep hb1 hxf.lt;have e0:=he1.c 0 rfl;have a0:=ha1.c 0 rfl;have f0:=hf1.c 0 rfl;have ez:=he1.fz 0;have az:=ha1.fz 0;have fz:=hf1.fz 0;have HE:=hid he1;have HA:=hid ha1;have HF:=hid hf1;have HB1:=hid hb1;have lte:=hxe.lt;have lta:=hxa.lt;have ltf:=hxf.lt;clear hxe hxa hxf he1 ha1 hf1 hg hW1 hb1;go_region;have X1:Bx ((W1.setCell ⟨pe,0,none⟩ (.slice none 0 0)).setCell ⟨pa,0,none⟩ (.int .i64 q)) pe 41 [.slice none 0 0]:=(HE.out.set 0 _).other hea _ _;have X2:Bx ((W1.setCell ⟨pe,0,none⟩ (.slice none 0 0)).setCell ⟨pa,0,none⟩ (.int .i64 q)) pa 3 [.int .i64 q]:=(HA.out.other (Ne.symm hea) _ _).set 0 _;have X3:Bx ((W1.setCell ⟨pe,0,none⟩ (.slice none 0 0)).setCell ⟨pa,0,none⟩ (.int .i64 q)) pf 30 [vf]:=(HF.out.other (Ne.symm hef) _ _).other (Ne.symm haf) _ _;exact⟨.inl rfl,rfl,X1.other hef _ _,X2.other haf _ _,X3.set 0 _,((((HB1.out.mono (by omega)).setCell hBe _).setCell hBa _).setCell hBf _).drew⟩
def RdR (L:List TokE) (k:Nat) (o:Option Ex) (at_ f:Int):Prop :=
 (∃ q,Rd (gL L) (.lvl 1) k (.bad q)∧o=none∧at_=(q:Nat)∧f=50) ∨
 (∃ t q,Rd (gL L) (.lvl 1) k (.ok t q)∧qcW t≠0∧o=none∧at_=(k:Nat)∧f=qcW t) ∨
 (∃ t q,Rd (gL L) (.lvl 1) k (.ok t q)∧qcW t=0∧o=some t∧at_=(q:Nat)∧f=0)
def ReadD (L:List TokE) (k:Nat) (w:World) (e:Ending) (w':World):Prop :=
 ((∃ at_ f:Int,RdR L k none at_ f∧e=.returned (.tuple #[.agg #[.slice none 0 0],.int .i64 at_,.int .i64 f])) ∨
  (∃ t g c,∃ at_:Int,RdR L k (some t) at_ 0∧e=.returned (.tuple #[.agg #[.slice (some ⟨g,0,none⟩) (cnt t) c],.int .i64 at_,.int .i64 0])∧w.heap.size≤g∧g<w'.heap.size∧qcO w' g (lay 0 t)))∧Below w.heap.size w w'
theorem jcP (w:World) (T1 T2 T3:TypeId) (c1 c2 c3:List Value):∃ W,W=((w.alloc (.cells c1.toArray T1)).alloc (.cells c2.toArray T2)).alloc (.cells c3.toArray T3) ∧
  Bx W w.heap.size T1 c1∧Bx W (w.heap.size+1) T2 c2∧Bx W (w.heap.size+1+1) T3 c3∧Below w.heap.size w W∧W.heap.size=w.heap.size+3:=by
 have s1:(w.alloc (.cells c1.toArray T1)).heap.size=w.heap.size+1:=by simp
 have s2:((w.alloc (.cells c1.toArray T1)).alloc (.cells c2.toArray T2)).heap.size=w.heap.size+1+1:=by simp
 have x1:=Bx.new w T1 c1;have x2:=Bx.new (w.alloc (.cells c1.toArray T1)) T2 c2;have x3:=Bx.new ((w.alloc (.cells c1.toArray T1)).alloc (.cells c2.toArray T2)) T3 c3;rw[s1] at x2;rw[s2] at x3;have b2:Below (w.heap.size+1) (w.alloc (.cells c1.toArray T1)) ((w.alloc (.cells c1.toArray T1)).alloc (.cells c2.toArray T2)):=(Below.refl _ _).alloc (by omega) _;have b3:Below (w.heap.size+1+1) ((w.alloc (.cells c1.toArray T1)).alloc (.cells c2.toArray T2)) (((w.alloc (.cells c1.toArray T1)).alloc (.cells c2.toArray T2)).alloc (.cells c3.toArray T3)):=(Below.refl _ _).alloc (by omega) _;refine⟨_,rfl,(x1.keep b2 (by omega)).keep b3 (by omega),x2.keep b3 (by omega),x3,?_,by simp⟩;exact(((Below.refl _ w).alloc (Nat.le_refl _) _).trans (b2.mono (by omega))).trans (b3.mono (by omega))
theorem qfW {w w':World} {a:Option Addr} {L:List TokE} (h:qw7 w a L) (hb:∀ x,a=some x→∀ n,w'.heap[(x.add n).block]?=w.heap[(x.add n).block]?):qw7 w' a L:=fun i hi=>by
 obtain⟨x,hx,h0,h1,h2,h3,h4,h5⟩:=h i hi;have hl:=hb x hx (i * 6);exact⟨x,hx,(World.cell?_of_block hl).trans h0,(World.cell?_of_block (a:=⟨(x.add (i * 6)).block,_,none⟩) hl).trans h1,(World.cell?_of_block (a:=⟨(x.add (i * 6)).block,_,none⟩) hl).trans h2,(World.cell?_of_block (a:=⟨(x.add (i * 6)).block,_,none⟩) hl).trans h3,(World.cell?_of_block (a:=⟨(x.add (i * 6)).block,_,none⟩) hl).trans h4,(World.cell?_of_block (a:=⟨(x.add (i * 6)).block,_,none⟩) hl).trans h5⟩
theorem qlO {fn:Func} {p q r:Tmp} {t1 t2 t3:TypeId} (h:fn.results=#[.cell p t1,.cell q t2,.cell r t3]) (tmps:Array Value) (P:Program) (w:World) :
  (results fn tmps).run P w =
   ((asAddr (tmps.getD p undef)).run P w).andThen fun a w₁=>((loadVar t1 a).run P w₁).andThen fun v w₂ =>
   ((asAddr (tmps.getD q undef)).run P w₂).andThen fun a w₃=>((loadVar t2 a).run P w₃).andThen fun v2 w₄ =>
   ((asAddr (tmps.getD r undef)).run P w₄).andThen fun a w₅=>((loadVar t3 a).run P w₅).andThen fun v3 w₆=>.ok (.tuple #[v,v2,v3]) w₆:=by
 simp only[results,h];simp[Sem.run_bind,Result.andThen]
theorem quL {fn:Func} {p q r:Tmp} {tmps:Array Value} {W:World} {b1 b2 b3:Nat} {v:Value} {x y:Int} (hf:fn.results=#[.cell p 41,.cell q 3,.cell r 30])
  (h1:tmps.getD p undef=.pointer (some ⟨b1,0,none⟩)) (h2:tmps.getD q undef=.pointer (some ⟨b2,0,none⟩)) (h3:tmps.getD r undef=.pointer (some ⟨b3,0,none⟩))
  (x1:Bx W b1 41 [v]) (x2:Bx W b2 3 [.int .i64 x]) (x3:Bx W b3 30 [.int .i64 y]) :
  (results fn tmps).run Tryz.prog W=.ok (.tuple #[.agg #[v],.int .i64 x,.int .i64 y]) W:=by
 have c1:=x1.c 0 rfl;have c2:=x2.c 0 rfl;have c3:=x3.c 0 rfl;rw[qlO hf,h1,h2,h3];simp[asAddr,go_sem,c1,c2,c3,Result.andThen]
end Go.Proofs.YtenlhcgpajphhaaGreatDoor
namespace Go.Proofs.YtenlhcgpajphhaaGreatDoor
open Go.RowKit
set_option maxRecDepth 100000
set_option linter.all false
def RRd (w:World) (p:Nat) (tv:Value) (at_:Nat) (bad:Int):Prop:=w.heap[p]?=some (.cells #[tv,.int .i64 at_,.int .i64 bad] 181 (0,0))
structure RSt (w:World) (p cap:Nat) (a:Option Addr) (L:List TokE) (k:Nat) (bad:Int):Prop where
 rdr:RRd w p (.slice a L.length cap) k bad
 toks:qw7 w a L
 low:∀ x,a=some x→∀ n,(x.add n).block<p
 len:L.length≤140737488355328
 at_:k≤L.length
 sized:∀ i,(L.getD i default).tx.size≤140737488351232
 real:∀ i,(L.getD i default).rl<18446744073709551616
theorem q3K {w:World} {p:Nat} {a:Option Addr} {L:List TokE} (h:qw7 w a L) (low:∀ x,a=some x→∀ n,(x.add n).block<p) (o:Nat) (v:Value):qw7 (w.setCell ⟨p,o,none⟩ v) a L:=fun i hi=>by
 obtain⟨x,hx,h0,h1,h2,h3,h4,h5⟩:=h i hi;have hlow:=low x hx (i * 6);have hne:∀ o',(⟨p,o,none⟩:Addr)≠⟨(x.add (i * 6)).block,o',none⟩:=fun o' e=>by
  have:=congrArg Addr.block e;simp only at this;omega
 have hne0:(⟨p,o,none⟩:Addr)≠x.add (i * 6):=fun e=>by
  have:=congrArg Addr.block e;simp only at this;omega
 exact⟨x,hx,(World.cell?_setCell_other _ _ _ _ hne0).trans h0,(World.cell?_setCell_other _ _ _ _ (hne _)).trans h1,(World.cell?_setCell_other _ _ _ _ (hne _)).trans h2,(World.cell?_setCell_other _ _ _ _ (hne _)).trans h3,(World.cell?_setCell_other _ _ _ _ (hne _)).trans h4,(World.cell?_setCell_other _ _ _ _ (hne _)).trans h5⟩
def trC (n:Nd) (kids:Value):List Value:=[.int .i64 n.k,.string n.nm,.int .i64 n.vk,.int .i64 n.vi,.float .f64 n.rl,.complex .f64 n.re n.im,.string n.tx,kids]
def jc4 (q:Nat):Value:=.pointer (some ⟨q,0,none⟩)
def qmI (w:World) (p:Nat):Ex→Nat→Prop
 | .lf l,q=>p<q∧Bx w q 205 (trC (qaG l) (.slice none 0 0))
 | .un k a,q=>p<q∧∃ s c qa,p<s∧s<w.heap.size∧Bx w q 205 (trC (qdU k 0 0) (.slice (some ⟨s,0,none⟩) 1 c))∧w.cell? ⟨s,0,none⟩=some (jc4 qa)∧qmI w p a qa
 | .bi k a b,q=>p<q∧∃ s c qa qb,p<s∧s<w.heap.size∧Bx w q 205 (trC (qdU k 0 0) (.slice (some ⟨s,0,none⟩) 2 c))∧w.cell? ⟨s,0,none⟩=some (jc4 qa)∧w.cell? ⟨s,1,none⟩=some (jc4 qb)∧qmI w p a qa∧qmI w p b qb
end Go.Proofs.YtenlhcgpajphhaaGreatDoor
