import Derived.Test.YtkpboalccpancaaGreatDoorQMEbOwn
import Derived.Test.YtkpboalccpancaaGreatDoorQMEbLeaf
namespace Go.Proofs.YtkpboalccpancaaGreatDoor
open Go.RowKit Go.Shelf
open Lib(hid)
set_option maxRecDepth 100000
set_option linter.all false
set_option maxHeartbeats 1000000
def Agr (F0 D0 F D:Nat→Nat) (i:Nat):Prop:=∀ j,j<i→F0 j=F j∧D0 j=D j
def Oth (b:Nat) (w w':World):Prop:=w.heap.size≤w'.heap.size∧∀ k,k<w.heap.size→k≠b→w'.heap[k]?=w.heap[k]?
theorem Oth.of_below {b:Nat} {w w':World} (h:Below w.heap.size w w'):Oth b w w':=⟨h.size,fun k hk _=>h.block k hk⟩
theorem Oth.trans {b:Nat} {w w1 w2:World} (h:Oth b w w1) (h2:Oth b w1 w2):Oth b w w2:=⟨Nat.le_trans h.1 h2.1,fun k hk hb=>(h2.2 k (Nat.lt_of_lt_of_le hk h.1) hb).trans (h.2 k hk hb)⟩
theorem Oth.blk {b:Nat} {w w':World} (h:Oth b w w') {k:Nat} (hk:k<w.heap.size) (hb:k≠b):w'.heap[k]?=w.heap[k]?:=h.2 k hk hb
theorem Bx.oth {w w':World} {g b:Nat} {T:TypeId} {cs:List Value} (h:Bx w g T cs) (ho:Oth b w w') (hb:g≠b):Bx w' g T cs:=by
 have hl:=h.lt;unfold Bx at h ⊢;rw[ho.blk hl hb];exact h
theorem Oth.set {b:Nat} {w w1:World} (h:Oth b w w1) (j:Nat) (v:Value):Oth b w (w1.setCell ⟨b,j,none⟩ v):=⟨by have:=h.1;simpa using this,fun k hk hb=>(Below.heap_setCell _ _ _ _ hb).trans (h.2 k hk hb)⟩
def PlaceD (b i:Nat) (F D:Nat→Nat) (w:World) (e:Ending) (w':World):Prop:=e=.returned (.bool true)∧(∃ F1 D1,Otl w' b F1 D1∧Agr F1 D1 F D (i+1))∧Below b w w'∧Oth b w w'
theorem place_any (b i:Nat) (F0 D0 F D:Nat→Nat) (n:Nd) (w:World) (h:Otl w b F0 D0) (hi:i<64) (hA:Agr F0 D0 F D i) (hDb:∀ j,D j≤900) (hS:StepN F D i n) (hT:Tab w) (hg:0<b) :
  Calls Tryz.prog 160 #[.pointer (some ⟨b,0,none⟩),.int .i64 i,ndV n] w (PlaceD b i F D w):=by
 have hlt:=h.lt;obtain⟨W0,hW0,ha,hB⟩:∃ W0,W0=w.alloc (.cells (ndCells n).toArray 104)∧Bx W0 w.heap.size 104 (ndCells n)∧Below w.heap.size w W0:=⟨_,rfl,Bx.new w _ _,(Below.refl _ w).alloc (Nat.le_refl _) _⟩
 have hO:=h.keep hB hlt;have c1:=hO.cF hi;have c2:=hO.cD hi;have z1:=hO.fz i;have z2:=hO.fz (64+i);have HW0:Hid (W0=w.alloc (.cells #[.int .i64 n.k,.int .i64 n.a,.int .i64 n.b,.string n.nm,.int .i64 n.vk,.int .i64 n.vi,.float .f64 n.rl,.complex .f64 n.re n.im,.string n.tx] 104)):=hid hW0;have HA0:=hid ha;have HO:=hid hO;have HBW:=hid hB;have HS:=hid hS;have HAG:=hid hA;have HDB:=hid hDb;have HT:=hid (hT.of_block (hB.block _ (Nat.lt_trans hg hlt)));have sh:=shape_ch;clear h hW0 ha hB hO hS hA hDb hT;unfold ndV;go_enter Tryz.func160,Tryz.ntmps160;go_upto_region 1 with (fail);rw[← HW0.out];go_region;go_upto_region 2 with (fail);have HO1:Hid (Otl ((W0.setCell ⟨b,i,none⟩ (.int .i64 (i:Nat))).setCell ⟨b,64+i,none⟩ (.int .i64 1)).drew b (upd F0 i i) (upd D0 i 1)):=hid ((HO.out.setF hi i).setD hi 1);have HA1:Hid (Bx ((W0.setCell ⟨b,i,none⟩ (.int .i64 (i:Nat))).setCell ⟨b,64+i,none⟩ (.int .i64 1)).drew w.heap.size 104 (ndCells n)):=hid ((HA0.out.other (by omega) _ _).other (by omega) _ _);have HB1:Hid (Below b w ((W0.setCell ⟨b,i,none⟩ (.int .i64 (i:Nat))).setCell ⟨b,64+i,none⟩ (.int .i64 1)).drew):=hid ((((HBW.out.mono (Nat.le_of_lt hlt)).setCell (Nat.le_refl _) _).setCell (Nat.le_refl _) _).drew);have HT1:Hid (Tab ((W0.setCell ⟨b,i,none⟩ (.int .i64 (i:Nat))).setCell ⟨b,64+i,none⟩ (.int .i64 1)).drew):=hid (HT.out.of_block ((Below.heap_setCell _ _ _ _ (by show _≠b;omega)).trans (Below.heap_setCell _ _ _ _ (by show _≠b;omega))));have HX1:Hid (Oth b w ((W0.setCell ⟨b,i,none⟩ (.int .i64 (i:Nat))).setCell ⟨b,64+i,none⟩ (.int .i64 1)).drew):=hid (((Oth.of_below HBW.out).set _ _).set _ _);generalize ((W0.setCell ⟨b,i,none⟩ (.int .i64 (i:Nat))).setCell ⟨b,64+i,none⟩ (.int .i64 1)).drew=W1 at HO1 HA1 HB1 HT1 HX1 ⊢;clear c1 c2 z1 z2 HO HT HA0 HBW HW0;rcases HS.out with ⟨l,hl,hn,hF,hD⟩|⟨K,hK,hc,hi1,hn,hF,hD⟩|⟨K,m,hK,hc,hi1,hm,hn,hF,hD⟩
 ·have hkv:∃ K:Nat,n.k=K∧K<27∧shCh K=0:=by
   rw[hn];cases l with
   | var t=>exact⟨2,rfl,by decide,rfl⟩
   | int v=>exact⟨1,rfl,by decide,rfl⟩
   | real v=>exact⟨1,rfl,by decide,rfl⟩
   | text v=>exact⟨1,rfl,by decide,rfl⟩
   | bool v=>exact⟨1,rfl,by decide,rfl⟩
  obtain⟨K,hk,hK,hch⟩:=hkv;have HSH:=hid (shapeOf_any K hK W1 HT1.out (Nat.lt_trans hg HO1.out.lt));rw[hch] at HSH;have HLF:=hid (fun W hT hg=>isLeaf_any l (fun b hb=>by rw[hb] at hl;have:=of_decide_eq_true hl;omega) W hT hg);rw[hl,← hn] at HLF;unfold ndV at HLF;rw[hk] at HLF;have hk0:=hid hk;have k0:=HA1.out.c 0 rfl;rw[hk] at k0;have HF:Hid (Agr (upd F0 i i) (upd D0 i 1) F D (i+1)):=hid (fun j hj=>by
   rcases Nat.lt_or_ge j i with h|h
   ·rw[upd_other _ _ (by omega),upd_other _ _ (by omega)];exact HAG.out j h
   ·obtain rfl:j=i:=by omega
    rw[upd_same,upd_same,hF,hD];exact⟨rfl,rfl⟩)
  clear hn hl hF hD HS hch hk;go_upto_region 8 with (go_at_call 184;refine HSH.out.mono ?_;rintro e w2 ⟨rfl,hb2⟩;have HO2:=hid (HO1.out.keep hb2 HO1.out.lt);have HA2:=hid (HA1.out.keep hb2 HA1.out.lt);have HB2:=hid (HB1.out.trans (hb2.mono (Nat.le_of_lt HO1.out.lt)));have HT2:=hid (HT1.out.of_block (hb2.block _ (Nat.lt_trans hg HO1.out.lt)));have HX2:=hid (HX1.out.trans (Oth.of_below hb2));clear hb2;have k0:=HA2.out.c 0 rfl;rw[hk0.out] at k0;have k1:=HA2.out.c 1 rfl;have k2:=HA2.out.c 2 rfl;have k3:=HA2.out.c 3 rfl;have k4:=HA2.out.c 4 rfl;have k5:=HA2.out.c 5 rfl;have k6:=HA2.out.c 6 rfl;have k7:=HA2.out.c 7 rfl;have k8:=HA2.out.c 8 rfl);have HL2:=hid (HLF.out w2 HT2.out (Nat.lt_trans hg HO2.out.lt));clear HLF;go_wp2_with (go_at_call 187;with_reducible refine HL2.out.mono ?_;rintro e w3 ⟨rfl,hb3⟩;have HO3:=hid (HO2.out.keep hb3 HO2.out.lt);have HB3:=hid (HB2.out.trans (hb3.mono (Nat.le_of_lt HO2.out.lt)));have HX3:=hid (HX2.out.trans (Oth.of_below hb3));clear hb3);go_ret;exact⟨rfl,⟨_,_,HO3.out,HF.out⟩,HB3.out,HX3.out⟩
 ·subst hn;have HSH:=hid (shapeOf_any K hK W1 HT1.out (Nat.lt_trans hg HO1.out.lt));rw[hc] at HSH;have k0:W1.cell? ⟨w.heap.size,0,none⟩=some (.int .i64 K):=HA1.out.c 0 rfl;have e1:upd F0 i i i=(i-1)+1:=by rw[upd_same];omega
  obtain⟨f1,f2⟩:=HAG.out (i-1) (by omega);have e2:upd D0 i 1 (i-1)≤1000:=by rw[upd_other _ _ (by omega),f2];have:=HDB.out (i-1);omega
  have HJ:=hid (fun W hO=>join_any b i (i-1) (upd F0 i i) (upd D0 i 1) W hO hi (by omega) e1 e2);have HF:Hid (Agr (upd (upd F0 i i) i (upd F0 i i (i-1))) (upd (upd D0 i 1) i (max (upd D0 i 1 i) (upd D0 i 1 (i-1)+1))) F D (i+1)):=hid (fun j hj=>by
   rcases Nat.lt_or_ge j i with h|h
   ·rw[upd_other _ _ (by omega),upd_other _ _ (by omega),upd_other _ _ (by omega),upd_other _ _ (by omega)];exact HAG.out j h
   ·obtain rfl:j=i:=by omega
    rw[upd_same,upd_same,upd_same,upd_other _ _ (by omega),upd_other _ _ (by omega),f1,f2,hF,hD];exact⟨rfl,by omega⟩)
  clear hc hF hD HS e1 e2 f1 f2;go_upto_region 7 with (go_at_call 184;refine HSH.out.mono ?_;rintro e w2 ⟨rfl,hb2⟩;have HO2:=hid (HO1.out.keep hb2 HO1.out.lt);have HA2:=hid (HA1.out.keep hb2 HA1.out.lt);have HB2:=hid (HB1.out.trans (hb2.mono (Nat.le_of_lt HO1.out.lt)));have HT2:=hid (HT1.out.of_block (hb2.block _ (Nat.lt_trans hg HO1.out.lt)));have HX2:=hid (HX1.out.trans (Oth.of_below hb2));clear hb2;have k1:w2.cell? ⟨w.heap.size,1,none⟩=some (.int .i64 ((i-1:Nat):Int)):=HA2.out.c 1 rfl);go_wp2_with (go_at_call 186;refine(HJ.out _ HO2.out).mono ?_;rintro e w3 ⟨rfl,ho3,hb3,hx3⟩;have HO3:=hid ho3;have HB3:=hid (HB2.out.trans hb3);have HX3:=hid (HX2.out.trans ⟨hb3.size,fun k _ hk=>hx3 k hk⟩);clear hb3 ho3 hx3);go_ret;exact⟨rfl,⟨_,_,HO3.out,HF.out⟩,HB3.out,HX3.out⟩
 ·subst hn;have HSH:=hid (shapeOf_any K hK W1 HT1.out (Nat.lt_trans hg HO1.out.lt));rw[hc] at HSH;have k0:W1.cell? ⟨w.heap.size,0,none⟩=some (.int .i64 K):=HA1.out.c 0 rfl;have e1:upd F0 i i i=(i-1)+1:=by rw[upd_same];omega
  obtain⟨f1,f2⟩:=HAG.out (i-1) (by omega);obtain⟨g1,g2⟩:=HAG.out m (by omega);have e2:upd D0 i 1 (i-1)≤1000:=by rw[upd_other _ _ (by omega),f2];have:=HDB.out (i-1);omega
  have HJ:=hid (fun W hO=>join_any b i (i-1) (upd F0 i i) (upd D0 i 1) W hO hi (by omega) e1 e2);obtain⟨F2,hF2⟩:∃ F2,F2=upd (upd F0 i i) i (upd F0 i i (i-1)):=⟨_,rfl⟩
  obtain⟨D2,hD2⟩:∃ D2,D2=upd (upd D0 i 1) i (max (upd D0 i 1 i) (upd D0 i 1 (i-1)+1)):=⟨_,rfl⟩
  rw[← hF2,← hD2] at HJ;have e3:F2 i=m+1:=by rw[hF2,upd_same,upd_other _ _ (by omega),f1,hm]
  have e4:D2 i=max 1 (D (i-1)+1):=by rw[hD2,upd_same,upd_same,upd_other _ _ (by omega),f2]
  have e5:∀ j,j<i→F2 j=F j∧D2 j=D j:=fun j h=>by
   rw[hF2,hD2,upd_other _ _ (by omega),upd_other _ _ (by omega),upd_other _ _ (by omega),upd_other _ _ (by omega)];exact HAG.out j h
  have e6:D2 m≤1000:=by rw[(e5 m (by omega)).2];have:=HDB.out m;omega
  have HJ2:=hid (fun W hO=>join_any b i m F2 D2 W hO hi (by omega) e3 e6);have HF:Hid (Agr (upd F2 i (F2 m)) (upd D2 i (max (D2 i) (D2 m+1))) F D (i+1)):=hid (fun j hj=>by
   rcases Nat.lt_or_ge j i with h|h
   ·rw[upd_other _ _ (by omega),upd_other _ _ (by omega)];exact e5 j h
   ·obtain rfl:j=i:=by omega
    obtain⟨q1,q2⟩:=e5 m (by omega);rw[upd_same,upd_same,q1,q2,e4,hF,hD];exact⟨rfl,by omega⟩)
  clear hc hF hD HS e1 e2 e3 e4 e5 e6 f1 f2 g1 g2 hm hF2 hD2;go_upto_region 5 with (go_at_call 184;refine HSH.out.mono ?_;rintro e w2 ⟨rfl,hb2⟩;have HO2:=hid (HO1.out.keep hb2 HO1.out.lt);have HA2:=hid (HA1.out.keep hb2 HA1.out.lt);have HB2:=hid (HB1.out.trans (hb2.mono (Nat.le_of_lt HO1.out.lt)));have HT2:=hid (HT1.out.of_block (hb2.block _ (Nat.lt_trans hg HO1.out.lt)));have HX2:=hid (HX1.out.trans (Oth.of_below hb2));clear hb2;have k1:w2.cell? ⟨w.heap.size,1,none⟩=some (.int .i64 (m:Int)):=HA2.out.c 1 rfl;have k2:w2.cell? ⟨w.heap.size,2,none⟩=some (.int .i64 ((i-1:Nat):Int)):=HA2.out.c 2 rfl);go_upto_region 7 with (fail);refine(HJ.out _ HO2.out).mono ?_;rintro e w3 ⟨rfl,ho3,hb3,hx3⟩;have HO3:=hid ho3;have HB3:=hid (HB2.out.trans hb3);have HX3:=hid (HX2.out.trans ⟨hb3.size,fun k _ hk=>hx3 k hk⟩);have HA3:Hid (Bx w3 w.heap.size 104 (ndCells (pairN K m (i-1:Nat)))):=hid ((hx3 w.heap.size (by omega)).trans HA2.out);clear hb3 ho3 hx3;have k1:w3.cell? ⟨w.heap.size,1,none⟩=some (.int .i64 (m:Int)):=HA3.out.c 1 rfl;go_upto_region 7 with (fail);go_upto_region 99 with (fail);refine(HJ2.out _ HO3.out).mono ?_;rintro e w4 ⟨rfl,ho4,hb4,hx4⟩;have HO4:=hid ho4;have HB4:=hid (HB3.out.trans hb4);have HX4:=hid (HX3.out.trans ⟨hb4.size,fun k _ hk=>hx4 k hk⟩);clear hb4 ho4 hx4;go_wp2;go_ret;exact⟨rfl,⟨_,_,HO4.out,HF.out⟩,HB4.out,HX4.out⟩
end Go.Proofs.YtkpboalccpancaaGreatDoor
namespace Go.Proofs.YtkpboalccpancaaGreatDoor
open Go.RowKit
set_option maxRecDepth 100000
set_option linter.all false
def RRd (w:World) (p:Nat) (tv:Value) (at_:Nat) (bad:Int):Prop:=w.heap[p]?=some (.cells #[tv,.int .i64 at_,.int .i64 bad] 150 (0,0))
structure RSt (w:World) (p cap:Nat) (a:Option Addr) (L:List TokE) (k:Nat) (bad:Int):Prop where
 rdr:RRd w p (.slice a L.length cap) k bad
 toks:Toks w a L
 low:∀ x,a=some x→∀ n,(x.add n).block<p
 len:L.length≤140737488355328
 at_:k≤L.length
 sized:∀ i,(L.getD i default).tx.size≤140737488351232
 real:∀ i,(L.getD i default).rl<18446744073709551616
theorem toks_set {w:World} {p:Nat} {a:Option Addr} {L:List TokE} (h:Toks w a L) (low:∀ x,a=some x→∀ n,(x.add n).block<p) (o:Nat) (v:Value):Toks (w.setCell ⟨p,o,none⟩ v) a L:=fun i hi=>by
 obtain⟨x,hx,h0,h1,h2,h3,h4,h5⟩:=h i hi;have hlow:=low x hx (i * 6);have hne:∀ o',(⟨p,o,none⟩:Addr)≠⟨(x.add (i * 6)).block,o',none⟩:=fun o' e=>by
  have:=congrArg Addr.block e;simp only at this;omega
 have hne0:(⟨p,o,none⟩:Addr)≠x.add (i * 6):=fun e=>by
  have:=congrArg Addr.block e;simp only at this;omega
 exact⟨x,hx,(World.cell?_setCell_other _ _ _ _ hne0).trans h0,(World.cell?_setCell_other _ _ _ _ (hne _)).trans h1,(World.cell?_setCell_other _ _ _ _ (hne _)).trans h2,(World.cell?_setCell_other _ _ _ _ (hne _)).trans h3,(World.cell?_setCell_other _ _ _ _ (hne _)).trans h4,(World.cell?_setCell_other _ _ _ _ (hne _)).trans h5⟩
def trC (n:Nd) (kids:Value):List Value:=[.int .i64 n.k,.string n.nm,.int .i64 n.vk,.int .i64 n.vi,.float .f64 n.rl,.complex .f64 n.re n.im,.string n.tx,kids]
def ptrV (q:Nat):Value:=.pointer (some ⟨q,0,none⟩)
def TreeAt (w:World) (p:Nat):Ex→Nat→Prop
 | .lf l,q=>p<q∧Bx w q 172 (trC (leafN l) (.slice none 0 0))
 | .un k a,q=>p<q∧∃ s c qa,p<s∧s<w.heap.size∧Bx w q 172 (trC (pairN k 0 0) (.slice (some ⟨s,0,none⟩) 1 c))∧w.cell? ⟨s,0,none⟩=some (ptrV qa)∧TreeAt w p a qa
 | .bi k a b,q=>p<q∧∃ s c qa qb,p<s∧s<w.heap.size∧Bx w q 172 (trC (pairN k 0 0) (.slice (some ⟨s,0,none⟩) 2 c))∧w.cell? ⟨s,0,none⟩=some (ptrV qa)∧w.cell? ⟨s,1,none⟩=some (ptrV qb)∧TreeAt w p a qa∧TreeAt w p b qb
end Go.Proofs.YtkpboalccpancaaGreatDoor
