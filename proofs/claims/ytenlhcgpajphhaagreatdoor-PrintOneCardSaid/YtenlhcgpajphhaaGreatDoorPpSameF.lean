import Derived.Test.YtenlhcgpajphhaaGreatDoorMPpPut
namespace Go.Proofs.YtenlhcgpajphhaaGreatDoor
open Go.RowKit Go.Shelf
set_option maxRecDepth 100000
open Lib(hid)
set_option linter.all false
set_option maxHeartbeats 8000000
theorem q94 (xs:List (Option Ex)) (hx:∀ x ∈ xs,okE x) (v1 v2:Value) (w:World) (h1:qbE exE 41 1 w v1 xs) (h2:qbE exE 41 1 w v2 xs) :
  Calls Tryz.prog 125 #[v1,v2,.func (.func 96) #[] #[]] w (qaT w):=by
 obtain⟨a1,c1,rfl⟩:=h1.form;obtain⟨a2,c2,rfl⟩:=h2.form;have hfew:=h1.few;have H1:=hid h1;have H2:=hid h2;have HX:=hid hx;have tk:((xs.length:Int)==(xs.length:Int))=true:=beq_self_eq_true _;generalize hN:xs.length=N at *
 have HN:=hid hN;clear h1 h2 hN hx;unfold qaT;go_enter Tryz.func125,Tryz.ntmps125;go_wp2
 go_loopw [17] (fun i wr=>∃ k:Nat,i=.int .i64 k∧k≤N∧Hid (Below w.heap.size w wr)) (fun i _=>N-(intOf i).toNat)
 case atStart=>exact⟨0,rfl,Nat.zero_le _,hid (Below.refl _ _)⟩
 case round =>
  obtain⟨k,rfl,hk,HBR⟩:=hrel;rcases Nat.lt_or_ge k N with hlt|hge
  ·have hkl:k<xs.length:=by rw[HN.out];exact hlt
   obtain⟨x,hx0⟩:∃ x,xs[k]?=some x:=⟨_,List.getElem?_eq_getElem hkl⟩
   obtain⟨g1,d1,rfl,hex,hc1⟩:=(H1.out.keep exK HBR.out (Nat.le_refl _)).at exK k x hx0;obtain⟨g2,d2,rfl,hey,hc2⟩:=(H2.out.keep exK HBR.out (Nat.le_refl _)).at exK k x hx0;have hmem:=qbW hx0;have hx:=HX.out;have qpF:=hex;have hey0:=hey;obtain⟨ax,mx,px,rfl⟩:=qeQ hex;obtain⟨ay,my,py,rfl⟩:=qeQ hey;have hcall:=fun W3 (h31:qd7 exE W3 [.slice ax mx px] x) (h32:qd7 exE W3 [.slice ay my py] x)=>qoJ x (hx x hmem) _ _ W3 h31 h32;unfold qaT at hcall;have x0:wr.cell? ⟨g1,k,none⟩=some (.slice ax mx px):=by have:=hc1 0 _ rfl;simpa using this
   obtain⟨W2,hW2⟩:∃ W2,W2=wr.alloc (.cells #[.slice ax mx px] 41):=⟨_,rfl⟩
   have hb2:Below wr.heap.size wr W2:=by rw[hW2];exact(Below.refl _ wr).alloc (Nat.le_refl _) _
   have hx2:Bx W2 wr.heap.size 41 [.slice ax mx px]:=by rw[hW2];exact Bx.new wr _ _
   have hc2':∀ j u,[.slice ay my py][j]?=some u→W2.cell? ⟨g2,k * 1+j,none⟩=some u:=fun j u hu=>(hb2.cell (World.block_lt_of_cell? _ _ (hc2 j u hu))).trans (hc2 j u hu);have y0:W2.cell? ⟨g2,k,none⟩=some (.slice ay my py):=by have:=hc2' 0 _ rfl;simpa using this
   obtain⟨W3,hW3⟩:∃ W3,W3=W2.alloc (.cells #[.slice ay my py] 41):=⟨_,rfl⟩
   have hb3:Below W2.heap.size W2 W3:=by rw[hW3];exact(Below.refl _ W2).alloc (Nat.le_refl _) _
   have hx3:Bx W3 W2.heap.size 41 [.slice ay my py]:=by rw[hW3];exact Bx.new W2 _ _
   have hx2:=hx2.keep hb3 hx2.lt;have hb23:=hb2.trans (hb3.mono hb2.size);have hz2:W2.heap.size=wr.heap.size+1:=by rw[hW2];simp
   rw[hz2] at hx3;have q0:=hx2.c 0 rfl;have r0:=hx3.c 0 rfl;have HC:=hid (hcall W3 (qpF.keep exK hb23 (Nat.le_refl _)) (hey0.keep exK hb23 (Nat.le_refl _)));have HB3:Hid (Below w.heap.size w W3):=hid (HBR.out.trans (hb23.mono HBR.out.size));have HW2:=hid hW2;have HW3:=hid hW3;have HZ2:=hid hz2;have e2:(0:Int)≤(k:Int):=by omega
   have e3:(k:Int)<(N:Int):=by omega
   have e4:decide ((k:Int)<(N:Int))=true:=decide_eq_true e3;clear hc1 hc2 hc2' hkl hx0 hW2 hW3 hb2 hb3 hb23 hx2 hx3 hz2 hex hey qpF hey0 hcall hx hmem;go_upto_region 6 with (fail);rw[← HW2.out];go_upto_region 7 with (fail);rw[← HW3.out,HZ2.out];go_wp2_with (go_at_call 96;refine HC.out.mono ?_;rintro e w4 ⟨rfl,hb4⟩;have HB4:=hid (HB3.out.trans (hb4.mono HB3.out.size));clear hb4);go_roundw
   case rel=>exact⟨k+1,by go_num,by omega,HB4⟩
   case measure=>simp[intOf];omega
  ·obtain rfl:k=N:=by omega
   have d1:decide ((k:Int)<(k:Int))=false:=decide_eq_false (by omega);clear hk hge;go_wp2;go_ret;exact⟨rfl,HBR.out⟩
theorem qzW (x:ActE) (hok:okA x) (c1 c2:List Value) (w:World) (h1:qd7 qgN w c1 x) (h2:qd7 qgN w c2 x):Calls Tryz.prog 98 #[.agg c1.toArray,.agg c2.toArray] w (qaT w):=by
 obtain⟨ax,mx,px,bx,qx,rfl,ex,lx⟩:=qdO h1;obtain⟨ay,my,py,by9,qy,rfl,ey,ly⟩:=qdO h2;obtain⟨W0,hW0,ha,hb,hB,hsz⟩:=qm0 w 100 [.int .i64 x.kd,.slice ax mx px,.string x.nm,.string x.vr,.slice bx x.args.length qx] [.int .i64 x.kd,.slice ay my py,.string x.nm,.string x.vr,.slice by9 x.args.length qy];have HC0:Hid (∀ W,Below W0.heap.size W0 W→Calls Tryz.prog 96 #[.agg #[.slice ax mx px],.agg #[.slice ay my py]] W (qaT W)):=hid (fun W hW=>qoJ x.to hok.1 _ _ W ((ex.keep exK hB (Nat.le_refl _)).keep exK hW (Nat.le_refl _)) ((ey.keep exK hB (Nat.le_refl _)).keep exK hW (Nat.le_refl _)));have HC1:Hid (∀ W,Below W0.heap.size W0 W→Calls Tryz.prog 125 #[.slice bx x.args.length qx,.slice by9 x.args.length qy,.func (.func 96) #[] #[]] W (qaT W)):=hid (fun W hW=>q94 x.args hok.2 _ _ W ((lx.keep exK hB (Nat.le_refl _)).keep exK hW (Nat.le_refl _)) ((ly.keep exK hB (Nat.le_refl _)).keep exK hW (Nat.le_refl _)));have tkd:(x.kd==x.kd)=true:=beq_self_eq_true _;have HW0:=hid hW0;have HA:=hid ha;have HB:=hid hb;have HBW:=hid hB;have p0:=ha.c 0 rfl;have q0:=hb.c 0 rfl;have p1:=ha.c 1 rfl;have q1:=hb.c 1 rfl;have p2:=ha.c 2 rfl;have q2:=hb.c 2 rfl;have p3:=ha.c 3 rfl;have q3:=hb.c 3 rfl;have p4:=ha.c 4 rfl;have q4:=hb.c 4 rfl;clear hW0 ha hb hB hsz h1 h2 hok ex ey lx ly;unfold qaT at *
 go_enter Tryz.func98,Tryz.ntmps98;go_upto_region 1 with (fail);rw[← HW0.out];go_wp2_with (first
  | (go_at_call 125;refine(HC1.out w1 HB1.out).mono ?_;rintro e w2 ⟨rfl,hb⟩;have HB2:Hid (Below W0.heap.size W0 w2):=hid (HB1.out.trans (hb.mono HB1.out.size));clear hb;have p0:=(HA.out.keep HB2.out HA.out.lt).c 0 rfl;have q0:=(HB.out.keep HB2.out HB.out.lt).c 0 rfl;have p1:=(HA.out.keep HB2.out HA.out.lt).c 1 rfl;have q1:=(HB.out.keep HB2.out HB.out.lt).c 1 rfl;have p2:=(HA.out.keep HB2.out HA.out.lt).c 2 rfl;have q2:=(HB.out.keep HB2.out HB.out.lt).c 2 rfl;have p3:=(HA.out.keep HB2.out HA.out.lt).c 3 rfl;have q3:=(HB.out.keep HB2.out HB.out.lt).c 3 rfl;have p4:=(HA.out.keep HB2.out HA.out.lt).c 4 rfl;have q4:=(HB.out.keep HB2.out HB.out.lt).c 4 rfl)
  | (go_at_call 96;refine(HC0.out W0 (Below.refl _ _)).mono ?_;rintro e w1 ⟨rfl,hb⟩;have HB1:Hid (Below W0.heap.size W0 w1):=hid hb;clear hb;have p0:=(HA.out.keep HB1.out HA.out.lt).c 0 rfl;have q0:=(HB.out.keep HB1.out HB.out.lt).c 0 rfl;have p1:=(HA.out.keep HB1.out HA.out.lt).c 1 rfl;have q1:=(HB.out.keep HB1.out HB.out.lt).c 1 rfl;have p2:=(HA.out.keep HB1.out HA.out.lt).c 2 rfl;have q2:=(HB.out.keep HB1.out HB.out.lt).c 2 rfl;have p3:=(HA.out.keep HB1.out HA.out.lt).c 3 rfl;have q3:=(HB.out.keep HB1.out HB.out.lt).c 3 rfl;have p4:=(HA.out.keep HB1.out HA.out.lt).c 4 rfl;have q4:=(HB.out.keep HB1.out HB.out.lt).c 4 rfl))
 go_ret;exact⟨rfl,HBW.out.trans (HB2.out.mono HBW.out.size)⟩
theorem jbN (xs:List ActE) (hx:∀ x ∈ xs,okA x) (v1 v2:Value) (w:World) (h1:qbE qgN 100 5 w v1 xs) (h2:qbE qgN 100 5 w v2 xs) :
  Calls Tryz.prog 97 #[v1,v2,.func (.func 98) #[] #[]] w (qaT w):=by
 obtain⟨a1,c1,rfl⟩:=h1.form;obtain⟨a2,c2,rfl⟩:=h2.form;have hfew:=h1.few;have H1:=hid h1;have H2:=hid h2;have HX:=hid hx;have tk:((xs.length:Int)==(xs.length:Int))=true:=beq_self_eq_true _;generalize hN:xs.length=N at *
 have HN:=hid hN;clear h1 h2 hN hx;unfold qaT;go_enter Tryz.func97,Tryz.ntmps97;go_wp2
 go_loopw [17] (fun i wr=>∃ k:Nat,i=.int .i64 k∧k≤N∧Hid (Below w.heap.size w wr)) (fun i _=>N-(intOf i).toNat)
 case atStart=>exact⟨0,rfl,Nat.zero_le _,hid (Below.refl _ _)⟩
 case round =>
  obtain⟨k,rfl,hk,HBR⟩:=hrel;rcases Nat.lt_or_ge k N with hlt|hge
  ·have hkl:k<xs.length:=by rw[HN.out];exact hlt
   obtain⟨x,hx0⟩:∃ x,xs[k]?=some x:=⟨_,List.getElem?_eq_getElem hkl⟩
   obtain⟨g1,d1,rfl,hex,hc1⟩:=(H1.out.keep qeO HBR.out (Nat.le_refl _)).at qeO k x hx0;obtain⟨g2,d2,rfl,hey,hc2⟩:=(H2.out.keep qeO HBR.out (Nat.le_refl _)).at qeO k x hx0;have hmem:=qbW hx0;have hx:=HX.out;have qpF:=hex;have hey0:=hey;obtain⟨ax,mx,px,bx,qx,rfl,_,_⟩:=qdO hex;obtain⟨ay,my,py,by9,qy,rfl,_,_⟩:=qdO hey;have hcall:=fun W3 (h31:qd7 qgN W3 [.int .i64 x.kd,.slice ax mx px,.string x.nm,.string x.vr,.slice bx x.args.length qx] x) (h32:qd7 qgN W3 [.int .i64 x.kd,.slice ay my py,.string x.nm,.string x.vr,.slice by9 x.args.length qy] x)=>qzW x (hx x hmem) _ _ W3 h31 h32;unfold qaT at hcall;have x0:wr.cell? ⟨g1,k * 5,none⟩=some (.int .i64 x.kd):=by have:=hc1 0 _ rfl;exact this
   have x1:wr.cell? ⟨g1,k * 5+1,none⟩=some (.slice ax mx px):=by have:=hc1 1 _ rfl;exact this
   have x2:wr.cell? ⟨g1,k * 5+2,none⟩=some (.string x.nm):=by have:=hc1 2 _ rfl;exact this
   have x3:wr.cell? ⟨g1,k * 5+3,none⟩=some (.string x.vr):=by have:=hc1 3 _ rfl;exact this
   have x4:wr.cell? ⟨g1,k * 5+4,none⟩=some (.slice bx x.args.length qx):=by have:=hc1 4 _ rfl;exact this
   obtain⟨W2,hW2⟩:∃ W2,W2=wr.alloc (.cells #[.int .i64 x.kd,.slice ax mx px,.string x.nm,.string x.vr,.slice bx x.args.length qx] 100):=⟨_,rfl⟩
   have hb2:Below wr.heap.size wr W2:=by rw[hW2];exact(Below.refl _ wr).alloc (Nat.le_refl _) _
   have hx2:Bx W2 wr.heap.size 100 [.int .i64 x.kd,.slice ax mx px,.string x.nm,.string x.vr,.slice bx x.args.length qx]:=by rw[hW2];exact Bx.new wr _ _
   have hc2':∀ j u,[.int .i64 x.kd,.slice ay my py,.string x.nm,.string x.vr,.slice by9 x.args.length qy][j]?=some u→W2.cell? ⟨g2,k * 5+j,none⟩=some u:=fun j u hu=>(hb2.cell (World.block_lt_of_cell? _ _ (hc2 j u hu))).trans (hc2 j u hu);have y0:W2.cell? ⟨g2,k * 5,none⟩=some (.int .i64 x.kd):=by have:=hc2' 0 _ rfl;exact this
   have y1:W2.cell? ⟨g2,k * 5+1,none⟩=some (.slice ay my py):=by have:=hc2' 1 _ rfl;exact this
   have y2:W2.cell? ⟨g2,k * 5+2,none⟩=some (.string x.nm):=by have:=hc2' 2 _ rfl;exact this
   have y3:W2.cell? ⟨g2,k * 5+3,none⟩=some (.string x.vr):=by have:=hc2' 3 _ rfl;exact this
   have y4:W2.cell? ⟨g2,k * 5+4,none⟩=some (.slice by9 x.args.length qy):=by have:=hc2' 4 _ rfl;exact this
   obtain⟨W3,hW3⟩:∃ W3,W3=W2.alloc (.cells #[.int .i64 x.kd,.slice ay my py,.string x.nm,.string x.vr,.slice by9 x.args.length qy] 100):=⟨_,rfl⟩
   have hb3:Below W2.heap.size W2 W3:=by rw[hW3];exact(Below.refl _ W2).alloc (Nat.le_refl _) _
   have hx3:Bx W3 W2.heap.size 100 [.int .i64 x.kd,.slice ay my py,.string x.nm,.string x.vr,.slice by9 x.args.length qy]:=by rw[hW3];exact Bx.new W2 _ _
   have hx2:=hx2.keep hb3 hx2.lt;have hb23:=hb2.trans (hb3.mono hb2.size);have hz2:W2.heap.size=wr.heap.size+1:=by rw[hW2];simp
   rw[hz2] at hx3;have q0:=hx2.c 0 rfl;have r0:=hx3.c 0 rfl;have q1:=hx2.c 1 rfl;have r1:=hx3.c 1 rfl;have q2:=hx2.c 2 rfl;have r2:=hx3.c 2 rfl;have q3:=hx2.c 3 rfl;have r3:=hx3.c 3 rfl;have q4:=hx2.c 4 rfl;have r4:=hx3.c 4 rfl;have HC:=hid (hcall W3 (qpF.keep qeO hb23 (Nat.le_refl _)) (hey0.keep qeO hb23 (Nat.le_refl _)));have HB3:Hid (Below w.heap.size w W3):=hid (HBR.out.trans (hb23.mono HBR.out.size));have HW2:=hid hW2;have HW3:=hid hW3;have HZ2:=hid hz2;have e2:(0:Int)≤(k:Int):=by omega
   have e3:(k:Int)<(N:Int):=by omega
   have e4:decide ((k:Int)<(N:Int))=true:=decide_eq_true e3;clear hc1 hc2 hc2' hkl hx0 hW2 hW3 hb2 hb3 hb23 hx2 hx3 hz2 hex hey qpF hey0 hcall hx hmem;go_upto_region 6 with (fail);rw[← HW2.out];go_upto_region 7 with (fail);rw[← HW3.out,HZ2.out];go_wp2_with (go_at_call 98;refine HC.out.mono ?_;rintro e w4 ⟨rfl,hb4⟩;have HB4:=hid (HB3.out.trans (hb4.mono HB3.out.size));clear hb4);go_roundw
   case rel=>exact⟨k+1,by go_num,by omega,HB4⟩
   case measure=>simp[intOf];omega
  ·obtain rfl:k=N:=by omega
   have d1:decide ((k:Int)<(k:Int))=false:=decide_eq_false (by omega);clear hk hge;go_wp2;go_ret;exact⟨rfl,HBR.out⟩
theorem qx3 (x:PartE) (hok:True) (c1 c2:List Value) (w:World) (h1:qd7 qdS w c1 x) (h2:qd7 qdS w c2 x):Calls Tryz.prog 95 #[.agg c1.toArray,.agg c2.toArray] w (qaT w):=by
 obtain⟨ax,px,rfl,lx⟩:=qeK h1;obtain⟨ay,py,rfl,ly⟩:=qeK h2;obtain⟨W0,hW0,ha,hb,hB,hsz⟩:=qm0 w 95 [.string x.tg,.slice ax x.vs.length px] [.string x.tg,.slice ay x.vs.length py];have HC0:Hid (∀ W,Below W0.heap.size W0 W→Calls Tryz.prog 123 #[.slice ax x.vs.length px,.slice ay x.vs.length py] W (qaT W)):=hid (fun W hW=>q59 x.vs _ _ W ((lx.keep qlH hB (Nat.le_refl _)).keep qlH hW (Nat.le_refl _)) ((ly.keep qlH hB (Nat.le_refl _)).keep qlH hW (Nat.le_refl _)));have HW0:=hid hW0;have HA:=hid ha;have HB:=hid hb;have HBW:=hid hB;have p0:=ha.c 0 rfl;have q0:=hb.c 0 rfl;have p1:=ha.c 1 rfl;have q1:=hb.c 1 rfl;clear hW0 ha hb hB hsz h1 h2 hok lx ly;unfold qaT at *
 go_enter Tryz.func95,Tryz.ntmps95;go_upto_region 1 with (fail);rw[← HW0.out];go_wp2_with (first
  | (go_at_call 123;refine(HC0.out W0 (Below.refl _ _)).mono ?_;rintro e w1 ⟨rfl,hb⟩;have HB1:Hid (Below W0.heap.size W0 w1):=hid hb;clear hb;have p0:=(HA.out.keep HB1.out HA.out.lt).c 0 rfl;have q0:=(HB.out.keep HB1.out HB.out.lt).c 0 rfl;have p1:=(HA.out.keep HB1.out HA.out.lt).c 1 rfl;have q1:=(HB.out.keep HB1.out HB.out.lt).c 1 rfl))
 go_ret;exact⟨rfl,HBW.out.trans (HB1.out.mono HBW.out.size)⟩
theorem q92 (xs:List PartE) (hx:∀ x ∈ xs,True) (v1 v2:Value) (w:World) (h1:qbE qdS 95 2 w v1 xs) (h2:qbE qdS 95 2 w v2 xs) :
  Calls Tryz.prog 94 #[v1,v2,.func (.func 95) #[] #[]] w (qaT w):=by
 obtain⟨a1,c1,rfl⟩:=h1.form;obtain⟨a2,c2,rfl⟩:=h2.form;have hfew:=h1.few;have H1:=hid h1;have H2:=hid h2;have HX:=hid hx;have tk:((xs.length:Int)==(xs.length:Int))=true:=beq_self_eq_true _;generalize hN:xs.length=N at *
 have HN:=hid hN;clear h1 h2 hN hx;unfold qaT;go_enter Tryz.func94,Tryz.ntmps94;go_wp2
 go_loopw [17] (fun i wr=>∃ k:Nat,i=.int .i64 k∧k≤N∧Hid (Below w.heap.size w wr)) (fun i _=>N-(intOf i).toNat)
 case atStart=>exact⟨0,rfl,Nat.zero_le _,hid (Below.refl _ _)⟩
 case round =>
  obtain⟨k,rfl,hk,HBR⟩:=hrel;rcases Nat.lt_or_ge k N with hlt|hge
  ·have hkl:k<xs.length:=by rw[HN.out];exact hlt
   obtain⟨x,hx0⟩:∃ x,xs[k]?=some x:=⟨_,List.getElem?_eq_getElem hkl⟩
   obtain⟨g1,d1,rfl,hex,hc1⟩:=(H1.out.keep qbK HBR.out (Nat.le_refl _)).at qbK k x hx0;obtain⟨g2,d2,rfl,hey,hc2⟩:=(H2.out.keep qbK HBR.out (Nat.le_refl _)).at qbK k x hx0;have hmem:=qbW hx0;have hx:=HX.out;have qpF:=hex;have hey0:=hey;obtain⟨ax,px,rfl,_⟩:=qeK hex;obtain⟨ay,py,rfl,_⟩:=qeK hey;have hcall:=fun W3 (h31:qd7 qdS W3 [.string x.tg,.slice ax x.vs.length px] x) (h32:qd7 qdS W3 [.string x.tg,.slice ay x.vs.length py] x)=>qx3 x (hx x hmem) _ _ W3 h31 h32;unfold qaT at hcall;have x0:wr.cell? ⟨g1,k * 2,none⟩=some (.string x.tg):=by have:=hc1 0 _ rfl;exact this
   have x1:wr.cell? ⟨g1,k * 2+1,none⟩=some (.slice ax x.vs.length px):=by have:=hc1 1 _ rfl;exact this
   obtain⟨W2,hW2⟩:∃ W2,W2=wr.alloc (.cells #[.string x.tg,.slice ax x.vs.length px] 95):=⟨_,rfl⟩
   have hb2:Below wr.heap.size wr W2:=by rw[hW2];exact(Below.refl _ wr).alloc (Nat.le_refl _) _
   have hx2:Bx W2 wr.heap.size 95 [.string x.tg,.slice ax x.vs.length px]:=by rw[hW2];exact Bx.new wr _ _
   have hc2':∀ j u,[.string x.tg,.slice ay x.vs.length py][j]?=some u→W2.cell? ⟨g2,k * 2+j,none⟩=some u:=fun j u hu=>(hb2.cell (World.block_lt_of_cell? _ _ (hc2 j u hu))).trans (hc2 j u hu);have y0:W2.cell? ⟨g2,k * 2,none⟩=some (.string x.tg):=by have:=hc2' 0 _ rfl;exact this
   have y1:W2.cell? ⟨g2,k * 2+1,none⟩=some (.slice ay x.vs.length py):=by have:=hc2' 1 _ rfl;exact this
   obtain⟨W3,hW3⟩:∃ W3,W3=W2.alloc (.cells #[.string x.tg,.slice ay x.vs.length py] 95):=⟨_,rfl⟩
   have hb3:Below W2.heap.size W2 W3:=by rw[hW3];exact(Below.refl _ W2).alloc (Nat.le_refl _) _
   have hx3:Bx W3 W2.heap.size 95 [.string x.tg,.slice ay x.vs.length py]:=by rw[hW3];exact Bx.new W2 _ _
   have hx2:=hx2.keep hb3 hx2.lt;have hb23:=hb2.trans (hb3.mono hb2.size);have hz2:W2.heap.size=wr.heap.size+1:=by rw[hW2];simp
   rw[hz2] at hx3;have q0:=hx2.c 0 rfl;have r0:=hx3.c 0 rfl;have q1:=hx2.c 1 rfl;have r1:=hx3.c 1 rfl;have HC:=hid (hcall W3 (qpF.keep qbK hb23 (Nat.le_refl _)) (hey0.keep qbK hb23 (Nat.le_refl _)));have HB3:Hid (Below w.heap.size w W3):=hid (HBR.out.trans (hb23.mono HBR.out.size));have HW2:=hid hW2;have HW3:=hid hW3;have HZ2:=hid hz2;have e2:(0:Int)≤(k:Int):=by omega
   have e3:(k:Int)<(N:Int):=by omega
   have e4:decide ((k:Int)<(N:Int))=true:=decide_eq_true e3;clear hc1 hc2 hc2' hkl hx0 hW2 hW3 hb2 hb3 hb23 hx2 hx3 hz2 hex hey qpF hey0 hcall hx hmem;go_upto_region 6 with (fail);rw[← HW2.out];go_upto_region 7 with (fail);rw[← HW3.out,HZ2.out];go_wp2_with (go_at_call 95;refine HC.out.mono ?_;rintro e w4 ⟨rfl,hb4⟩;have HB4:=hid (HB3.out.trans (hb4.mono HB3.out.size));clear hb4);go_roundw
   case rel=>exact⟨k+1,by go_num,by omega,HB4⟩
   case measure=>simp[intOf];omega
  ·obtain rfl:k=N:=by omega
   have d1:decide ((k:Int)<(k:Int))=false:=decide_eq_false (by omega);clear hk hge;go_wp2;go_ret;exact⟨rfl,HBR.out⟩
theorem qlL (x:ChordE) (hok:okC x) (c1 c2:List Value) (w:World) (h1:qd7 qbB w c1 x) (h2:qd7 qbB w c2 x):Calls Tryz.prog 56 #[.agg c1.toArray,.agg c2.toArray] w (qaT w):=by
 obtain⟨ax,px,bx,mx,qx,cx,rx,rfl,lx,ex,kx⟩:=qb4 h1;obtain⟨ay,py,by9,my,qy,cy,ry,rfl,ly,ey,ky⟩:=qb4 h2;obtain⟨W0,hW0,ha,hb,hB,hsz⟩:=qm0 w 44 [.string x.nm,.slice ax x.parts.length px,.slice bx mx qx,.slice cx x.body.length rx] [.string x.nm,.slice ay x.parts.length py,.slice by9 my qy,.slice cy x.body.length ry];have HC0:Hid (∀ W,Below W0.heap.size W0 W→Calls Tryz.prog 94 #[.slice ax x.parts.length px,.slice ay x.parts.length py,.func (.func 95) #[] #[]] W (qaT W)):=hid (fun W hW=>q92 x.parts (fun _ _=>trivial) _ _ W ((lx.keep qbK hB (Nat.le_refl _)).keep qbK hW (Nat.le_refl _)) ((ly.keep qbK hB (Nat.le_refl _)).keep qbK hW (Nat.le_refl _)));have HC1:Hid (∀ W,Below W0.heap.size W0 W→Calls Tryz.prog 96 #[.agg #[.slice bx mx qx],.agg #[.slice by9 my qy]] W (qaT W)):=hid (fun W hW=>qoJ x.guard hok.1 _ _ W ((ex.keep exK hB (Nat.le_refl _)).keep exK hW (Nat.le_refl _)) ((ey.keep exK hB (Nat.le_refl _)).keep exK hW (Nat.le_refl _)));have HC2:Hid (∀ W,Below W0.heap.size W0 W→Calls Tryz.prog 97 #[.slice cx x.body.length rx,.slice cy x.body.length ry,.func (.func 98) #[] #[]] W (qaT W)):=hid (fun W hW=>jbN x.body hok.2 _ _ W ((kx.keep qeO hB (Nat.le_refl _)).keep qeO hW (Nat.le_refl _)) ((ky.keep qeO hB (Nat.le_refl _)).keep qeO hW (Nat.le_refl _)));have HW0:=hid hW0;have HA:=hid ha;have HB:=hid hb;have HBW:=hid hB;have p0:=ha.c 0 rfl;have q0:=hb.c 0 rfl;have p1:=ha.c 1 rfl;have q1:=hb.c 1 rfl;have p2:=ha.c 2 rfl;have q2:=hb.c 2 rfl;have p3:=ha.c 3 rfl;have q3:=hb.c 3 rfl;clear hW0 ha hb hB hsz h1 h2 hok lx ly ex ey kx ky;unfold qaT at *
 go_enter Tryz.func56,Tryz.ntmps56;go_upto_region 1 with (fail);rw[← HW0.out];go_wp2_with (first
  | (go_at_call 97;refine(HC2.out w2 HB2.out).mono ?_;rintro e w3 ⟨rfl,hb⟩;have HB3:Hid (Below W0.heap.size W0 w3):=hid (HB2.out.trans (hb.mono HB2.out.size));clear hb;have p0:=(HA.out.keep HB3.out HA.out.lt).c 0 rfl;have q0:=(HB.out.keep HB3.out HB.out.lt).c 0 rfl;have p1:=(HA.out.keep HB3.out HA.out.lt).c 1 rfl;have q1:=(HB.out.keep HB3.out HB.out.lt).c 1 rfl;have p2:=(HA.out.keep HB3.out HA.out.lt).c 2 rfl;have q2:=(HB.out.keep HB3.out HB.out.lt).c 2 rfl;have p3:=(HA.out.keep HB3.out HA.out.lt).c 3 rfl;have q3:=(HB.out.keep HB3.out HB.out.lt).c 3 rfl)
  | (go_at_call 96;refine(HC1.out w1 HB1.out).mono ?_;rintro e w2 ⟨rfl,hb⟩;have HB2:Hid (Below W0.heap.size W0 w2):=hid (HB1.out.trans (hb.mono HB1.out.size));clear hb;have p0:=(HA.out.keep HB2.out HA.out.lt).c 0 rfl;have q0:=(HB.out.keep HB2.out HB.out.lt).c 0 rfl;have p1:=(HA.out.keep HB2.out HA.out.lt).c 1 rfl;have q1:=(HB.out.keep HB2.out HB.out.lt).c 1 rfl;have p2:=(HA.out.keep HB2.out HA.out.lt).c 2 rfl;have q2:=(HB.out.keep HB2.out HB.out.lt).c 2 rfl;have p3:=(HA.out.keep HB2.out HA.out.lt).c 3 rfl;have q3:=(HB.out.keep HB2.out HB.out.lt).c 3 rfl)
  | (go_at_call 94;refine(HC0.out W0 (Below.refl _ _)).mono ?_;rintro e w1 ⟨rfl,hb⟩;have HB1:Hid (Below W0.heap.size W0 w1):=hid hb;clear hb;have p0:=(HA.out.keep HB1.out HA.out.lt).c 0 rfl;have q0:=(HB.out.keep HB1.out HB.out.lt).c 0 rfl;have p1:=(HA.out.keep HB1.out HA.out.lt).c 1 rfl;have q1:=(HB.out.keep HB1.out HB.out.lt).c 1 rfl;have p2:=(HA.out.keep HB1.out HA.out.lt).c 2 rfl;have q2:=(HB.out.keep HB1.out HB.out.lt).c 2 rfl;have p3:=(HA.out.keep HB1.out HA.out.lt).c 3 rfl;have q3:=(HB.out.keep HB1.out HB.out.lt).c 3 rfl))
 go_ret;exact⟨rfl,HBW.out.trans (HB3.out.mono HBW.out.size)⟩
theorem q5C (xs:List ChordE) (hx:∀ x ∈ xs,okC x) (v1 v2:Value) (w:World) (h1:qbE qbB 44 4 w v1 xs) (h2:qbE qbB 44 4 w v2 xs) :
  Calls Tryz.prog 120 #[v1,v2,.func (.func 56) #[] #[]] w (qaT w):=by
 obtain⟨a1,c1,rfl⟩:=h1.form;obtain⟨a2,c2,rfl⟩:=h2.form;have hfew:=h1.few;have H1:=hid h1;have H2:=hid h2;have HX:=hid hx;have tk:((xs.length:Int)==(xs.length:Int))=true:=beq_self_eq_true _;generalize hN:xs.length=N at *
 have HN:=hid hN;clear h1 h2 hN hx;unfold qaT;go_enter Tryz.func120,Tryz.ntmps120;go_wp2
 go_loopw [17] (fun i wr=>∃ k:Nat,i=.int .i64 k∧k≤N∧Hid (Below w.heap.size w wr)) (fun i _=>N-(intOf i).toNat)
 case atStart=>exact⟨0,rfl,Nat.zero_le _,hid (Below.refl _ _)⟩
 case round =>
  obtain⟨k,rfl,hk,HBR⟩:=hrel;rcases Nat.lt_or_ge k N with hlt|hge
  ·have hkl:k<xs.length:=by rw[HN.out];exact hlt
   obtain⟨x,hx0⟩:∃ x,xs[k]?=some x:=⟨_,List.getElem?_eq_getElem hkl⟩
   obtain⟨g1,d1,rfl,hex,hc1⟩:=(H1.out.keep qaM HBR.out (Nat.le_refl _)).at qaM k x hx0;obtain⟨g2,d2,rfl,hey,hc2⟩:=(H2.out.keep qaM HBR.out (Nat.le_refl _)).at qaM k x hx0;have hmem:=qbW hx0;have hx:=HX.out;have qpF:=hex;have hey0:=hey;obtain⟨ax,px,bx,mx,qx,cx,rx,rfl,_,_,_⟩:=qb4 hex;obtain⟨ay,py,by9,my,qy,cy,ry,rfl,_,_,_⟩:=qb4 hey;have hcall:=fun W3 (h31:qd7 qbB W3 [.string x.nm,.slice ax x.parts.length px,.slice bx mx qx,.slice cx x.body.length rx] x) (h32:qd7 qbB W3 [.string x.nm,.slice ay x.parts.length py,.slice by9 my qy,.slice cy x.body.length ry] x)=>qlL x (hx x hmem) _ _ W3 h31 h32;unfold qaT at hcall;have x0:wr.cell? ⟨g1,k * 4,none⟩=some (.string x.nm):=by have:=hc1 0 _ rfl;exact this
   have x1:wr.cell? ⟨g1,k * 4+1,none⟩=some (.slice ax x.parts.length px):=by have:=hc1 1 _ rfl;exact this
   have x2:wr.cell? ⟨g1,k * 4+2,none⟩=some (.slice bx mx qx):=by have:=hc1 2 _ rfl;exact this
   have x3:wr.cell? ⟨g1,k * 4+3,none⟩=some (.slice cx x.body.length rx):=by have:=hc1 3 _ rfl;exact this
   obtain⟨W2,hW2⟩:∃ W2,W2=wr.alloc (.cells #[.string x.nm,.slice ax x.parts.length px,.slice bx mx qx,.slice cx x.body.length rx] 44):=⟨_,rfl⟩
   have hb2:Below wr.heap.size wr W2:=by rw[hW2];exact(Below.refl _ wr).alloc (Nat.le_refl _) _
   have hx2:Bx W2 wr.heap.size 44 [.string x.nm,.slice ax x.parts.length px,.slice bx mx qx,.slice cx x.body.length rx]:=by rw[hW2];exact Bx.new wr _ _
   have hc2':∀ j u,[.string x.nm,.slice ay x.parts.length py,.slice by9 my qy,.slice cy x.body.length ry][j]?=some u→W2.cell? ⟨g2,k * 4+j,none⟩=some u:=fun j u hu=>(hb2.cell (World.block_lt_of_cell? _ _ (hc2 j u hu))).trans (hc2 j u hu);have y0:W2.cell? ⟨g2,k * 4,none⟩=some (.string x.nm):=by have:=hc2' 0 _ rfl;exact this
   have y1:W2.cell? ⟨g2,k * 4+1,none⟩=some (.slice ay x.parts.length py):=by have:=hc2' 1 _ rfl;exact this
   have y2:W2.cell? ⟨g2,k * 4+2,none⟩=some (.slice by9 my qy):=by have:=hc2' 2 _ rfl;exact this
   have y3:W2.cell? ⟨g2,k * 4+3,none⟩=some (.slice cy x.body.length ry):=by have:=hc2' 3 _ rfl;exact this
   obtain⟨W3,hW3⟩:∃ W3,W3=W2.alloc (.cells #[.string x.nm,.slice ay x.parts.length py,.slice by9 my qy,.slice cy x.body.length ry] 44):=⟨_,rfl⟩
   have hb3:Below W2.heap.size W2 W3:=by rw[hW3];exact(Below.refl _ W2).alloc (Nat.le_refl _) _
   have hx3:Bx W3 W2.heap.size 44 [.string x.nm,.slice ay x.parts.length py,.slice by9 my qy,.slice cy x.body.length ry]:=by rw[hW3];exact Bx.new W2 _ _
   have hx2:=hx2.keep hb3 hx2.lt;have hb23:=hb2.trans (hb3.mono hb2.size);have hz2:W2.heap.size=wr.heap.size+1:=by rw[hW2];simp
   rw[hz2] at hx3;have q0:=hx2.c 0 rfl;have r0:=hx3.c 0 rfl;have q1:=hx2.c 1 rfl;have r1:=hx3.c 1 rfl;have q2:=hx2.c 2 rfl;have r2:=hx3.c 2 rfl;have q3:=hx2.c 3 rfl;have r3:=hx3.c 3 rfl;have HC:=hid (hcall W3 (qpF.keep qaM hb23 (Nat.le_refl _)) (hey0.keep qaM hb23 (Nat.le_refl _)));have HB3:Hid (Below w.heap.size w W3):=hid (HBR.out.trans (hb23.mono HBR.out.size));have HW2:=hid hW2;have HW3:=hid hW3;have HZ2:=hid hz2;have e2:(0:Int)≤(k:Int):=by omega
   have e3:(k:Int)<(N:Int):=by omega
   have e4:decide ((k:Int)<(N:Int))=true:=decide_eq_true e3;clear hc1 hc2 hc2' hkl hx0 hW2 hW3 hb2 hb3 hb23 hx2 hx3 hz2 hex hey qpF hey0 hcall hx hmem;go_upto_region 6 with (fail);rw[← HW2.out];go_upto_region 7 with (fail);rw[← HW3.out,HZ2.out];go_wp2_with (go_at_call 56;refine HC.out.mono ?_;rintro e w4 ⟨rfl,hb4⟩;have HB4:=hid (HB3.out.trans (hb4.mono HB3.out.size));clear hb4);go_roundw
   case rel=>exact⟨k+1,by go_num,by omega,HB4⟩
   case measure=>simp[intOf];omega
  ·obtain rfl:k=N:=by omega
   have d1:decide ((k:Int)<(k:Int))=false:=decide_eq_false (by omega);clear hk hge;go_wp2;go_ret;exact⟨rfl,HBR.out⟩
theorem qx4 (x:KindE) (hok:okK x) (c1 c2:List Value) (w:World) (h1:qd7 qfI w c1 x) (h2:qd7 qfI w c2 x):Calls Tryz.prog 89 #[.agg c1.toArray,.agg c2.toArray] w (qaT w):=by
 obtain⟨ax,px,rfl,lx⟩:=qe0 h1;obtain⟨ay,py,rfl,ly⟩:=qe0 h2;obtain⟨W0,hW0,ha,hb,hB,hsz⟩:=qm0 w 69 [.string x.nm,.slice ax x.chords.length px] [.string x.nm,.slice ay x.chords.length py];have HC0:Hid (∀ W,Below W0.heap.size W0 W→Calls Tryz.prog 120 #[.slice ax x.chords.length px,.slice ay x.chords.length py,.func (.func 56) #[] #[]] W (qaT W)):=hid (fun W hW=>q5C x.chords hok _ _ W ((lx.keep qaM hB (Nat.le_refl _)).keep qaM hW (Nat.le_refl _)) ((ly.keep qaM hB (Nat.le_refl _)).keep qaM hW (Nat.le_refl _)));have HW0:=hid hW0;have HA:=hid ha;have HB:=hid hb;have HBW:=hid hB;have p0:=ha.c 0 rfl;have q0:=hb.c 0 rfl;have p1:=ha.c 1 rfl;have q1:=hb.c 1 rfl;clear hW0 ha hb hB hsz h1 h2 hok lx ly;unfold qaT at *
 go_enter Tryz.func89,Tryz.ntmps89;go_upto_region 1 with (fail);rw[← HW0.out];go_wp2_with (first
  | (go_at_call 120;refine(HC0.out W0 (Below.refl _ _)).mono ?_;rintro e w1 ⟨rfl,hb⟩;have HB1:Hid (Below W0.heap.size W0 w1):=hid hb;clear hb;have p0:=(HA.out.keep HB1.out HA.out.lt).c 0 rfl;have q0:=(HB.out.keep HB1.out HB.out.lt).c 0 rfl;have p1:=(HA.out.keep HB1.out HA.out.lt).c 1 rfl;have q1:=(HB.out.keep HB1.out HB.out.lt).c 1 rfl))
 go_ret;exact⟨rfl,HBW.out.trans (HB1.out.mono HBW.out.size)⟩
theorem q93 (xs:List KindE) (hx:∀ x ∈ xs,okK x) (v1 v2:Value) (w:World) (h1:qbE qfI 69 2 w v1 xs) (h2:qbE qfI 69 2 w v2 xs) :
  Calls Tryz.prog 88 #[v1,v2,.func (.func 89) #[] #[]] w (qaT w):=by
 obtain⟨a1,c1,rfl⟩:=h1.form;obtain⟨a2,c2,rfl⟩:=h2.form;have hfew:=h1.few;have H1:=hid h1;have H2:=hid h2;have HX:=hid hx;have tk:((xs.length:Int)==(xs.length:Int))=true:=beq_self_eq_true _;generalize hN:xs.length=N at *
 have HN:=hid hN;clear h1 h2 hN hx;unfold qaT;go_enter Tryz.func88,Tryz.ntmps88;go_wp2
 go_loopw [17] (fun i wr=>∃ k:Nat,i=.int .i64 k∧k≤N∧Hid (Below w.heap.size w wr)) (fun i _=>N-(intOf i).toNat)
 case atStart=>exact⟨0,rfl,Nat.zero_le _,hid (Below.refl _ _)⟩
 case round =>
  obtain⟨k,rfl,hk,HBR⟩:=hrel;rcases Nat.lt_or_ge k N with hlt|hge
  ·have hkl:k<xs.length:=by rw[HN.out];exact hlt
   obtain⟨x,hx0⟩:∃ x,xs[k]?=some x:=⟨_,List.getElem?_eq_getElem hkl⟩
   obtain⟨g1,d1,rfl,hex,hc1⟩:=(H1.out.keep qdY HBR.out (Nat.le_refl _)).at qdY k x hx0;obtain⟨g2,d2,rfl,hey,hc2⟩:=(H2.out.keep qdY HBR.out (Nat.le_refl _)).at qdY k x hx0;have hmem:=qbW hx0;have hx:=HX.out;have qpF:=hex;have hey0:=hey;obtain⟨ax,px,rfl,_⟩:=qe0 hex;obtain⟨ay,py,rfl,_⟩:=qe0 hey;have hcall:=fun W3 (h31:qd7 qfI W3 [.string x.nm,.slice ax x.chords.length px] x) (h32:qd7 qfI W3 [.string x.nm,.slice ay x.chords.length py] x)=>qx4 x (hx x hmem) _ _ W3 h31 h32;unfold qaT at hcall;have x0:wr.cell? ⟨g1,k * 2,none⟩=some (.string x.nm):=by have:=hc1 0 _ rfl;exact this
   have x1:wr.cell? ⟨g1,k * 2+1,none⟩=some (.slice ax x.chords.length px):=by have:=hc1 1 _ rfl;exact this
   obtain⟨W2,hW2⟩:∃ W2,W2=wr.alloc (.cells #[.string x.nm,.slice ax x.chords.length px] 69):=⟨_,rfl⟩
   have hb2:Below wr.heap.size wr W2:=by rw[hW2];exact(Below.refl _ wr).alloc (Nat.le_refl _) _
   have hx2:Bx W2 wr.heap.size 69 [.string x.nm,.slice ax x.chords.length px]:=by rw[hW2];exact Bx.new wr _ _
   have hc2':∀ j u,[.string x.nm,.slice ay x.chords.length py][j]?=some u→W2.cell? ⟨g2,k * 2+j,none⟩=some u:=fun j u hu=>(hb2.cell (World.block_lt_of_cell? _ _ (hc2 j u hu))).trans (hc2 j u hu);have y0:W2.cell? ⟨g2,k * 2,none⟩=some (.string x.nm):=by have:=hc2' 0 _ rfl;exact this
   have y1:W2.cell? ⟨g2,k * 2+1,none⟩=some (.slice ay x.chords.length py):=by have:=hc2' 1 _ rfl;exact this
   obtain⟨W3,hW3⟩:∃ W3,W3=W2.alloc (.cells #[.string x.nm,.slice ay x.chords.length py] 69):=⟨_,rfl⟩
   have hb3:Below W2.heap.size W2 W3:=by rw[hW3];exact(Below.refl _ W2).alloc (Nat.le_refl _) _
   have hx3:Bx W3 W2.heap.size 69 [.string x.nm,.slice ay x.chords.length py]:=by rw[hW3];exact Bx.new W2 _ _
   have hx2:=hx2.keep hb3 hx2.lt;have hb23:=hb2.trans (hb3.mono hb2.size);have hz2:W2.heap.size=wr.heap.size+1:=by rw[hW2];simp
   rw[hz2] at hx3;have q0:=hx2.c 0 rfl;have r0:=hx3.c 0 rfl;have q1:=hx2.c 1 rfl;have r1:=hx3.c 1 rfl;have HC:=hid (hcall W3 (qpF.keep qdY hb23 (Nat.le_refl _)) (hey0.keep qdY hb23 (Nat.le_refl _)));have HB3:Hid (Below w.heap.size w W3):=hid (HBR.out.trans (hb23.mono HBR.out.size));have HW2:=hid hW2;have HW3:=hid hW3;have HZ2:=hid hz2;have e2:(0:Int)≤(k:Int):=by omega
   have e3:(k:Int)<(N:Int):=by omega
   have e4:decide ((k:Int)<(N:Int))=true:=decide_eq_true e3;clear hc1 hc2 hc2' hkl hx0 hW2 hW3 hb2 hb3 hb23 hx2 hx3 hz2 hex hey qpF hey0 hcall hx hmem;go_upto_region 6 with (fail);rw[← HW2.out];go_upto_region 7 with (fail);rw[← HW3.out,HZ2.out];go_wp2_with (go_at_call 89;refine HC.out.mono ?_;rintro e w4 ⟨rfl,hb4⟩;have HB4:=hid (HB3.out.trans (hb4.mono HB3.out.size));clear hb4);go_roundw
   case rel=>exact⟨k+1,by go_num,by omega,HB4⟩
   case measure=>simp[intOf];omega
  ·obtain rfl:k=N:=by omega
   have d1:decide ((k:Int)<(k:Int))=false:=decide_eq_false (by omega);clear hk hge;go_wp2;go_ret;exact⟨rfl,HBR.out⟩
theorem qzS (x:TagE) (hok:True) (c1 c2:List Value) (w:World) (h1:qd7 qk7 w c1 x) (h2:qd7 qk7 w c2 x):Calls Tryz.prog 87 #[.agg c1.toArray,.agg c2.toArray] w (qaT w):=by
 obtain⟨ax,px,rfl,lx⟩:=qfO h1;obtain⟨ay,py,rfl,ly⟩:=qfO h2;obtain⟨W0,hW0,ha,hb,hB,hsz⟩:=qm0 w 78 [.string x.nm,.slice ax x.tys.length px] [.string x.nm,.slice ay x.tys.length py];have HC0:Hid (∀ W,Below W0.heap.size W0 W→Calls Tryz.prog 119 #[.slice ax x.tys.length px,.slice ay x.tys.length py] W (qaT W)):=hid (fun W hW=>q5A x.tys _ _ W ((lx.keep qkB hB (Nat.le_refl _)).keep qkB hW (Nat.le_refl _)) ((ly.keep qkB hB (Nat.le_refl _)).keep qkB hW (Nat.le_refl _)));have HW0:=hid hW0;have HA:=hid ha;have HB:=hid hb;have HBW:=hid hB;have p0:=ha.c 0 rfl;have q0:=hb.c 0 rfl;have p1:=ha.c 1 rfl;have q1:=hb.c 1 rfl;clear hW0 ha hb hB hsz h1 h2 hok lx ly;unfold qaT at *
 go_enter Tryz.func87,Tryz.ntmps87;go_upto_region 1 with (fail);rw[← HW0.out];go_wp2_with (first
  | (go_at_call 119;refine(HC0.out W0 (Below.refl _ _)).mono ?_;rintro e w1 ⟨rfl,hb⟩;have HB1:Hid (Below W0.heap.size W0 w1):=hid hb;clear hb;have p0:=(HA.out.keep HB1.out HA.out.lt).c 0 rfl;have q0:=(HB.out.keep HB1.out HB.out.lt).c 0 rfl;have p1:=(HA.out.keep HB1.out HA.out.lt).c 1 rfl;have q1:=(HB.out.keep HB1.out HB.out.lt).c 1 rfl))
 go_ret;exact⟨rfl,HBW.out.trans (HB1.out.mono HBW.out.size)⟩
theorem jbM (xs:List TagE) (hx:∀ x ∈ xs,True) (v1 v2:Value) (w:World) (h1:qbE qk7 78 2 w v1 xs) (h2:qbE qk7 78 2 w v2 xs) :
  Calls Tryz.prog 86 #[v1,v2,.func (.func 87) #[] #[]] w (qaT w):=by
 obtain⟨a1,c1,rfl⟩:=h1.form;obtain⟨a2,c2,rfl⟩:=h2.form;have hfew:=h1.few;have H1:=hid h1;have H2:=hid h2;have HX:=hid hx;have tk:((xs.length:Int)==(xs.length:Int))=true:=beq_self_eq_true _;generalize hN:xs.length=N at *
 have HN:=hid hN;clear h1 h2 hN hx;unfold qaT;go_enter Tryz.func86,Tryz.ntmps86;go_wp2
 go_loopw [17] (fun i wr=>∃ k:Nat,i=.int .i64 k∧k≤N∧Hid (Below w.heap.size w wr)) (fun i _=>N-(intOf i).toNat)
 case atStart=>exact⟨0,rfl,Nat.zero_le _,hid (Below.refl _ _)⟩
 case round =>
  obtain⟨k,rfl,hk,HBR⟩:=hrel;rcases Nat.lt_or_ge k N with hlt|hge
  ·have hkl:k<xs.length:=by rw[HN.out];exact hlt
   obtain⟨x,hx0⟩:∃ x,xs[k]?=some x:=⟨_,List.getElem?_eq_getElem hkl⟩
   obtain⟨g1,d1,rfl,hex,hc1⟩:=(H1.out.keep qfV HBR.out (Nat.le_refl _)).at qfV k x hx0;obtain⟨g2,d2,rfl,hey,hc2⟩:=(H2.out.keep qfV HBR.out (Nat.le_refl _)).at qfV k x hx0;have hmem:=qbW hx0;have hx:=HX.out;have qpF:=hex;have hey0:=hey;obtain⟨ax,px,rfl,_⟩:=qfO hex;obtain⟨ay,py,rfl,_⟩:=qfO hey;have hcall:=fun W3 (h31:qd7 qk7 W3 [.string x.nm,.slice ax x.tys.length px] x) (h32:qd7 qk7 W3 [.string x.nm,.slice ay x.tys.length py] x)=>qzS x (hx x hmem) _ _ W3 h31 h32;unfold qaT at hcall;have x0:wr.cell? ⟨g1,k * 2,none⟩=some (.string x.nm):=by have:=hc1 0 _ rfl;exact this
   have x1:wr.cell? ⟨g1,k * 2+1,none⟩=some (.slice ax x.tys.length px):=by have:=hc1 1 _ rfl;exact this
   obtain⟨W2,hW2⟩:∃ W2,W2=wr.alloc (.cells #[.string x.nm,.slice ax x.tys.length px] 78):=⟨_,rfl⟩
   have hb2:Below wr.heap.size wr W2:=by rw[hW2];exact(Below.refl _ wr).alloc (Nat.le_refl _) _
   have hx2:Bx W2 wr.heap.size 78 [.string x.nm,.slice ax x.tys.length px]:=by rw[hW2];exact Bx.new wr _ _
   have hc2':∀ j u,[.string x.nm,.slice ay x.tys.length py][j]?=some u→W2.cell? ⟨g2,k * 2+j,none⟩=some u:=fun j u hu=>(hb2.cell (World.block_lt_of_cell? _ _ (hc2 j u hu))).trans (hc2 j u hu);have y0:W2.cell? ⟨g2,k * 2,none⟩=some (.string x.nm):=by have:=hc2' 0 _ rfl;exact this
   have y1:W2.cell? ⟨g2,k * 2+1,none⟩=some (.slice ay x.tys.length py):=by have:=hc2' 1 _ rfl;exact this
   obtain⟨W3,hW3⟩:∃ W3,W3=W2.alloc (.cells #[.string x.nm,.slice ay x.tys.length py] 78):=⟨_,rfl⟩
   have hb3:Below W2.heap.size W2 W3:=by rw[hW3];exact(Below.refl _ W2).alloc (Nat.le_refl _) _
   have hx3:Bx W3 W2.heap.size 78 [.string x.nm,.slice ay x.tys.length py]:=by rw[hW3];exact Bx.new W2 _ _
   have hx2:=hx2.keep hb3 hx2.lt;have hb23:=hb2.trans (hb3.mono hb2.size);have hz2:W2.heap.size=wr.heap.size+1:=by rw[hW2];simp
   rw[hz2] at hx3;have q0:=hx2.c 0 rfl;have r0:=hx3.c 0 rfl;have q1:=hx2.c 1 rfl;have r1:=hx3.c 1 rfl;have HC:=hid (hcall W3 (qpF.keep qfV hb23 (Nat.le_refl _)) (hey0.keep qfV hb23 (Nat.le_refl _)));have HB3:Hid (Below w.heap.size w W3):=hid (HBR.out.trans (hb23.mono HBR.out.size));have HW2:=hid hW2;have HW3:=hid hW3;have HZ2:=hid hz2;have e2:(0:Int)≤(k:Int):=by omega
   have e3:(k:Int)<(N:Int):=by omega
   have e4:decide ((k:Int)<(N:Int))=true:=decide_eq_true e3;clear hc1 hc2 hc2' hkl hx0 hW2 hW3 hb2 hb3 hb23 hx2 hx3 hz2 hex hey qpF hey0 hcall hx hmem;go_upto_region 6 with (fail);rw[← HW2.out];go_upto_region 7 with (fail);rw[← HW3.out,HZ2.out];go_wp2_with (go_at_call 87;refine HC.out.mono ?_;rintro e w4 ⟨rfl,hb4⟩;have HB4:=hid (HB3.out.trans (hb4.mono HB3.out.size));clear hb4);go_roundw
   case rel=>exact⟨k+1,by go_num,by omega,HB4⟩
   case measure=>simp[intOf];omega
  ·obtain rfl:k=N:=by omega
   have d1:decide ((k:Int)<(k:Int))=false:=decide_eq_false (by omega);clear hk hge;go_wp2;go_ret;exact⟨rfl,HBR.out⟩
theorem qx2 (x:ProgE) (hok:okP x) (c1 c2:List Value) (w:World) (h1:qd7 qfR w c1 x) (h2:qd7 qfR w c2 x):Calls Tryz.prog 53 #[.agg c1.toArray,.agg c2.toArray] w (qaT w):=by
 obtain⟨ax,px,bx,qx,rfl,lx,kx⟩:=qdZ h1;obtain⟨ay,py,by9,qy,rfl,ly,ky⟩:=qdZ h2;obtain⟨W0,hW0,ha,hb,hB,hsz⟩:=qm0 w 26 [.slice ax x.tags.length px,.slice bx x.kinds.length qx] [.slice ay x.tags.length py,.slice by9 x.kinds.length qy];have HC0:Hid (∀ W,Below W0.heap.size W0 W→Calls Tryz.prog 86 #[.slice ax x.tags.length px,.slice ay x.tags.length py,.func (.func 87) #[] #[]] W (qaT W)):=hid (fun W hW=>jbM x.tags (fun _ _=>trivial) _ _ W ((lx.keep qfV hB (Nat.le_refl _)).keep qfV hW (Nat.le_refl _)) ((ly.keep qfV hB (Nat.le_refl _)).keep qfV hW (Nat.le_refl _)));have HC1:Hid (∀ W,Below W0.heap.size W0 W→Calls Tryz.prog 88 #[.slice bx x.kinds.length qx,.slice by9 x.kinds.length qy,.func (.func 89) #[] #[]] W (qaT W)):=hid (fun W hW=>q93 x.kinds hok _ _ W ((kx.keep qdY hB (Nat.le_refl _)).keep qdY hW (Nat.le_refl _)) ((ky.keep qdY hB (Nat.le_refl _)).keep qdY hW (Nat.le_refl _)));have HW0:=hid hW0;have HA:=hid ha;have HB:=hid hb;have HBW:=hid hB;have p0:=ha.c 0 rfl;have q0:=hb.c 0 rfl;have p1:=ha.c 1 rfl;have q1:=hb.c 1 rfl;clear hW0 ha hb hB hsz h1 h2 hok lx ly kx ky;unfold qaT at *
 go_enter Tryz.func53,Tryz.ntmps53;go_upto_region 1 with (fail);rw[← HW0.out];go_wp2_with (first
  | (go_at_call 88;refine(HC1.out w1 HB1.out).mono ?_;rintro e w2 ⟨rfl,hb⟩;have HB2:Hid (Below W0.heap.size W0 w2):=hid (HB1.out.trans (hb.mono HB1.out.size));clear hb;have p0:=(HA.out.keep HB2.out HA.out.lt).c 0 rfl;have q0:=(HB.out.keep HB2.out HB.out.lt).c 0 rfl;have p1:=(HA.out.keep HB2.out HA.out.lt).c 1 rfl;have q1:=(HB.out.keep HB2.out HB.out.lt).c 1 rfl)
  | (go_at_call 86;refine(HC0.out W0 (Below.refl _ _)).mono ?_;rintro e w1 ⟨rfl,hb⟩;have HB1:Hid (Below W0.heap.size W0 w1):=hid hb;clear hb;have p0:=(HA.out.keep HB1.out HA.out.lt).c 0 rfl;have q0:=(HB.out.keep HB1.out HB.out.lt).c 0 rfl;have p1:=(HA.out.keep HB1.out HA.out.lt).c 1 rfl;have q1:=(HB.out.keep HB1.out HB.out.lt).c 1 rfl))
 go_ret;exact⟨rfl,HBW.out.trans (HB2.out.mono HBW.out.size)⟩
end Go.Proofs.YtenlhcgpajphhaaGreatDoor
