import Derived.Test.YtenlhcgpajphhaaGreatDoorMDcPlain
import Derived.Test.YtenlhcgpajphhaaGreatDoorMPoExB
import Derived.Test.YtenlhcgpajphhaaGreatDoorPpValue
namespace Go.Proofs.YtenlhcgpajphhaaGreatDoor
open Go.RowKit
open Lib(hid)
set_option maxRecDepth 100000
set_option linter.all false
set_option maxHeartbeats 2000000
structure Env9 (W0:World):Prop where
 tab:Tab W0
 glob:qk3 W0
 gp:0<W0.heap.size
def qyK (W0:World) (v:Value) (w:World) (X:List UInt8) (e:Ending) (w':World):Prop:=∃ v',e=.returned v'∧w'.ownsRow W0.heap.size 5 1 v' X.length (u8s X)∧Fr [] v w w' v'
structure SubT (W0:World) (g:Nat) (N:List Nd) (k:Nat) (t:Ex):Prop where
 nodes:qcO W0 g N
 lt:g<W0.heap.size
 few:N.length≤64
 sub:∀ j,j<cnt t→N[k+j]?=(lay k t)[j]?
theorem SubT.room {W0:World} {g:Nat} {N:List Nd} {k:Nat} {t:Ex} (h:SubT W0 g N k t):k+cnt t≤N.length:=by
 have hp:=qeD t;have h1:=h.sub (cnt t-1) (by omega);rw[List.getElem?_eq_getElem (show cnt t-1<(lay k t).length by rw[qaF];omega)] at h1;have:=(List.getElem?_eq_some_iff.1 h1).1;omega
theorem SubT.cell {W0 w:World} {g:Nat} {N:List Nd} {k:Nat} {t:Ex} (h:SubT W0 g N k t) (hb:Below W0.heap.size W0 w) {nd:Nd} (hl:(lay k t)[cnt t-1]?=some nd) {j:Nat} {u:Value} (hj:(qaB nd)[j]?=some u):w.cell? ⟨g,(k+cnt t-1) * 9+j,none⟩=some u:=by
 have hp:=qeD t;have h1:=h.sub (cnt t-1) (by omega);rw[hl,show k+(cnt t-1)=k+cnt t-1 by omega] at h1;have hk:=(List.getElem?_eq_some_iff.1 h1).1;refine(hb.cell (p:=⟨g,_,none⟩) h.lt).trans (h.nodes _ _ _ hk ?_);rw[List.getD_eq_getElem?_getD,h1];exact hj
theorem qi2 (k:Nat) (l:Lf):(lay k (.lf l))[cnt (.lf l)-1]?=some (qaG l):=rfl
theorem qi1 (k m:Nat) (a:Ex):(lay k (.un m a))[cnt (.un m a)-1]?=some (qdU m (k+cnt a-1:Nat) 0):=by
 have:cnt (.un m a)-1=(lay k a).length:=by rw[qaF];rfl
 rw[this,lay,List.getElem?_append_right (Nat.le_refl _),Nat.sub_self];rfl
theorem qi3 (k m:Nat) (a b:Ex):(lay k (.bi m a b))[cnt (.bi m a b)-1]?=some (qdU m (k+cnt a-1:Nat) (k+cnt a+cnt b-1:Nat)):=by
 have:cnt (.bi m a b)-1=(lay k a).length+(lay (k+cnt a) b).length:=by rw[qaF,qaF];rfl
 rw[this,lay,List.getElem?_append_right (by omega),Nat.add_sub_cancel_left,List.getElem?_append_right (Nat.le_refl _),Nat.sub_self];rfl
section
variable {W0:World} {g:Nat} {N:List Nd} {k m:Nat} {a b:Ex}
theorem SubT.one (h:SubT W0 g N k (.un m a)):SubT W0 g N k a:=⟨h.nodes,h.lt,h.few,fun j hj=>by
 have:=h.sub j (by unfold cnt;omega);rw[this,lay,List.getElem?_append_left (by rw[qaF];exact hj)]⟩
theorem SubT.left (h:SubT W0 g N k (.bi m a b)):SubT W0 g N k a:=⟨h.nodes,h.lt,h.few,fun j hj=>by
 have:=h.sub j (by unfold cnt;omega);rw[this,lay,List.getElem?_append_left (by rw[qaF];exact hj)]⟩
theorem SubT.right (h:SubT W0 g N k (.bi m a b)):SubT W0 g N (k+cnt a) b:=⟨h.nodes,h.lt,h.few,fun j hj=>by
 have:=h.sub (cnt a+j) (by show cnt a+j<cnt a+cnt b+1;omega);rw[Nat.add_assoc,this,lay,List.getElem?_append_right (by rw[qaF];omega),qaF,Nat.add_sub_cancel_left,List.getElem?_append_left (by rw[qaF];exact hj)]⟩
end
def kdX:Ex→Nat
 | .lf (.var _)=>2
 | .lf _=>1
 | .un k _=>k
 | .bi k _ _=>k
theorem qp8 (k:Nat) (t:Ex):∃ nd,(lay k t)[cnt t-1]?=some nd∧nd.k=(kdX t:Nat):=by
 cases t with
 | lf l=>exact⟨_,qi2 k l,by cases l <;> rfl⟩
 | un m a=>exact⟨_,qi1 k m a,rfl⟩
 | bi m a b=>exact⟨_,qi3 k m a b,rfl⟩
theorem q1I {t:Ex} (h:WfT t):kdX t<27∧qb3 (kdX t)=qdG t:=by
 cases t with
 | lf l=>cases l <;> exact⟨by simp[kdX],rfl⟩
 | un m a=>exact⟨h.1,rfl⟩
 | bi m a b=>exact⟨h.1,rfl⟩
def qyF (t:Ex):Prop:=∀ (W0 w:World) (g cap k:Nat) (N:List Nd) (v:Value) (T:List UInt8),Env9 W0→SubT W0 g N k t→Below W0.heap.size W0 w→w.ownsRow W0.heap.size 5 1 v T.length (u8s T)→T.length+(txX t).length≤1000000 →
 Calls Tryz.prog 142 #[v,.slice (some ⟨g,0,none⟩) N.length cap,.int .i64 (k+cnt t-1:Nat)] w (qyK W0 v w (T++txX t))
def q7E (t:Ex):Prop:=∀ (W0 w:World) (g cap k lv:Nat) (N:List Nd) (v:Value) (T:List UInt8),Env9 W0→SubT W0 g N k t→Below W0.heap.size W0 w→w.ownsRow W0.heap.size 5 1 v T.length (u8s T)→lv≤8→T.length+(brB lv t).length≤1000000 →
 Calls Tryz.prog 162 #[v,.slice (some ⟨g,0,none⟩) N.length cap,.int .i64 (k+cnt t-1:Nat),.int .i64 lv] w (qyK W0 v w (T++brB lv t))
theorem Fr.bel {W0 w w1:World} {v v1:Value} {n:Nat} {xs:List Value} (h:Fr [] v w w1 v1) (hb:Below W0.heap.size W0 w) (ho:w.ownsRow W0.heap.size 5 1 v n xs):Below W0.heap.size W0 w1:=h.toBelow hb hb.size (by simp) (fun x hx=>(qlW ho x hx).1)
theorem qpT (t:Ex) (hw:WfT t) (hn:qyF t):q7E t:=by
 intro W0 w g cap k lv N v T hE hS hb hown hlv hlen;obtain⟨nd,hnd,hk⟩:=qp8 k t;obtain⟨hk27,hklv⟩:=q1I hw;have c0:w.cell? ⟨g,(k+cnt t-1) * 9,none⟩=some (.int .i64 (kdX t:Nat)):=by
  have:=hS.cell hb hnd (j:=0) rfl;rw[hk] at this;exact this
 have hTab:Tab w:=hE.tab.of_block (hb.block _ hE.gp);obtain⟨_,s1,_⟩:=hTab (kdX t) hk27;rw[hklv] at s1;have hroom:=hS.room;have hfew:=hS.few;have hp:=qeD t;generalize hI:k+cnt t-1=I at *
 have hI1:I<N.length:=by omega
 generalize hLN:N.length=n at *
 generalize hK:kdX t=K at *
 have hW:=fun w v T=>hn W0 w g cap k N v T hE hS;rw[hI,hLN] at hW;have HW:=hid hW;have HB:=hid hb;have HO:=hid hown;have hlen2:(brB lv t).length=if lv≤qdG t then (txX t).length else (txX t).length+2:=by
  unfold brB;split <;> simp
 have HL:=hid hlen;have HL2:=hid hlen2;have hbr:brB lv t=if lv≤qdG t then txX t else 40 :: (txX t++[41]):=rfl
 have HBR:=hid hbr;by_cases hle:lv≤qdG t
 ·have d1:decide ((lv:Int)≤(qdG t:Int))=true:=by rw[decide_eq_true_eq];omega
  have HLE:=hid hle;generalize qdG t=tl at *
  clear hW hb hown hlen hlen2 hbr hI hLN hK hE hS hn hnd hk hTab hle hklv hw;unfold qyK;go_enter Tryz.func162,Tryz.ntmps162;go_wp2_with fail;refine(HW.out w v T HB.out HO.out (by have:=HL.out;have h2:=HL2.out;rw[if_pos HLE.out] at h2;omega)).mono ?_;rintro e w1 ⟨v1,rfl,ho1,hf1⟩;have HO1:=hid ho1;have HF1:=hid hf1;clear ho1 hf1;go_wp2_with fail;go_ret;have hbr:brB lv t=txX t:=by rw[HBR.out,if_pos HLE.out]
  rw[hbr];exact⟨v1,rfl,HO1.out,HF1.out⟩
 ·have d1:decide ((lv:Int)≤(qdG t:Int))=false:=by rw[decide_eq_false_iff_not];omega
  have HLE:=hid hle;generalize qdG t=tl at *
  clear hW hb hown hlen hlen2 hbr hI hLN hK hE hS hn hnd hk hTab hle hklv hw;unfold qyK;go_enter Tryz.func162,Tryz.ntmps162;go_wp2_with (first
   | (at_builtin;refine qaS rfl (.tmp 23) (.tmp 24) rfl W0.heap.size v T.length (u8s T) rfl HO.out [40] 1 rfl rfl (by decide) (by have:=HL.out;show T.length+1≤_;omega) HB.out.size ?_;intro v1 w1 ho1 hf1;have HO1:=hid ho1;have HF1:=hid hf1;clear ho1 hf1))
  have HB1:=hid (HF1.out.bel HB.out HO.out);have HO1':=hid (qfM HO1.out);refine(HW.out w1 v1 (T++[40]) HB1.out HO1'.out (by have:=HL.out;have h2:=HL2.out;rw[if_neg HLE.out] at h2;rw[List.length_append];show T.length+1+_≤_;omega)).mono ?_;rintro e w2 ⟨v2,rfl,ho2,hf2⟩;have HB2:=hid (hf2.bel HB1.out HO1'.out);have HO2:=hid ho2;have HF2:=hid (HF1.out.trans hf2);clear ho2 hf2;go_wp2_with (first
   | (at_builtin;refine qaS rfl (.tmp 30) (.tmp 31) rfl W0.heap.size v2 _ _ rfl HO2.out [41] 1 rfl rfl (by decide) (by have:=HL.out;have h2:=HL2.out;rw[if_neg HLE.out] at h2;rw[List.length_append,List.length_append];show T.length+1+_+1≤_;omega) HB2.out.size ?_;intro v3 w3 ho3 hf3;have HO3:=hid (qfM ho3);have HF3:=hid (HF2.out.trans hf3);clear ho3 hf3))
  go_ret;have hbr:T++brB lv t=((T++[40])++txX t)++[41]:=by rw[HBR.out,if_neg HLE.out];simp
  rw[hbr];exact⟨v3,rfl,HO3.out,HF3.out⟩
set_option maxHeartbeats 4000000
def IhN:Ex→Prop
 | .lf _=>True
 | .un _ a=>qyF a
 | .bi _ a b=>qyF a∧qyF b
def q38 (t:Ex):Prop:=∀ (W0 w:World) (g cap k:Nat) (N:List Nd) (v:Value) (T:List UInt8),Env9 W0→SubT W0 g N k t→Below W0.heap.size W0 w→w.ownsRow W0.heap.size 5 1 v T.length (u8s T)→T.length+(txX t).length≤1000000 →
 Calls Tryz.prog 161 #[v,.slice (some ⟨g,0,none⟩) N.length cap,.int .i64 (k+cnt t-1:Nat)] w (qyK W0 v w (T++txX t))
theorem qfK {w w1:World} {v v1:Value} {E1:Nat} {T1 T2:TypeId} {c1 c2:List Value} (h:Fr [] v w w1 v1) (h1:Bx w E1 T1 c1) (h2:Bx w (E1+1) T2 c2) (n1:v.ownBlock≠some E1) (n2:v.ownBlock≠some (E1+1)):(Bx w1 E1 T1 c1∧Bx w1 (E1+1) T2 c2)∧v1.ownBlock≠some E1∧v1.ownBlock≠some (E1+1) :=
 ⟨⟨h.bx h1 (by simp) n1,h.bx h2 (by simp) n2⟩,h.own _ h1.lt n1,h.own _ h2.lt n2⟩
theorem qs3 (t:Ex) (hw:WfT t) (h7:qdG t=7) (hnl:∀ l,t≠.lf l) (ih:IhN t):q38 t:=by
 intro W0 w g cap k N v T hE hS hb hown hlen;obtain⟨nd,hnd,hkd⟩:=qp8 k t;obtain⟨hk27,hklv⟩:=q1I hw;have hTab:Tab w:=hE.tab.of_block (hb.block _ hE.gp);have hroom:=hS.room;have hfew:=hS.few;have hp:=qeD t;have c0:w.cell? ⟨g,(k+cnt t-1) * 9,none⟩=some (.int .i64 (kdX t:Nat)):=by
  have:=hS.cell hb hnd (j:=0) rfl;rw[hkd] at this;exact this
 have c1:=hS.cell hb hnd (j:=1) rfl;have c2:=hS.cell hb hnd (j:=2) rfl;have c3:=hS.cell hb hnd (j:=3) rfl;have c4:=hS.cell hb hnd (j:=4) rfl;have c5:=hS.cell hb hnd (j:=5) rfl;have c6:=hS.cell hb hnd (j:=6) rfl;have c7:=hS.cell hb hnd (j:=7) rfl;have c8:=hS.cell hb hnd (j:=8) rfl;have hI1:k+cnt t-1<N.length:=by omega
 generalize hI:k+cnt t-1=I at *
 generalize hLN:N.length=n at *
 generalize hK:kdX t=K at *
 obtain⟨W1,hW1⟩:∃ W1,W1=w.alloc (.cells #[.int .i64 (K:Nat),.int .i64 nd.a,.int .i64 nd.b,.string nd.nm,.int .i64 nd.vk,.int .i64 nd.vi,.float .f64 nd.rl,.complex .f64 nd.re nd.im,.string nd.tx] 109):=⟨_,rfl⟩
 have hb1:Below w.heap.size w W1:=by rw[hW1];exact(Below.refl _ w).alloc (Nat.le_refl _) _
 have hz1:W1.heap.size=w.heap.size+1:=by rw[hW1];simp
 have hx1:Bx W1 w.heap.size 109 [.int .i64 (K:Nat),.int .i64 nd.a,.int .i64 nd.b,.string nd.nm,.int .i64 nd.vk,.int .i64 nd.vi,.float .f64 nd.rl,.complex .f64 nd.re nd.im,.string nd.tx]:=by rw[hW1];exact Bx.new w _ _
 have hT1:Tab W1:=hTab.of_block (hb1.block _ (Nat.lt_of_lt_of_le hE.gp hb.size));obtain⟨s0,s1,s2⟩:=hT1 K hk27;obtain⟨W2,hW2⟩:∃ W2,W2=W1.alloc (.cells #[.string ⟨(qcF K).toArray⟩,.int .i64 (qb3 K:Nat),.int .i64 (qeJ K:Nat)] 218):=⟨_,rfl⟩
 have hb2:Below W1.heap.size W1 W2:=by rw[hW2];exact(Below.refl _ W1).alloc (Nat.le_refl _) _
 have hx2:Bx W2 W1.heap.size 218 [.string ⟨(qcF K).toArray⟩,.int .i64 (qb3 K:Nat),.int .i64 (qeJ K:Nat)]:=by rw[hW2];exact Bx.new W1 _ _
 have x0:=hx1.c 0 rfl;have hx1:=hx1.keep hb2 hx1.lt;have hb2:=hb1.trans (hb2.mono hb1.size);rw[hz1] at hx2;have HW1:=hid hW1;have HW2:=hid hW2;have HF0:Hid (Fr [] v w W2 v):=hid (Fr.of_below hb2);have HX1:=hid hx1;have HX2:=hid hx2;have HZ1:=hid hz1;have HB2:Hid (Below W0.heap.size W0 W2):=hid (hb.trans (hb2.mono hb.size));have HO2:=hid (qdB hown hb2 (Nat.le_refl _));have HV1:Hid (v.ownBlock≠some w.heap.size):=hid (qsV hown);have HV2:Hid (v.ownBlock≠some (w.heap.size+1)):=hid (fun e=>by have:=qlW hown _ e;omega);have HK:=hid hK;have HND:=hid hnd;have HS:=hid hS;have HLN:=hid hLN;have HLV:=hid hklv;have HI:=hid hI;have HL:=hid hlen;clear hW1 hW2 hb1 hb2 hx1 hx2 hT1 hz1 hK hkd hnd hS hb hown hLN hTab hklv hI hlen;have sf:=qbQ;have sc:=qe9;go_enter Tryz.func161,Tryz.ntmps161;go_upto_region 2 with (fail);rw[← HW1.out];clear c0 c1 c2 c3 c4 c5 c6 c7 c8;go_upto_region 3 with (fail);rw[← HW2.out];rw[HZ1.out];clear s0 s1 s2 x0 sf sc HW1 HW2 HZ1;generalize hE1:w.heap.size=E1 at *
 have HE1:=hid hE1;clear hE1;have hgp:=hE.gp;have k0:=HX1.out.c 0 rfl;have k1:=HX1.out.c 1 rfl;have k2:=HX1.out.c 2 rfl;have k3:=HX1.out.c 3 rfl;have k4:=HX1.out.c 4 rfl;have k5:=HX1.out.c 5 rfl;have k6:=HX1.out.c 6 rfl;have k7:=HX1.out.c 7 rfl;have k8:=HX1.out.c 8 rfl;have t0:=HX2.out.c 0 rfl;have t1:=HX2.out.c 1 rfl;have t2:=HX2.out.c 2 rfl;cases t with
 | lf l=>exact absurd rfl (hnl l)
 | un m a =>
  have hnd:nd=qdU m (k+cnt a-1:Nat) 0:=by have:=HND.out;rw[qi1] at this;exact(Option.some.inj this).symm
  have hm:m=K:=HK.out;have hch:qeJ K=1:=by rw[← hm];exact hw.2.1
  have hT:txX (.un m a)=qcF m++40 :: (txX a++[41]):=qqB h7;have HTL:Hid (T.length+((qcF K).length+((txX a).length+2))≤1000000):=by
   have:=HL.out;rw[hT,hm] at this;simp at this;exact hid (by omega)
  have hsz:(⟨(qcF K).toArray⟩:ByteArray).size=(qcF K).length:=rfl;have HSZ:=hid hsz;have hA':nd.a=((k+cnt a-1:Nat):Int):=by rw[hnd];rfl
  generalize nd.a=A at *
  have hW:=fun w v T=>ih W0 w g cap k N v T hE HS.out.one;rw[HLN.out] at hW;generalize k+cnt a-1=J at *
  subst hA';have HA:=hid hW;have HT:=hid hT;have HM:=hid hm;have c1:(((1:Nat):Int)==2)=false:=rfl;rw[hch] at t2 HX2;clear hW hT hm hsz hnd hch ih hw h7 hnl;unfold qyK;go_wp2_with (first
   | (at_builtin;refine qaS rfl (.tmp 39) (.tmp 40) rfl W0.heap.size v5 _ _ rfl HO5.out [41] 1 rfl rfl (by decide) (by have:=HTL.out;simp;omega) HB5.out.size ?_;intro v6 w6 ho6 hf6;have HO6:=hid (qfM ho6);have HF6:=hid (HF5.out.trans hf6);clear ho6 hf6)
   | (go_at_call 142;refine(HA.out w4 v4 _ HB4.out HO4.out (by have:=HTL.out;simp;omega)).mono ?_;rintro e w5 ⟨v5,rfl,ho5,hf5⟩;have HB5:=hid (hf5.bel HB4.out HO4.out);have HO5:=hid ho5;have HF5:=hid (HF4.out.trans hf5);have hk5:=qfK HF5.out HX1.out HX2.out HV1.out HV2.out;have t2:=hk5.1.2.c 2 rfl;clear ho5 hf5 hk5)
   | (at_builtin;refine qaS rfl (.tmp 21) (.tmp 22) rfl W0.heap.size v3 _ _ rfl HO3.out [40] 1 rfl rfl (by decide) (by have:=HTL.out;have:=HSZ.out;simp;omega) HB3.out.size ?_;intro v4 w4 ho4 hf4;have HB4:=hid (hf4.bel HB3.out HO3.out);have HO4:=hid (qfM ho4);have HF4:=hid (HF3.out.trans hf4);have hk4:=qfK HF4.out HX1.out HX2.out HV1.out HV2.out;have k1:=hk4.1.1.c 1 rfl;clear ho4 hf4 hk4)
   | (at_builtin;refine qbF rfl (.tmp 17) (.tmp 19) rfl W0.heap.size v T.length (u8s T) rfl HO2.out ⟨(qcF K).toArray⟩ rfl (by have:=HTL.out;have:=HSZ.out;omega) HB2.out.size ?_;intro v3 w3 ho3 hf3;have HB3:=hid (hf3.bel HB2.out HO2.out);have HO3:=hid (qhW ho3);have HF3:=hid hf3;clear ho3 hf3))
  go_ret;refine⟨v6,rfl,?_,HF0.out.trans HF6.out⟩;have e:T++txX (.un m a)=T++qcF K++[40]++txX a++[41]:=by rw[HT.out,HM.out];simp
  rw[e];exact HO6.out
 | bi m a b =>
  have hnd:nd=qdU m (k+cnt a-1:Nat) (k+cnt a+cnt b-1:Nat):=by have:=HND.out;rw[qi3] at this;exact(Option.some.inj this).symm
  have hm:m=K:=HK.out;have hch:qeJ K=2:=by rw[← hm];exact hw.2.1
  have hT:txX (.bi m a b)=qcF m++40 :: (txX a++44 :: 32 :: (txX b++[41])):=qqA h7;have HTL:Hid (T.length+((qcF K).length+((txX a).length+((txX b).length+4)))≤1000000):=by
   have:=HL.out;rw[hT,hm] at this;simp at this;exact hid (by omega)
  have hsz:(⟨(qcF K).toArray⟩:ByteArray).size=(qcF K).length:=rfl;have HSZ:=hid hsz;have hA':nd.a=((k+cnt a-1:Nat):Int):=by rw[hnd];rfl
  have hB':nd.b=((k+cnt a+cnt b-1:Nat):Int):=by rw[hnd];rfl
  generalize nd.a=A at *
  generalize nd.b=B at *
  have hWa:=fun w v T=>ih.1 W0 w g cap k N v T hE HS.out.left;have hWb:=fun w v T=>ih.2 W0 w g cap (k+cnt a) N v T hE HS.out.right;rw[HLN.out] at hWa hWb;generalize k+cnt a+cnt b-1=J2 at *
  generalize k+cnt a-1=J at *
  subst hA' hB';have HA:=hid hWa;have HC:=hid hWb;have HT:=hid hT;have HM:=hid hm;have c1:(((2:Nat):Int)==2)=true:=rfl;rw[hch] at t2 HX2;have hc2:(⟨#[44,32]⟩:ByteArray).size=2:=rfl;have HC2:=hid hc2;clear hWa hWb hT hm hsz hnd hch ih hw h7 hnl hc2;unfold qyK;go_wp2_with (first
   | (at_builtin;refine qaS rfl (.tmp 39) (.tmp 40) rfl W0.heap.size v7 _ _ rfl HO7.out [41] 1 rfl rfl (by decide) (by have:=HTL.out;simp;omega) HB7.out.size ?_;intro v8 w8 ho8 hf8;have HO8:=hid (qfM ho8);have HF8:=hid (HF7.out.trans hf8);clear ho8 hf8)
   | (go_at_call 142;refine(HC.out w6 v6 _ HB6.out HO6.out (by have:=HTL.out;simp;omega)).mono ?_;rintro e w7 ⟨v7,rfl,ho7,hf7⟩;have HB7:=hid (hf7.bel HB6.out HO6.out);have HO7:=hid ho7;have HF7:=hid (HF6.out.trans hf7);clear ho7 hf7)
   | (at_builtin;refine qbF rfl (.tmp 32) _ rfl W0.heap.size v5 _ _ rfl HO5.out ⟨#[44,32]⟩ rfl (by have:=HTL.out;have:=HC2.out;simp;omega) HB5.out.size ?_;intro v6 w6 ho6 hf6;have HB6:=hid (hf6.bel HB5.out HO5.out);have HO6:=hid (qhW ho6);have HF6:=hid (HF5.out.trans hf6);have hk6:=qfK HF6.out HX1.out HX2.out HV1.out HV2.out;have k2:=hk6.1.1.c 2 rfl;clear ho6 hf6 hk6)
   | (go_at_call 142;refine(HA.out w4 v4 _ HB4.out HO4.out (by have:=HTL.out;simp;omega)).mono ?_;rintro e w5 ⟨v5,rfl,ho5,hf5⟩;have HB5:=hid (hf5.bel HB4.out HO4.out);have HO5:=hid ho5;have HF5:=hid (HF4.out.trans hf5);have hk5:=qfK HF5.out HX1.out HX2.out HV1.out HV2.out;have t2:=hk5.1.2.c 2 rfl;clear ho5 hf5 hk5)
   | (at_builtin;refine qaS rfl (.tmp 21) (.tmp 22) rfl W0.heap.size v3 _ _ rfl HO3.out [40] 1 rfl rfl (by decide) (by have:=HTL.out;have:=HSZ.out;simp;omega) HB3.out.size ?_;intro v4 w4 ho4 hf4;have HB4:=hid (hf4.bel HB3.out HO3.out);have HO4:=hid (qfM ho4);have HF4:=hid (HF3.out.trans hf4);have hk4:=qfK HF4.out HX1.out HX2.out HV1.out HV2.out;have k1:=hk4.1.1.c 1 rfl;clear ho4 hf4 hk4)
   | (at_builtin;refine qbF rfl (.tmp 17) (.tmp 19) rfl W0.heap.size v T.length (u8s T) rfl HO2.out ⟨(qcF K).toArray⟩ rfl (by have:=HTL.out;have:=HSZ.out;omega) HB2.out.size ?_;intro v3 w3 ho3 hf3;have HB3:=hid (hf3.bel HB2.out HO2.out);have HO3:=hid (qhW ho3);have HF3:=hid hf3;clear ho3 hf3))
  go_ret;refine⟨v8,rfl,?_,HF0.out.trans HF8.out⟩;have e:T++txX (.bi m a b)=T++qcF K++[40]++txX a++[44,32]++txX b++[41]:=by rw[HT.out,HM.out];simp
  rw[e];exact HO8.out
theorem qm8 {b:Nat} (h:b<9223372036854775808):qkA b=(b:Int)∧qbU b=b:=by
 have h1:qbU b=b:=by unfold qbU;omega
 have h2:qiQ b=false:=by
  unfold qiQ;rw[show b / 9223372036854775808=0 by omega];rfl
 unfold qkA;rw[h2,h1];exact⟨rfl,rfl⟩
theorem qp1 {b:Nat} (h:b<9223372036854775808):qnM b=decide (9218868437227405312<b):=by
 unfold qnM;rw[(qm8 h).2]
theorem q8U {b:Nat} (h:b<9218868437227405312):gtB b 9218868437227405311=false:=by
 unfold gtB;show (Ieee.double.order b 9218868437227405311==some Ordering.gt)=_;rw[qf9 b _ (by rw[qp1 (by omega)];exact decide_eq_false (by omega)) (by rw[qp1 (by omega)];decide),(qm8 (by omega)).1,(qm8 (b:=9218868437227405311) (by omega)).1];exact qnT _ _ (by omega)
theorem q5B {b:Nat} (h:b<9218868437227405312):eqB b 0=decide (b=0):=by
 unfold eqB;show (Ieee.double.order b 0==some Ordering.eq)=_;rw[qf9 b _ (by rw[qp1 (by omega)];exact decide_eq_false (by omega)) (by rw[qp1 (by omega)];decide),(qm8 (by omega)).1,(qm8 (b:=0) (by omega)).1];by_cases hb:b=0
 ·rw[decide_eq_true hb,hb];rfl
 ·rw[decide_eq_false hb];exact qnU _ _ (by omega)
theorem qv1 (b:Nat):qjA b=q4L b∧qv2 b=jaX b:=⟨rfl,rfl⟩
theorem q17 {b:Nat} (h:b<9218868437227405312):qrG b=⟨(qiS b).toArray⟩:=by
 unfold qrG qiS;rw[q8U h,q5B h,if_neg (by decide),if_neg (by omega:¬ b=9218868437227405312)];by_cases h0:b=0
 ·rw[decide_eq_true h0,if_pos rfl,if_pos h0]
 ·rw[decide_eq_false h0,if_neg (by decide),if_neg h0,(qv1 b).1,(qv1 b).2];have e:∀ x y z:List UInt8,((⟨x.toArray⟩:ByteArray)++⟨y.toArray⟩)++⟨z.toArray⟩=⟨(x++(y++z)).toArray⟩:=by
   intro x y z;apply ByteArray.ext;simp
  exact e _ [112] _
theorem q4T {l:Lf} (h:q64 l) (hv:∀ t,l≠.var t):qfY (qaG l).vk (qaG l).vi (qaG l).rl (qaG l).re (qaG l).im (qaG l).tx=⟨(itL [] l).pc.toArray⟩∧WfV (qaG l).vi (qaG l).rl (qaG l).re (qaG l).im:=by
 cases l with
 | int v =>
  have h1:0≤v:=h.1;have h2:v<9223372036854775808:=h.2;refine⟨?_,⟨by show -9223372036854775808≤v;omega,by show v≤9223372036854775807;omega⟩,by show 0<_;decide,by show 0<_;decide,by show 0<_;decide⟩;show qfY 1 v 0 0 0 ⟨#[]⟩=⟨(Lib.decDigits v.toNat).toArray⟩
  unfold qfY;rw[show qkW 1 v ⟨#[]⟩=true from rfl,if_neg (by decide),if_pos rfl];obtain⟨n,rfl⟩:=Int.eq_ofNat_of_zero_le h1;rw[Lib.itoa_nonneg];rfl
 | real b =>
  obtain⟨m,x,rfl,ho⟩:=h;have hb:=(qg0 ho).1;generalize qaA m x=b at *
  refine⟨?_,⟨by show (-9223372036854775808:Int)≤0;decide,by show (0:Int)≤_;decide⟩,by show b<_;omega,by show 0<_;decide,by show 0<_;decide⟩;show qfY 2 0 b 0 0 ⟨#[]⟩=⟨(qiS b).toArray⟩
  unfold qfY;rw[if_neg (by decide),if_neg (by decide),if_pos rfl];unfold qe5;rw[ql6 hb,if_neg (by decide),if_neg (by omega)];exact q17 hb
 | text t =>
  have ht:t.size≤256:=h;refine⟨?_,⟨by show (-9223372036854775808:Int)≤0;decide,by show (0:Int)≤_;decide⟩,by show 0<_;decide,by show 0<_;decide,by show 0<_;decide⟩;show qfY 4 0 0 0 0 t=⟨(qdI t.data.toList).toArray⟩
  unfold qfY;have hm:qkW 4 0 t=true:=by unfold qkW;rw[if_neg (by decide),if_pos rfl];exact decide_eq_true ht
  rw[hm,if_neg (by decide),if_neg (by decide),if_neg (by decide),if_neg (by decide),if_pos rfl]
 | bool b=>cases b <;> exact⟨rfl,⟨by decide,by decide⟩,by decide,by decide,by decide⟩
 | var t=>exact absurd rfl (hv t)
end Go.Proofs.YtenlhcgpajphhaaGreatDoor
