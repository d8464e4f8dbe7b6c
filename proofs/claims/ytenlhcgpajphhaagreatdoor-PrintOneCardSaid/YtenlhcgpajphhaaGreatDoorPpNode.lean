import Derived.Test.YtenlhcgpajphhaaGreatDoorMPpNode0
import Derived.StillTailTactics
namespace Go.Proofs.YtenlhcgpajphhaaGreatDoor
open Go.RowKit
set_option maxRecDepth 100000
open Lib(hid)
set_option linter.all false
set_option maxHeartbeats 8000000
theorem qt2 (t:Ex) (hw:WfT t) (hl:qq4 t) (ih:IhN t) (ic:qdG t=7→(∀ l,t≠.lf l)→q38 t) (iw:∀ a,(∃ m,t=.un m a)∨(∃ m b,t=.bi m a b)∨(∃ m b,t=.bi m b a)→q7E a):qyF t:=by
 intro W0 w g cap k N v T hE hS hb hown hlen;obtain⟨nd,hnd,hkd⟩:=qp8 k t;obtain⟨hk27,hklv⟩:=q1I hw;have hTab:Tab w:=hE.tab.of_block (hb.block _ hE.gp);have hroom:=hS.room;have hfew:=hS.few;have hp:=qeD t;have c0:w.cell? ⟨g,(k+cnt t-1) * 9,none⟩=some (.int .i64 (kdX t:Nat)):=by
  have:=hS.cell hb hnd (j:=0) rfl;rw[hkd] at this;exact this
 have c1:=hS.cell hb hnd (j:=1) rfl;have c2:=hS.cell hb hnd (j:=2) rfl;have c3:=hS.cell hb hnd (j:=3) rfl;have c4:=hS.cell hb hnd (j:=4) rfl;have c5:=hS.cell hb hnd (j:=5) rfl;have c6:=hS.cell hb hnd (j:=6) rfl;have c7:=hS.cell hb hnd (j:=7) rfl;have c8:=hS.cell hb hnd (j:=8) rfl;have hI1:k+cnt t-1<N.length:=by omega
 generalize hI:k+cnt t-1=I at *
 generalize hLN:N.length=n at *
 generalize hK:kdX t=K at *
 obtain⟨W1,hW1⟩:∃ W1,W1=w.alloc (.cells #[.int .i64 (K:Nat),.int .i64 nd.a,.int .i64 nd.b,.string nd.nm,.int .i64 nd.vk,.int .i64 nd.vi,.float .f64 nd.rl,.complex .f64 nd.re nd.im,.string nd.tx] 109):=⟨_,rfl⟩
 have hb1:Below w.heap.size w W1:=by rw[hW1];exact(Below.refl _ w).alloc (Nat.le_refl _) _
 have hz1:W1.heap.size=w.heap.size+1:=by rw[hW1];simp
 have hx1:Bx W1 w.heap.size 109 [.int .i64 (K:Nat),.int .i64 nd.a,.int .i64 nd.b,.string nd.nm,.int .i64 nd.vk,.int .i64 nd.vi,.float .f64 nd.rl,.complex .f64 nd.re nd.im,.string nd.tx]:=by rw[hW1];exact Bx.new w _ _
 have hT1:Tab W1:=hTab.of_block (hb1.block _ (Nat.lt_of_lt_of_le hE.gp hb.size));obtain⟨s0,s1,s2⟩:=hT1 K hk27;obtain⟨W2,hW2⟩:∃ W2,W2=W1.alloc (.cells #[.string ⟨(qcF K).toArray⟩,.int .i64 (qb3 K:Nat),.int .i64 (qeJ K:Nat)] 218):=⟨_,rfl⟩
 have hb2:Below W1.heap.size W1 W2:=by rw[hW2];exact(Below.refl _ W1).alloc (Nat.le_refl _) _
 have hx2:Bx W2 W1.heap.size 218 [.string ⟨(qcF K).toArray⟩,.int .i64 (qb3 K:Nat),.int .i64 (qeJ K:Nat)]:=by rw[hW2];exact Bx.new W1 _ _
 have x0:=hx1.c 0 rfl;have hx1:=hx1.keep hb2 hx1.lt;have hb2:=hb1.trans (hb2.mono hb1.size);rw[hz1] at hx2;have HW1:=hid hW1;have HW2:=hid hW2;have HF0:Hid (Fr [] v w W2 v):=hid (Fr.of_below hb2);have HX1:=hid hx1;have HX2:=hid hx2;have HZ1:=hid hz1;have HB2:Hid (Below W0.heap.size W0 W2):=hid (hb.trans (hb2.mono hb.size));have HO2:=hid (qdB hown hb2 (Nat.le_refl _));have HV1:Hid (v.ownBlock≠some w.heap.size):=hid (qsV hown);have HV2:Hid (v.ownBlock≠some (w.heap.size+1)):=hid (fun e=>by have:=qlW hown _ e;omega);have HK:=hid hK;have HND:=hid hnd;have HS:=hid hS;have HLN:=hid hLN;have HLV:=hid hklv;have HI:=hid hI;have HL:=hid hlen;clear hW1 hW2 hb1 hb2 hx1 hx2 hT1 hz1 hK hkd hnd hS hb hown hLN hTab hklv hI hlen;have sf:=qbQ;have sc:=qe9;go_enter Tryz.func142,Tryz.ntmps142;go_upto_region 2 with (fail);rw[← HW1.out];clear c0 c1 c2 c3 c4 c5 c6 c7 c8;go_upto_region 3 with (fail);rw[← HW2.out];rw[HZ1.out];clear s0 s1 s2 x0 sf sc HW1 HW2 HZ1;generalize hE1:w.heap.size=E1 at *
 have HE1:=hid hE1;clear hE1;have hgp:=hE.gp;have k0:=HX1.out.c 0 rfl;have k1:=HX1.out.c 1 rfl;have k2:=HX1.out.c 2 rfl;have k3:=HX1.out.c 3 rfl;have k4:=HX1.out.c 4 rfl;have k5:=HX1.out.c 5 rfl;have k6:=HX1.out.c 6 rfl;have k7:=HX1.out.c 7 rfl;have k8:=HX1.out.c 8 rfl;have t0:=HX2.out.c 0 rfl;have t1:=HX2.out.c 1 rfl;have t2:=HX2.out.c 2 rfl;have hsz:(⟨(qcF K).toArray⟩:ByteArray).size=(qcF K).length:=rfl;have HSZ:=hid hsz;clear hsz;by_cases h2:∃ x,t=.lf (.var x)
 ·obtain⟨x,rfl⟩:=h2;have hk:K=2:=HK.out.symm;have hnd:nd=qaG (.var x):=by have:=HND.out;rw[qi2] at this;exact(Option.some.inj this).symm
  subst hk;have hn:nd.nm=x:=by rw[hnd];rfl
  rw[hn] at k3;have HT:Hid (txX (.lf (.var x))=x.data.toList):=hid (qz1 _);have HTL:Hid (T.length+x.size≤1000000):=hid (by have:=HL.out;rw[HT.out] at this;exact this);clear hn hnd hw hl ih ic iw;unfold qyK;go_wp2_with (first
   | (at_builtin;refine qbF rfl (.tmp 30) (.tmp 32) rfl W0.heap.size v T.length (u8s T) rfl HO2.out x rfl (by have:=HTL.out;omega) HB2.out.size ?_;intro v3 w3 ho3 hf3;have HO3:=hid (qhW ho3);have HF3:=hid hf3;clear ho3 hf3))
  go_ret;refine⟨v3,rfl,?_,HF0.out.trans HF3.out⟩;rw[HT.out];exact HO3.out
 by_cases h1:∃ l,t=.lf l
 ·obtain⟨l,rfl⟩:=h1;have hnv:∀ x,l≠.var x:=fun x e=>h2 ⟨x,by rw[e]⟩;have hk:K=1:=by rw[← HK.out];cases l <;> first|rfl|exact absurd rfl (hnv _)
  have hnd:nd=qaG l:=by have:=HND.out;rw[qi2] at this;exact(Option.some.inj this).symm
  subst hk;obtain⟨p1,p2⟩:=q4T (l:=l) hl hnv;rw[← hnd] at p1 p2;have hG:qk3 W0:=hE.glob;have HP:=hid (fun W hW=>q0K nd.vk nd.vi nd.rl nd.re nd.im nd.tx W (hG.below (B:=W0.heap.size) hW (Nat.le_refl _)) p2);unfold qgK at HP;rw[p1] at HP;have HT:Hid (txX (.lf l)=(itL [] l).pc):=hid (qz1 _);have HTL:Hid (T.length+(itL [] l).pc.length≤1000000):=hid (by have:=HL.out;rw[HT.out] at this;exact this);have hz:(⟨(itL [] l).pc.toArray⟩:ByteArray).size=(itL [] l).pc.length:=rfl;have he:(⟨(itL [] l).pc.toArray⟩:ByteArray).data.toList=(itL [] l).pc:=by simp
  generalize (itL [] l).pc=y at *
  generalize (⟨y.toArray⟩:ByteArray)=z at *
  have HZ:=hid hz;have HE:=hid he;clear p1 p2 hz he hnd hw hl ih ic iw h2 hnv hG;unfold qyK;go_wp2_with (first
   | (at_builtin;refine qbF rfl (.tmp 21) (.tmp 24) rfl W0.heap.size v T.length (u8s T) rfl HO3.out z rfl (by have:=HTL.out;have:=HZ.out;omega) HB3.out.size ?_;intro v4 w4 ho4 hf4;have HO4:=hid (qhW ho4);have HF4:=hid (HF3.out.trans hf4);clear ho4 hf4)
   | (go_at_call 160;refine(HP.out W2 HB2.out).mono ?_;rintro e w3 ⟨rfl,hb3⟩;have HB3:=hid (HB2.out.trans (hb3.mono HB2.out.size));have HO3:=hid (qdB HO2.out hb3 (Nat.le_refl _));have HF3:Hid (Fr [] v W2 w3 v):=hid (Fr.of_below hb3);clear hb3))
  go_ret;refine⟨v4,rfl,?_,HF0.out.trans HF4.out⟩;rw[HT.out,← HE.out];exact HO4.out
 have hnl:∀ l,t≠.lf l:=fun l e=>h1 ⟨l,e⟩;have hk3:3≤K:=by
  rw[← HK.out];cases t with
  | lf l=>exact absurd rfl (hnl l)
  | un m a =>
   show 3≤m;have h1:=hw.2.1;rcases qgB m hw.1 h1 with ⟨h,_⟩|⟨_,_⟩
   ·omega
   ·rcases Nat.lt_or_ge m 3 with h|h
    ·have:∀ m:Fin 3,qeJ m.val≠1:=by decide
     exact absurd h1 (this ⟨m,h⟩)
    ·exact h
  | bi m a b =>
   show 3≤m;have h1:=hw.2.1;rcases Nat.lt_or_ge m 3 with h|h
   ·have:∀ m:Fin 3,qeJ m.val≠2:=by decide
    exact absurd h1 (this ⟨m,h⟩)
   ·exact h
 have d1:((K:Int)==1)=false:=beq_eq_false_iff_ne.2 (by omega);have d2:((K:Int)==2)=false:=beq_eq_false_iff_ne.2 (by omega);by_cases h7:qb3 K=7
 ·have d7:(((qb3 K:Nat):Int)==7)=true:=by rw[h7];rfl
  have hC:=ic (by rw[← HLV.out];exact h7) hnl W0 W2 g cap k N v T hE HS.out HB2.out HO2.out HL.out;rw[HLN.out,HI.out] at hC;have HC:=hid hC;clear hC ic iw ih hw hl h1 h2 hnl h7 hk3;unfold qyK;go_wp2_with (first
   | (go_at_call 161;refine HC.out.mono ?_;rintro e w3 ⟨v3,rfl,ho3,hf3⟩;have HO3:=hid ho3;have HF3:=hid hf3;clear ho3 hf3))
  go_ret;exact⟨v3,rfl,HO3.out,HF0.out.trans HF3.out⟩
 have d7:(((qb3 K:Nat):Int)==7)=false:=beq_eq_false_iff_ne.2 (by omega);clear ic;cases t with
 | lf l=>exact absurd rfl (hnl l)
 | un m a =>
  have hm:m=K:=HK.out;have h6:qb3 K=6:=by
   rw[← hm] at h7 ⊢;rcases qgB m hw.1 hw.2.1 with ⟨_,h⟩|⟨h,_⟩
   ·exact h
   ·exact absurd h h7
  have hnd:nd=qdU m (k+cnt a-1:Nat) 0:=by have:=HND.out;rw[qi1] at this;exact(Option.some.inj this).symm
  have hT:txX (.un m a)=qcF m++brB (qeN (qb3 K) false) a:=by rw[hm];exact qu4 h7
  have hlv:qeN (qb3 K) false≤8:=by rw[h6];decide
  have hC:=fun w v T hb ho hl=>iw a (.inl ⟨m,rfl⟩) W0 w g cap k (qeN (qb3 K) false) N v T hE HS.out.one hb ho hlv hl;rw[HLN.out] at hC;have hA':nd.a=((k+cnt a-1:Nat):Int):=by rw[hnd];rfl
  generalize nd.a=A at *
  generalize k+cnt a-1=J at *
  subst hA';rw[h6] at d7 t1 HX2 hC hT HLV;have HC:=hid hC;have hbl:=HL.out;rw[hT,hm] at hbl;simp only[List.length_append] at hbl;have HTL:=hid hbl;have HT:=hid hT;have HM:=hid hm;have HLW:Hid (∀ W,Calls Tryz.prog 156 #[.int .i64 ((6:Nat):Int),.bool false] W fun e w'=>e=.returned (.int .i64 (qeN 6 false:Nat))∧w'=W):=hid (fun W=>(qg1 6 (by decide) false W).mono fun e w' h=>⟨h.1,h.2.symm⟩);clear hC hT hm hbl hnd hlv hw hl ih iw h1 h2 hnl h7 hk3 h6;unfold qyK;go_wp2_with (first
   | (at_builtin;refine qbF rfl (.tmp 46) (.tmp 48) rfl W0.heap.size v T.length (u8s T) rfl HO2.out ⟨(qcF K).toArray⟩ rfl (by have:=HTL.out;have:=HSZ.out;omega) HB2.out.size ?_;intro v3 w3 ho3 hf3;have HB3:=hid (hf3.bel HB2.out HO2.out);have HO3:=hid (qhW ho3);have HF3:=hid hf3;have hk:=qfK HF3.out HX1.out HX2.out HV1.out HV2.out;have k1:=hk.1.1.c 1 rfl;have t1:=hk.1.2.c 1 rfl;clear ho3 hf3 hk))
  refine wp_region_still_tail 7 (by kernel_rfl) (by kernel_rfl) ?_;simp only[List.take_succ_cons,List.take_zero,List.drop_succ_cons,List.drop_zero]
  repeat still_step
  still_call (HLW.out _)
  repeat still_step
  refine wpStill_nil ?_;change wpList _ _ _ _ _ w3.drew;have hbd:=HB3.out.drew;have hod:=qdB HO3.out (qa0 w3) (Nat.le_refl _);have hfd:=HF3.out.drew;generalize w3.drew=wd at hbd hod hfd ⊢;have HBD:=hid hbd;have HOD:=hid hod;have HFD:=hid hfd;clear hbd hod hfd;go_wp2_with (first
   | (go_at_call 162;refine(HC.out wd v3 _ HBD.out HOD.out (by have:=HTL.out;simp;omega)).mono ?_;rintro e w4 ⟨v4,rfl,ho4,hf4⟩;have HO4:=hid ho4;have HF4:=hid (HFD.out.trans hf4);clear ho4 hf4))
  go_ret;refine⟨v4,rfl,?_,HF0.out.trans HF4.out⟩;have e:T++txX (.un m a)=T++qcF K++brB (qeN 6 false) a:=by rw[HT.out,HM.out];simp
  rw[e];exact HO4.out
 | bi m a b =>
  have hm:m=K:=HK.out;have h5:qb3 K≤5:=by
   rw[← hm] at h7 ⊢;rcases qpY m hw.1 hw.2.1 with ⟨h,_⟩|⟨_,h,_⟩
   ·exact absurd h h7
   ·exact h
  have hnd:nd=qdU m (k+cnt a-1:Nat) (k+cnt a+cnt b-1:Nat):=by have:=HND.out;rw[qi3] at this;exact(Option.some.inj this).symm
  have hT:txX (.bi m a b)=brB (qeN (qb3 K) false) a++32 :: (qcF m++32 :: brB (qeN (qb3 K) true) b):=by rw[hm];exact q6A h7
  have hlv:∀ c,qeN (qb3 K) c≤8:=by
   intro c;unfold qeN;split <;> omega
  have hC:=fun w v T hb ho hl=>iw a (.inr (.inl ⟨m,b,rfl⟩)) W0 w g cap k (qeN (qb3 K) false) N v T hE HS.out.left hb ho (hlv _) hl;have hD:=fun w v T hb ho hl=>iw b (.inr (.inr ⟨m,a,rfl⟩)) W0 w g cap (k+cnt a) (qeN (qb3 K) true) N v T hE HS.out.right hb ho (hlv _) hl;rw[HLN.out] at hC hD;have hA':nd.a=((k+cnt a-1:Nat):Int):=by rw[hnd];rfl
  have hB':nd.b=((k+cnt a+cnt b-1:Nat):Int):=by rw[hnd];rfl
  generalize nd.a=A at *
  generalize nd.b=B at *
  generalize k+cnt a+cnt b-1=J2 at *
  generalize k+cnt a-1=J at *
  subst hA' hB';have d6:(((qb3 K:Nat):Int)==6)=false:=beq_eq_false_iff_ne.2 (by omega);have HLW:Hid (∀ W,Calls Tryz.prog 156 #[.int .i64 (qb3 K:Nat),.bool false] W fun e w'=>e=.returned (.int .i64 (qeN (qb3 K) false:Nat))∧w'=W):=hid (fun W=>(qg1 (qb3 K) (by omega) false W).mono fun e w' h=>⟨h.1,h.2.symm⟩);have HLT:Hid (∀ W,Calls Tryz.prog 156 #[.int .i64 (qb3 K:Nat),.bool true] W fun e w'=>e=.returned (.int .i64 (qeN (qb3 K) true:Nat))∧w'=W):=hid (fun W=>(qg1 (qb3 K) (by omega) true W).mono fun e w' h=>⟨h.1,h.2.symm⟩);generalize qeN (qb3 K) false=l1 at *
  generalize qeN (qb3 K) true=l2 at *
  generalize qb3 K=lv at *
  have HC:=hid hC;have HD:=hid hD;have hbl:=HL.out;rw[hT,hm] at hbl;simp only[List.length_append,List.length_cons] at hbl;have HTL:=hid hbl;have HT:=hid hT;have HM:=hid hm;clear hC hD hT hm hbl hnd hlv hw hl ih iw h1 h2 hnl h7 hk3 h5;unfold qyK;have HFI:Hid (Fr [] v W2 W2 v):=hid (Fr.refl _ _ _);go_wp2_with fail;refine wp_region_still_tail 7 (by kernel_rfl) (by kernel_rfl) ?_;simp only[List.take_succ_cons,List.take_zero,List.drop_succ_cons,List.drop_zero]
  repeat still_step
  still_call (HLW.out _)
  repeat still_step
  refine wpStill_nil ?_;change wpList _ _ _ _ _ W2.drew;have hbd:=HB2.out.drew;have hod:=qdB HO2.out (qa0 W2) (Nat.le_refl _);have hfd:=HFI.out.drew;generalize W2.drew=wd at hbd hod hfd ⊢;have HBD:=hid hbd;have HOD:=hid hod;have HFD:=hid hfd;clear hbd hod hfd;go_wp2_with (first
   | (at_builtin;refine qaS rfl (.tmp 73) (.tmp 74) rfl W0.heap.size v6 _ _ rfl HO6.out [32] 1 rfl rfl (by decide) (by have:=HTL.out;have:=HSZ.out;simp;omega) HB6.out.size ?_;intro v7 w7 ho7 hf7;have HB7:=hid (hf7.bel HB6.out HO6.out);have HO7:=hid (qfM ho7);have HF7:=hid (HF6.out.trans hf7);have hk7:=qfK HF7.out HX1.out HX2.out HV1.out HV2.out;have k2:=hk7.1.1.c 2 rfl;have t1:=hk7.1.2.c 1 rfl;clear ho7 hf7 hk7)
   | (at_builtin;refine qbF rfl (.tmp 69) (.tmp 71) rfl W0.heap.size v5 _ _ rfl HO5.out ⟨(qcF K).toArray⟩ rfl (by have:=HTL.out;have:=HSZ.out;simp;omega) HB5.out.size ?_;intro v6 w6 ho6 hf6;have HB6:=hid (hf6.bel HB5.out HO5.out);have HO6:=hid (qhW ho6);have HF6:=hid (HF5.out.trans hf6);clear ho6 hf6)
   | (at_builtin;refine qaS rfl (.tmp 66) (.tmp 67) rfl W0.heap.size v4 _ _ rfl HO4.out [32] 1 rfl rfl (by decide) (by have:=HTL.out;simp;omega) HB4.out.size ?_;intro v5 w5 ho5 hf5;have HB5:=hid (hf5.bel HB4.out HO4.out);have HO5:=hid (qfM ho5);have HF5:=hid (HF4.out.trans hf5);have hk5:=qfK HF5.out HX1.out HX2.out HV1.out HV2.out;have t0:=hk5.1.2.c 0 rfl;clear ho5 hf5 hk5)
   | (go_at_call 162;refine(HC.out wd v T HBD.out HOD.out (by have:=HTL.out;omega)).mono ?_;rintro e w4 ⟨v4,rfl,ho4,hf4⟩;have HB4:=hid (hf4.bel HBD.out HOD.out);have HO4:=hid ho4;have HF4:=hid (HFD.out.trans hf4);clear ho4 hf4))
  clear HBD HOD HFD;refine wp_region_still_tail 7 (by kernel_rfl) (by kernel_rfl) ?_;simp only[List.take_succ_cons,List.take_zero,List.drop_succ_cons,List.drop_zero]
  repeat still_step
  still_call (HLT.out _)
  repeat still_step
  refine wpStill_nil ?_;change wpList _ _ _ _ _ w7.drew;have hbd:=HB7.out.drew;have hod:=qdB HO7.out (qa0 w7) (Nat.le_refl _);have hfd:=HF7.out.drew;generalize w7.drew=wd at hbd hod hfd ⊢;have HBD:=hid hbd;have HOD:=hid hod;have HFD:=hid hfd;clear hbd hod hfd;go_wp2_with (first
   | (go_at_call 162;refine(HD.out wd v7 _ HBD.out HOD.out (by have:=HTL.out;simp;omega)).mono ?_;rintro e w8 ⟨v8,rfl,ho8,hf8⟩;have HO8:=hid ho8;have HF8:=hid (HFD.out.trans hf8);clear ho8 hf8))
  go_ret;refine⟨v8,rfl,?_,HF0.out.trans HF8.out⟩;have e:T++txX (.bi m a b)=T++brB l1 a++[32]++qcF K++[32]++brB l2 b:=by rw[HT.out,HM.out];simp
  rw[e];exact HO8.out
end Go.Proofs.YtenlhcgpajphhaaGreatDoor
