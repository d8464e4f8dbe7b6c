import Derived.Test.YtenlhcgpajphhaaGreatDoorMEbLeaf
import Derived.Test.YtenlhcgpajphhaaGreatDoorMEbPair
namespace Go.Proofs.YtenlhcgpajphhaaGreatDoor
open Go.RowKit Go.Shelf
open Lib(hid)
set_option maxRecDepth 100000
set_option linter.all false
set_option maxHeartbeats 4000000
theorem own_any (K:Nat) (n:Nd) (hK:K<27) (hP:PlainN K n) (hs:n.nm.size≤256) (w:World) (hT:Tab w) (hg:0<w.heap.size) :
  Calls Tryz.prog 254 #[ndV n,.int .i64 0] w fun e w'=>e=.returned (ndV n)∧Below w.heap.size w w':=by
 have sf:=store_float;have sc:=store_cplx;obtain⟨W0,hW0,ha,hb,hB,hsz⟩:=new2 w 109 (ndCells n) (ndCells zNd);have HW0:Hid (W0=(w.alloc (.cells #[.int .i64 n.k,.int .i64 n.a,.int .i64 n.b,.string n.nm,.int .i64 n.vk,.int .i64 n.vi,.float .f64 n.rl,.complex .f64 n.re n.im,.string n.tx] 109)).alloc (.cells #[.int .i64 0,.int .i64 0,.int .i64 0,.string ⟨#[]⟩,.int .i64 0,.int .i64 0,.float .f64 0,.complex .f64 0 0,.string ⟨#[]⟩] 109)):=hid hW0;have HP:=hid (plain_any K n hK hP W0 (hT.of_block (hB.block _ hg)) (by omega));unfold ndV at HP;have HA0:=hid ha;have HB0:=hid hb;have HBW0:=hid hB;have HSZ:=hid hsz;have HS:=hid hs;have k0:=ha.c 0 rfl;have k1:=ha.c 1 rfl;have k2:=ha.c 2 rfl;have k3:=ha.c 3 rfl;have k4:=ha.c 4 rfl;have k5:=ha.c 5 rfl;have k6:=ha.c 6 rfl;have k7:=ha.c 7 rfl;have k8:=ha.c 8 rfl;clear ha hb hB hsz hs hW0 hT hP;unfold ndV;go_enter Tryz.func254,Tryz.ntmps254;go_upto_region 1 with (fail);rw[← HW0.out];go_upto_region 2 with (go_at_call 184;refine HP.out.mono ?_;rintro e w1 ⟨rfl,hb1⟩;have HA1:=hid (HA0.out.keep hb1 HA0.out.lt);have HB1:=hid (HB0.out.keep hb1 HB0.out.lt);have HBW1:=hid (HBW0.out.trans (hb1.mono HBW0.out.size));clear hb1);have hb2:Below w1.heap.size w1 (w1.alloc (.cells (ndCells n).toArray 109)):=(Below.refl _ _).alloc (Nat.le_refl _) _;have HC2:=hid (Bx.new w1 109 (ndCells n));have HB2:=hid (HB1.out.keep hb2 HB1.out.lt);have HBW2:=hid (HBW1.out.trans (hb2.mono HBW1.out.size));have hlt1:w.heap.size+1<w1.heap.size:=HB1.out.lt;clear hb2 k0 k1 k2 k3 k4 k5 k6 k7 k8;have hW2:∃ W2,W2=w1.alloc (.cells #[.int .i64 n.k,.int .i64 n.a,.int .i64 n.b,.string n.nm,.int .i64 n.vk,.int .i64 n.vi,.float .f64 n.rl,.complex .f64 n.re n.im,.string n.tx] 109):=⟨_,rfl⟩
 obtain⟨W2,hW2⟩:=hW2;have hW2':W2=w1.alloc (.cells (ndCells n).toArray 109):=hW2;rw[← hW2'] at HC2 HB2 HBW2;rw[← hW2];clear hW2 hW2';have k3:=HC2.out.c 3 rfl;have HCL:=hid (clone_any n.nm W2 HS.out);obtain⟨P,hP⟩:∃ P,P=w1.heap.size:=⟨_,rfl⟩
 rw[← hP] at HC2 k3 hlt1 ⊢;clear hP;go_upto_region 3 with (go_at_call 236;refine HCL.out.mono ?_;rintro e w3 ⟨rfl,hb3⟩;have HB3:=hid (HB2.out.keep hb3 HB2.out.lt);have HC3:=hid (HC2.out.keep hb3 HC2.out.lt);have HBW3:=hid (HBW2.out.trans (hb3.mono HBW2.out.size));have hP4:P<w3.heap.size:=HC3.out.lt;clear hb3;have n3:=HC3.out.c 3 rfl;have f3:=HC3.out.fz 3);have HC4:Hid (Bx (w3.setCell ⟨P,3,none⟩ (.string n.nm)) P 109 (ndCells n)):=hid (HC3.out.set 3 _);have HB4:Hid (Bx (w3.setCell ⟨P,3,none⟩ (.string n.nm)) (w.heap.size+1) 109 (ndCells zNd)):=hid (HB3.out.other (by omega) _ _);have HBW4:Hid (Below w.heap.size w (w3.setCell ⟨P,3,none⟩ (.string n.nm))):=hid (HBW3.out.setCell (by show _≤P;omega) _);generalize w3.setCell ⟨P,3,none⟩ (.string n.nm)=W4 at HC4 HB4 HBW4 ⊢;clear n3 f3 k3;have v0:=HC4.out.c 0 rfl;have v1:=HC4.out.c 1 rfl;have v2:=HC4.out.c 2 rfl;have v3:=HC4.out.c 3 rfl;have v4:=HC4.out.c 4 rfl;have v5:=HC4.out.c 5 rfl;have v6:=HC4.out.c 6 rfl;have v7:=HC4.out.c 7 rfl;have v8:=HC4.out.c 8 rfl;have n0:=HB4.out.c 0 rfl;have n1:=HB4.out.c 1 rfl;have n2:=HB4.out.c 2 rfl;have n3:=HB4.out.c 3 rfl;have n4:=HB4.out.c 4 rfl;have n5:=HB4.out.c 5 rfl;have n6:=HB4.out.c 6 rfl;have n7:=HB4.out.c 7 rfl;have n8:=HB4.out.c 8 rfl;have f0:=HB4.out.fz 0;have f1:=HB4.out.fz 1;have f2:=HB4.out.fz 2;have f3:=HB4.out.fz 3;have f4:=HB4.out.fz 4;have f5:=HB4.out.fz 5;have f6:=HB4.out.fz 6;have f7:=HB4.out.fz 7;have f8:=HB4.out.fz 8;go_wp2;exact bodyPost_ret (nres rfl rfl (nput ⟨_,rfl,HB4.out⟩ n)) rfl ⟨rfl,below_nput HBW4.out (by omega) _ _ _ _ _ _ _ _ _⟩
theorem plain_leaf {l:Lf} (h:okL l=true):∃ K,K<27∧PlainN K (leafN l)∧(leafN l).nm.size≤256:=by
 by_cases hv:∃ t,l=.var t
 ·obtain⟨t,rfl⟩:=hv;refine⟨2,by decide,.var t rfl rfl,?_⟩;show t.size≤256;unfold okL nameB at h;simp only[Bool.and_eq_true,decide_eq_true_eq] at h;have:=h.1.1.1.1.1.2;simp at this;omega
 ·refine⟨1,by decide,.val l (fun t h=>hv ⟨t,h⟩) h rfl rfl,?_⟩;cases l with
  | var t=>exact absurd ⟨t,rfl⟩ hv
  | int v=>exact Nat.zero_le _
  | real v=>exact Nat.zero_le _
  | text v=>exact Nat.zero_le _
  | bool v=>exact Nat.zero_le _
def LeafD (L:List TokE) (l:Lf) (k p cap:Nat) (a:Option Addr) (ns:List Nd) (w:World) (e:Ending) (w':World):Prop :=
 ((okL l=false∧e=gaveUp k 50)∨(okL l=true∧e=.returned (.int .i64 ns.length)∧∃ nv',St w' p cap a L (k+1) nv' (ns++[leafN l])))∧Below p w w'
theorem leaf_any (p cap k:Nat) (a:Option Addr) (L:List TokE) (nv:Value) (ns:List Nd) (l:Lf) (w:World) (h:St w p cap a L k nv ns) (hk:k<L.length) (hcap:L.length≤1000000000000) (hlen:ns.length≤1000000000000) (hr:∀ b,l=.real b→b<18446744073709551616) :
  Calls Tryz.prog 232 #[.pointer (some ⟨p,0,none⟩),ndV (leafN l)] w (LeafD L l k p cap a ns w):=by
 have hlt:=h.rdr.lt;have hgp:=h.gp;obtain⟨W0,hW0,ha,hB⟩:∃ W0,W0=w.alloc (.cells (ndCells (leafN l)).toArray 109)∧Bx W0 w.heap.size 109 (ndCells (leafN l))∧Below w.heap.size w W0:=⟨_,rfl,Bx.new w _ _,(Below.refl _ w).alloc (Nat.le_refl _) _⟩
 have hst0:=h.below hB;have HL:=hid (isLeaf_any l hr W0 hst0.tab (Nat.lt_trans hgp hst0.rdr.lt));obtain⟨n,hn⟩:∃ n,n=leafN l:=⟨_,rfl⟩
 rw[← hn] at HL ha hW0 ⊢;have HW0:Hid (W0=w.alloc (.cells #[.int .i64 n.k,.int .i64 n.a,.int .i64 n.b,.string n.nm,.int .i64 n.vk,.int .i64 n.vi,.float .f64 n.rl,.complex .f64 n.re n.im,.string n.tx] 109)):=hid hW0;have HST0:=hid hst0;have HA0:=hid ha;have HBW0:=hid hB;have HN:=hid hn;have k0:=ha.c 0 rfl;have k1:=ha.c 1 rfl;have k2:=ha.c 2 rfl;have k3:=ha.c 3 rfl;have k4:=ha.c 4 rfl;have k5:=ha.c 5 rfl;have k6:=ha.c 6 rfl;have k7:=ha.c 7 rfl;have k8:=ha.c 8 rfl;unfold ndV at HL ⊢;unfold LeafD;cases hok:okL l with
 | false =>
  rw[hok] at HL;clear ha hB hst0 hW0 h hr hn hok;go_enter Tryz.func232,Tryz.ntmps232;go_upto_region 1 with (fail);rw[← HW0.out];go_wp2_with (first|(go_at_call 208;refine HL.out.mono ?_;rintro e w1 ⟨rfl,hb1⟩;have HS:=hid (HST0.out.below hb1);have HB:=hid (HBW0.out.trans (hb1.mono HBW0.out.size));clear hb1)|(go_at_call 202;refine(give_any p k _ nv _ HS.out.rdr).mono ?_;rintro e w' ⟨rfl,rfl⟩;unfold gaveUp));exact⟨rfl,.inl ⟨by first|rfl|trivial,rfl⟩,HB.out.mono (Nat.le_of_lt hlt)⟩
 | true =>
  rw[hok] at HL;obtain⟨K,hK,hP,hs⟩:=plain_leaf hok;rw[← hn] at hP hs;have HP:=hid hP;have HS0:=hid hs;clear ha hB hst0 hW0 h hr hn hok hP hs;go_enter Tryz.func232,Tryz.ntmps232;go_upto_region 1 with (fail);rw[← HW0.out];go_upto_region 3 with (go_at_call 208;refine HL.out.mono ?_;rintro e w1 ⟨rfl,hb1⟩;have HS:=hid (HST0.out.below hb1);have HA1:=hid (HA0.out.keep hb1 HA0.out.lt);have HB:=hid (HBW0.out.trans (hb1.mono HBW0.out.size));clear hb1);have c1:=HS.out.rdr.c1;have fz:w1.frozen? ⟨p,1,none⟩=false:=HS.out.rdr.fz;go_upto_region 4 with (fail);rw[show (k:Int)+1=((k+1:Nat):Int) from rfl];have HMV:=hid (HS.out.move (k+1) (by omega));have HBM:Hid (Below p w (w1.setCell ⟨p,1,none⟩ (.int .i64 ((k+1:Nat):Int)))):=hid ((HB.out.mono (Nat.le_of_lt hlt)).setCell (Nat.le_refl p) _);have HAM:Hid (Bx (w1.setCell ⟨p,1,none⟩ (.int .i64 ((k+1:Nat):Int))) w.heap.size 109 (ndCells n)):=hid (HA1.out.other (by omega) _ _);generalize w1.setCell ⟨p,1,none⟩ (.int .i64 ((k+1:Nat):Int))=WM at HMV HBM HAM ⊢;clear k0 k1 k2 k3 k4 k5 k6 k7 k8 c1 fz;have k0:=HAM.out.c 0 rfl;have k1:=HAM.out.c 1 rfl;have k2:=HAM.out.c 2 rfl;have k3:=HAM.out.c 3 rfl;have k4:=HAM.out.c 4 rfl;have k5:=HAM.out.c 5 rfl;have k6:=HAM.out.c 6 rfl;have k7:=HAM.out.c 7 rfl;have k8:=HAM.out.c 8 rfl;have HO:=hid (own_any K n hK HP.out HS0.out WM HMV.out.tab (Nat.lt_trans hgp HMV.out.rdr.lt));unfold ndV at HO;go_wp2_with (first
   | (go_at_call 254;refine HO.out.mono ?_;rintro e w2 ⟨rfl,hb2⟩;have HS2:=hid (HMV.out.below hb2);have HB2:=hid (HBM.out.trans (hb2.mono (Nat.le_of_lt HMV.out.rdr.lt)));clear hb2;have HADD:=hid (add_any p cap (k+1) a L nv ns n w2 HS2.out hlen);unfold ndV at HADD)
   | (go_at_call 183;refine HADD.out.mono ?_;rintro e w3 ⟨⟨rfl,nv',hs3⟩,hb3⟩;have HS3:=hid hs3;have HB3:=hid (HB2.out.trans hb3);clear hs3 hb3))
  go_ret;refine⟨.inr ⟨by first|rfl|trivial,rfl,nv',?_⟩,HB3.out⟩;rw[← HN.out];exact HS3.out
theorem LeafD.below {L:List TokE} {l:Lf} {k p cap:Nat} {a:Option Addr} {ns:List Nd} {w w1:World} {e:Ending} {w':World} (h:LeafD L l k p cap a ns w1 e w') (hb:Below p w w1):LeafD L l k p cap a ns w e w':=⟨h.1,hb.trans h.2⟩
theorem LeafD.rdd {L:List TokE} {l:Lf} {k p cap:Nat} {a:Option Addr} {ns:List Nd} {w:World} {e:Ending} {w':World} (h:LeafD L l k p cap a ns w e w') (h1:okL l=true→gL L k=.leaf l) (h0:okL l=false→gL L k=.no) :
  Rdd L (.lvl 7) k p cap a ns w e w':=by
 obtain⟨h,hb⟩:=h;refine⟨?_,hb⟩;rcases h with ⟨hl,rfl⟩|⟨hl,rfl,nv',hs⟩
 ·exact .inl ⟨k,Rd.no (h0 hl),rfl⟩
 ·exact .inr ⟨.lf l,k+1,nv',Rd.leaf (h1 hl),by show 1+k≤k+1;omega,by show Ending.returned _=Ending.returned (.int .i64 (ns.length+1-1:Nat));rfl,hs⟩
theorem literal_any (p cap k:Nat) (a:Option Addr) (L:List TokE) (nv:Value) (ns:List Nd) (l:Lf) (hv:∀ t,l≠.var t) (w:World) (h:St w p cap a L k nv ns) (hk:k<L.length) (hcap:L.length≤1000000000000) (hlen:ns.length≤1000000000000) (hr:∀ b,l=.real b→b<18446744073709551616) :
  Calls Tryz.prog 203 #[.pointer (some ⟨p,0,none⟩),litV l] w (LeafD L l k p cap a ns w):=by
 have hlt:=h.rdr.lt;obtain⟨W0,hW0,ha,hB⟩:∃ W0,W0=w.alloc (.cells (vCells (leafN l).vk (leafN l).vi (leafN l).rl (leafN l).tx).toArray 107)∧Bx W0 w.heap.size 107 (vCells (leafN l).vk (leafN l).vi (leafN l).rl (leafN l).tx)∧Below w.heap.size w W0:=⟨_,rfl,Bx.new w _ _,(Below.refl _ w).alloc (Nat.le_refl _) _⟩
 have HL:=hid (leaf_any p cap k a L nv ns l W0 (h.below hB) hk hcap hlen hr);have hlf:(leafN l).k=1∧(leafN l).a=0∧(leafN l).b=0∧(leafN l).nm=⟨#[]⟩∧(leafN l).re=0∧(leafN l).im=0:=by
  cases l with
  | var t=>exact absurd rfl (hv t)
  | int v=>exact⟨rfl,rfl,rfl,rfl,rfl,rfl⟩
  | real v=>exact⟨rfl,rfl,rfl,rfl,rfl,rfl⟩
  | text v=>exact⟨rfl,rfl,rfl,rfl,rfl,rfl⟩
  | bool v=>exact⟨rfl,rfl,rfl,rfl,rfl,rfl⟩
 obtain⟨h1,h2,h3,h4,h5,h6⟩:=hlf;unfold ndV at HL;unfold litV valV;rw[h1,h2,h3,h4,h5,h6] at HL;generalize (leafN l).vk=vk at HL ha hW0 ⊢;generalize (leafN l).vi=vi at HL ha hW0 ⊢;generalize (leafN l).rl=rl at HL ha hW0 ⊢;generalize (leafN l).tx=tx at HL ha hW0 ⊢;have HW0:Hid (W0=w.alloc (.cells #[.int .i64 vk,.int .i64 vi,.float .f64 rl,.complex .f64 0 0,.string tx] 107)):=hid hW0;have HBW0:=hid (hB.mono (Nat.le_of_lt hlt));have k0:=ha.c 0 rfl;have k1:=ha.c 1 rfl;have k2:=ha.c 2 rfl;have k3:=ha.c 3 rfl;have k4:=ha.c 4 rfl;clear h h1 h2 h3 h4 h5 h6 hv hr hB hW0 ha;go_enter Tryz.func203,Tryz.ntmps203;go_upto_region 1 with (fail);rw[← HW0.out];go_wp2_with (go_at_call 232;refine HL.out.mono ?_;rintro e w1 hD;have HD:=hid (LeafD.below hD HBW0.out);clear hD;obtain⟨hD,hbD⟩:=HD.out;have HBD:=hid hbD;clear hbD;rcases hD with ⟨hok,rfl⟩|⟨hok,rfl,nv',hs⟩ <;> simp only[gaveUp])
 ·exact⟨rfl,.inl ⟨hok,rfl⟩,HBD.out⟩
 ·have HS:=hid hs;have HOK:=hid hok;clear hs hok;go_ret;exact⟨.inr ⟨HOK.out,rfl,_,HS.out⟩,HBD.out⟩
theorem gL_at {L:List TokE} {k:Nat} (hk:k<L.length):gL L k=clT (L.getD k default):=by unfold gL;rw[if_pos hk]
theorem named_in (p cap k:Nat) (a:Option Addr) (L:List TokE) (nv:Value) (ns:List Nd) (t:ByteArray) (w:World) (hcap:L.length≤1000000000000) (hns:ns.length≤k) (h:St w p cap a L k nv ns) (hk:k<L.length) (ht:(L.getD k default).kd=1∧(L.getD k default).tx=t)
  (hL:∀ (k' n':Nat) (nv':Value) (ns':List Nd) (W:World),k<k'→1≤n'→n'≤6→ns'.length≤k'→St W p cap a L k' nv' ns'→Calls Tryz.prog 134 #[.pointer (some ⟨p,0,none⟩),.int .i64 n'] W (Rdd L (.lvl n') k' p cap a ns' W)) :
  Calls Tryz.prog 204 #[.pointer (some ⟨p,0,none⟩),.string t] w (Rdd L (.lvl 7) k p cap a ns w):=by
 have hlt:=h.rdr.lt;have hgp:=h.gp;have hlen:ns.length≤1000000000000:=by omega
 have hcl:gL L k=(if nameB t.data.toList=true then
   (if t.data.toList=[116,114,117,101] then .leaf (.bool true) else if t.data.toList=[102,97,108,115,101] then .leaf (.bool false)
    else if wordK t.data.toList=0 then .leaf (.var t) else .word (wordK t.data.toList))
   else .no):=by
  rw[gL_at hk];unfold clT;rw[ht.1,ht.2,if_neg (by decide),if_neg (by decide),if_neg (by decide),if_neg (by decide),if_pos rfl]
 by_cases e1:t.data.toList=[116,114,117,101]
 ·have t1:(t.toList==[116,114,117,101])=true:=by rw[tl_dat,e1];rfl
  have hg:gL L k=.leaf (.bool true):=by rw[hcl,e1];rfl
  have HL:=hid (literal_any p cap k a L nv ns (.bool true) (fun t h=>by cases h) w h hk hcap hlen (fun b h=>by cases h));have HG:=hid hg;unfold litV valV leafN at HL;simp only[if_true] at HL;clear hcl ht h hL hg e1;go_enter Tryz.func204,Tryz.ntmps204;go_wp2_with (go_at_call 203;refine HL.out.mono ?_;rintro e w1 hD;have HD:=hid (hD.rdd (fun _=>HG.out) (fun h=>by cases h));clear hD;obtain⟨hD,hbD⟩:=HD.out;have HBD:=hid hbD;clear hbD;rcases hD with ⟨q,hq,rfl⟩|⟨x,q,nv',hq,hcq,rfl,hst⟩ <;> simp only[gaveUp])
  ·exact⟨rfl,.inl ⟨q,hq,rfl⟩,HBD.out⟩
  ·have HQ:=hid hq;have HST:=hid hst;clear hq hst;go_ret;exact⟨.inr ⟨x,q,nv',HQ.out,hcq,rfl,HST.out⟩,HBD.out⟩
 by_cases e2:t.data.toList=[102,97,108,115,101]
 ·have t1:(t.toList==[116,114,117,101])=false:=by rw[tl_dat];exact beq_eq_false_iff_ne.2 e1
  have t2:(t.toList==[102,97,108,115,101])=true:=by rw[tl_dat,e2];rfl
  have hg:gL L k=.leaf (.bool false):=by rw[hcl,e2];rfl
  have HL:=hid (literal_any p cap k a L nv ns (.bool false) (fun t h=>by cases h) w h hk hcap hlen (fun b h=>by cases h));have HG:=hid hg;unfold litV valV leafN at HL;simp only[Bool.false_eq_true,if_false] at HL;clear hcl ht h hL hg e1 e2;go_enter Tryz.func204,Tryz.ntmps204;go_wp2_with (go_at_call 203;refine HL.out.mono ?_;rintro e w1 hD;have HD:=hid (hD.rdd (fun _=>HG.out) (fun h=>by cases h));clear hD;obtain⟨hD,hbD⟩:=HD.out;have HBD:=hid hbD;clear hbD;rcases hD with ⟨q,hq,rfl⟩|⟨x,q,nv',hq,hcq,rfl,hst⟩ <;> simp only[gaveUp])
  ·exact⟨rfl,.inl ⟨q,hq,rfl⟩,HBD.out⟩
  ·have HQ:=hid hq;have HST:=hid hst;clear hq hst;go_ret;exact⟨.inr ⟨x,q,nv',HQ.out,hcq,rfl,HST.out⟩,HBD.out⟩
 have t1:(t.toList==[116,114,117,101])=false:=by rw[tl_dat];exact beq_eq_false_iff_ne.2 e1
 have t2:(t.toList==[102,97,108,115,101])=false:=by rw[tl_dat];exact beq_eq_false_iff_ne.2 e2
 have HW:=hid (word_any t w h.tab (Nat.lt_trans hgp hlt));have HH:=hid h;by_cases e3:wordK t.data.toList=0
 ·have hg1:okL (.var t)=true→gL L k=.leaf (.var t):=by
   intro hok;have:nameB t.data.toList=true:=by unfold okL at hok;simp only[Bool.and_eq_true] at hok;exact hok.1.1.1
   rw[hcl,if_pos this,if_neg e1,if_neg e2,if_pos e3]
  have hg0:okL (.var t)=false→gL L k=.no:=by
   intro hok;have:nameB t.data.toList≠true:=by
    intro hn;simp only[okL] at hok;rw[hn,beq_eq_false_iff_ne.2 e1,beq_eq_false_iff_ne.2 e2,decide_eq_true e3] at hok;cases hok
   rw[hcl,if_neg this]
  have HG1:=hid hg1;have HG0:=hid hg0;have HLF:=hid (fun W hW=>leaf_any p cap k a L nv ns (.var t) W hW hk hcap hlen (fun b h=>by cases h));unfold ndV leafN at HLF;rw[e3] at HW;clear hcl ht h hL hg1 hg0 e1 e2 e3;go_enter Tryz.func204,Tryz.ntmps204;go_wp2_with (first
   | (go_at_call 233;refine HW.out.mono ?_;rintro e w1 ⟨rfl,hb1⟩;have HS:=hid (HH.out.below hb1);have HB:=hid (hb1.mono (Nat.le_of_lt hlt));clear hb1)
   | (go_at_call 232;refine(HLF.out _ HS.out).mono ?_;rintro e w2 hD;have HD:=hid ((hD.below HB.out).rdd HG1.out HG0.out);clear hD;obtain⟨hD,hbD⟩:=HD.out;have HBD:=hid hbD;clear hbD;rcases hD with ⟨q,hq,rfl⟩|⟨x,q,nv',hq,hcq,rfl,hst⟩ <;> simp only[gaveUp]))
  ·exact⟨rfl,.inl ⟨q,hq,rfl⟩,HBD.out⟩
  ·have HQ:=hid hq;have HST:=hid hst;clear hq hst;go_ret;exact⟨.inr ⟨x,q,nv',HQ.out,hcq,rfl,HST.out⟩,HBD.out⟩
 ·have hnm:nameB t.data.toList=true:=by
   obtain⟨_,_,h3⟩:=wordK_inv e3;have:∀ k:Fin 27,shLv k.val=7→0<shCh k.val→nameB (shTx k.val)=true:=by decide
   obtain⟨h1,h2,_⟩:=wordK_inv e3;rw[← h3];exact this ⟨_,wordK_lt _⟩ h1 h2
  have hg:gL L k=.word (wordK t.data.toList):=by rw[hcl,if_pos hnm,if_neg e1,if_neg e2,if_neg e3]
  have hch:=wordK_ch _ e3;have hKlt:=wordK_lt t.data.toList;generalize wordK t.data.toList=K at HW e3 hg hch hKlt;have HG:=hid hg;have HCH:=hid hch;have HCA:=hid (fun W hW=>called_in p cap k K a L nv ns W hcap hns hKlt HCH.out HG.out hW hL);have d0:((K:Int) != 0)=true:=by rw[bne,beq_eq_false_iff_ne.2 (by omega:(K:Int)≠0)];rfl
  clear hcl ht h hL hg e1 e2 e3 hnm hch;go_enter Tryz.func204,Tryz.ntmps204;go_upto_region 8 with (go_at_call 233;refine HW.out.mono ?_;rintro e w1 ⟨rfl,hb1⟩;have HS:=hid (HH.out.below hb1);have HB:=hid (hb1.mono (Nat.le_of_lt hlt));clear hb1);have c1:=HS.out.rdr.c1;have fz:w1.frozen? ⟨p,1,none⟩=false:=HS.out.rdr.fz;go_upto_region 9 with (fail);rw[show (k:Int)+1=((k+1:Nat):Int) from rfl];have HMV:=hid (HS.out.move (k+1) (by omega));have HBM:Hid (Below p w (w1.setCell ⟨p,1,none⟩ (.int .i64 ((k+1:Nat):Int)))):=hid (HB.out.setCell (Nat.le_refl p) _);generalize w1.setCell ⟨p,1,none⟩ (.int .i64 ((k+1:Nat):Int))=WM at HMV HBM ⊢;clear c1 fz;go_wp2_with (go_at_call 234;refine(HCA.out _ HMV.out).mono ?_;rintro e w2 hD;have HD:=hid hD;clear hD;obtain⟨hD,hbD⟩:=HD.out;have HBD:=hid (HBM.out.trans hbD);clear hbD HD;rcases hD with ⟨q,hq,rfl⟩|⟨x,q,nv',hq,hcq,rfl,hst⟩ <;> simp only[gaveUp])
  ·exact⟨rfl,.inl ⟨q,hq,rfl⟩,HBD.out⟩
  ·have HQ:=hid hq;have HST:=hid hst;clear hq hst;go_ret;exact⟨.inr ⟨x,q,nv',HQ.out,hcq,rfl,HST.out⟩,HBD.out⟩
theorem operand_in (p cap k:Nat) (a:Option Addr) (L:List TokE) (nv:Value) (ns:List Nd) (w:World) (hcap:L.length≤1000000000000) (hns:ns.length≤k) (h:St w p cap a L k nv ns)
  (hR:∀ i,(L.getD i default).rl<18446744073709551616) (hm:isM (gL L k) [40]=false) (hsg:sgK (gL L k)=0)
  (hL:∀ (k' n':Nat) (nv':Value) (ns':List Nd) (W:World),k<k'→1≤n'→n'≤6→ns'.length≤k'→St W p cap a L k' nv' ns'→Calls Tryz.prog 134 #[.pointer (some ⟨p,0,none⟩),.int .i64 n'] W (Rdd L (.lvl n') k' p cap a ns' W)) :
  Calls Tryz.prog 182 #[.pointer (some ⟨p,0,none⟩)] w (Rdd L (.lvl 7) k p cap a ns w):=by
 have hlt:=h.rdr.lt;have hlen:ns.length≤1000000000000:=by have:=h.at_;omega
 have hlm:=h.len;have c0:=h.rdr.c0;have c1:=h.rdr.c1;have C0:w.drew.cell? ⟨p,0,none⟩=_:=c0;have C1:w.drew.cell? ⟨p,1,none⟩=_:=c1;have HH:=hid h;rcases Nat.lt_or_ge k L.length with hk|hk
 ·obtain⟨x,rfl,h0,h1,h2,h3,h4,h5⟩:=h.toks k hk;have H0:w.drew.drew.cell? (x.add (k * 6))=_:=h0;have hcl:=gL_at hk;have hrl:=hR k;have HT:=hid hL;obtain⟨t,hte⟩:∃ t,t=L.getD k default:=⟨_,rfl⟩
  rw[← hte] at h0 h1 h2 h3 h4 h5 H0 hcl hrl;have H1:w.drew.drew.cell? ⟨(x.add (k * 6)).block,(x.add (k * 6)).off+1,none⟩=_:=h1;have H2:w.drew.drew.cell? ⟨(x.add (k * 6)).block,(x.add (k * 6)).off+2,none⟩=_:=h2;have H3:w.drew.drew.cell? ⟨(x.add (k * 6)).block,(x.add (k * 6)).off+3,none⟩=_:=h3;have H4:w.drew.drew.cell? ⟨(x.add (k * 6)).block,(x.add (k * 6)).off+4,none⟩=_:=h4;have H5:w.drew.drew.cell? ⟨(x.add (k * 6)).block,(x.add (k * 6)).off+5,none⟩=_:=h5;have d0:((k:Int)==(L.length:Int))=false:=beq_eq_false_iff_ne.2 (by omega);have HK:=hid hk;have HM:=hid hm;have HSG:=hid hsg;have HCL:=hid hcl;have HTE:=hid hte;clear hL h hm hsg hcl hR hte;have hkn:=hk;have sf:=store_float;have hxl:(x.add (k * 6)).block<w.heap.size:=Nat.lt_trans (HH.out.low x rfl _) hlt;go_enter Tryz.func182,Tryz.ntmps182;go_upto_region 1 with (fail);go_region;go_upto_region 3 with (fail);go_region;go_upto_region 4 with (fail);have hb3:Below w.heap.size w (w.alloc (.cells #[.int .i64 t.kd,.string t.tx,.int .i64 t.iv,.float .f64 t.rl,.int .i64 t.pl,.int .i64 t.sz] 158)).drew.drew:=(((Below.refl _ w).alloc (Nat.le_refl _) _).drew).drew;have hx3:Bx (w.alloc (.cells #[.int .i64 t.kd,.string t.tx,.int .i64 t.iv,.float .f64 t.rl,.int .i64 t.pl,.int .i64 t.sz] 158)).drew.drew w.heap.size 158 [.int .i64 t.kd,.string t.tx,.int .i64 t.iv,.float .f64 t.rl,.int .i64 t.pl,.int .i64 t.sz]:=Bx.new w _ _;have HS3:=hid (HH.out.below hb3);have HX3:=hid hx3;have HB3:=hid (hb3.mono (Nat.le_of_lt hlt));clear hb3 hx3;generalize (w.alloc (.cells #[.int .i64 t.kd,.string t.tx,.int .i64 t.iv,.float .f64 t.rl,.int .i64 t.pl,.int .i64 t.sz] 158)).drew.drew=W3 at HS3 HX3 HB3 ⊢;clear H0 H1 H2 H3 H4 H5 h0 h1 h2 h3 h4 h5 C0 C1 c0 c1 sf d0 hkn;have k0:=HX3.out.c 0 rfl;have k1:=HX3.out.c 1 rfl;have k2:=HX3.out.c 2 rfl;have k3:=HX3.out.c 3 rfl;by_cases h2:t.kd=2
  ·have HL:=hid (literal_any p cap k (some x) L nv ns (.int t.iv) (fun t h=>by cases h) W3 HS3.out hk hcap hlen (fun b h=>by cases h));have hg:gL L k=if okL (.int t.iv)=true then .leaf (.int t.iv) else .no:=by
    rw[HCL.out];unfold clT;rw[h2];simp only[okL,decide_eq_true_eq]
    first|rfl|(repeat rw[if_neg (by decide)];rw[if_pos rfl])
   have HG:=hid hg;unfold litV valV leafN at HL;simp only at HL;rw[h2] at k0;clear hg HTE HM HSG HCL HT;go_wp2_with (go_at_call 203;refine HL.out.mono ?_;rintro e w1 hD;have HD:=hid ((hD.below HB3.out).rdd (fun ho=>by rw[HG.out,if_pos ho]) (fun ho=>by rw[HG.out,ho];rfl));clear hD;obtain⟨hD,hbD⟩:=HD.out;have HBD:=hid hbD;clear hbD;rcases hD with ⟨q,hq,rfl⟩|⟨y,q,nv',hq,hcq,rfl,hst⟩ <;> simp only[gaveUp])
   ·exact⟨rfl,.inl ⟨q,hq,rfl⟩,HBD.out⟩
   ·have HQ:=hid hq;have HST:=hid hst;clear hq hst;go_ret;exact⟨.inr ⟨y,q,nv',HQ.out,hcq,rfl,HST.out⟩,HBD.out⟩
  have d2:(t.kd==2)=false:=beq_eq_false_iff_ne.2 h2;by_cases h3:t.kd=3
  ·have HL:=hid (literal_any p cap k (some x) L nv ns (.real t.rl) (fun t h=>by cases h) W3 HS3.out hk hcap hlen (fun b h=>by cases h;exact hrl));have hg:gL L k=if okL (.real t.rl)=true then .leaf (.real t.rl) else .no:=by
    rw[HCL.out];unfold clT;rw[h3];simp only[okL,decide_eq_true_eq]
    first|rfl|(repeat rw[if_neg (by decide)];rw[if_pos rfl])
   have HG:=hid hg;unfold litV valV leafN at HL;simp only at HL;rw[h3] at k0;clear hg HTE HM HSG HCL HT;go_wp2_with (go_at_call 203;refine HL.out.mono ?_;rintro e w1 hD;have HD:=hid ((hD.below HB3.out).rdd (fun ho=>by rw[HG.out,if_pos ho]) (fun ho=>by rw[HG.out,ho];rfl));clear hD;obtain⟨hD,hbD⟩:=HD.out;have HBD:=hid hbD;clear hbD;rcases hD with ⟨q,hq,rfl⟩|⟨y,q,nv',hq,hcq,rfl,hst⟩ <;> simp only[gaveUp])
   ·exact⟨rfl,.inl ⟨q,hq,rfl⟩,HBD.out⟩
   ·have HQ:=hid hq;have HST:=hid hst;clear hq hst;go_ret;exact⟨.inr ⟨y,q,nv',HQ.out,hcq,rfl,HST.out⟩,HBD.out⟩
  have d3:(t.kd==3)=false:=beq_eq_false_iff_ne.2 h3;by_cases h4:t.kd=4
  ·have HL:=hid (literal_any p cap k (some x) L nv ns (.text t.tx) (fun t h=>by cases h) W3 HS3.out hk hcap hlen (fun b h=>by cases h));have hg:gL L k=if okL (.text t.tx)=true then .leaf (.text t.tx) else .no:=by
    rw[HCL.out];unfold clT;rw[h4];simp only[okL,decide_eq_true_eq]
    first|rfl|(repeat rw[if_neg (by decide)];rw[if_pos rfl])
   have HG:=hid hg;unfold litV valV leafN at HL;simp only at HL;rw[h4] at k0;clear hg HTE HM HSG HCL HT;go_wp2_with (go_at_call 203;refine HL.out.mono ?_;rintro e w1 hD;have HD:=hid ((hD.below HB3.out).rdd (fun ho=>by rw[HG.out,if_pos ho]) (fun ho=>by rw[HG.out,ho];rfl));clear hD;obtain⟨hD,hbD⟩:=HD.out;have HBD:=hid hbD;clear hbD;rcases hD with ⟨q,hq,rfl⟩|⟨y,q,nv',hq,hcq,rfl,hst⟩ <;> simp only[gaveUp])
   ·exact⟨rfl,.inl ⟨q,hq,rfl⟩,HBD.out⟩
   ·have HQ:=hid hq;have HST:=hid hst;clear hq hst;go_ret;exact⟨.inr ⟨y,q,nv',HQ.out,hcq,rfl,HST.out⟩,HBD.out⟩
  have d4:(t.kd==4)=false:=beq_eq_false_iff_ne.2 h4;by_cases h1:t.kd=1
  ·have HN:=hid (named_in p cap k (some x) L nv ns t.tx W3 hcap hns HS3.out hk (by rw[← HTE.out];exact⟨h1,rfl⟩) HT.out);rw[h1] at k0;clear HTE HM HSG HCL HT d2 d3 d4;go_wp2_with (go_at_call 204;refine HN.out.mono ?_;rintro e w1 hD;have HD:=hid hD;clear hD;obtain⟨hD,hbD⟩:=HD.out;have HBD:=hid (HB3.out.trans hbD);clear hbD HD;rcases hD with ⟨q,hq,rfl⟩|⟨y,q,nv',hq,hcq,rfl,hst⟩ <;> simp only[gaveUp])
   ·exact⟨rfl,.inl ⟨q,hq,rfl⟩,HBD.out⟩
   ·have HQ:=hid hq;have HST:=hid hst;clear hq hst;go_ret;exact⟨.inr ⟨y,q,nv',HQ.out,hcq,rfl,HST.out⟩,HBD.out⟩
  have d1:(t.kd==1)=false:=beq_eq_false_iff_ne.2 h1;have HRD:Hid (Rd (gL L) (.lvl 7) k (.bad k)):=hid (by
   have hg:=HCL.out;unfold clT at hg;by_cases h5:t.kd=5
   ·rw[if_pos h5] at hg;refine Rd.mark hg (fun e=>?_);have:=HM.out;rw[hg,e] at this;cases this
   ·rw[if_neg h5,if_neg h2,if_neg h3,if_neg h4,if_neg h1] at hg;exact Rd.no hg)
  clear HTE HM HSG HCL HT h1 h2 h3 h4;go_wp2_with (go_at_call 202;refine(give_any p k _ nv _ HS3.out.rdr).mono ?_;rintro e w' ⟨rfl,rfl⟩;unfold gaveUp);exact⟨rfl,.inl ⟨_,HRD.out,rfl⟩,HB3.out⟩
 ·obtain rfl:k=L.length:=by have:=h.at_;omega
  have hg:gL L L.length=.no:=by unfold gL;rw[if_neg (by omega)]
  have HG:=hid hg;clear hR hm hsg hL h hg;go_enter Tryz.func182,Tryz.ntmps182;go_upto_region 1 with (fail);go_region;have HS1:Hid (St w.drew p cap a L L.length nv ns):=hid (HH.out.below (drew_below w));go_wp2_with (go_at_call 202;refine(give_any p L.length _ nv _ HS1.out.rdr).mono ?_;rintro e w' ⟨rfl,rfl⟩;unfold gaveUp);exact⟨rfl,.inl ⟨_,Rd.no HG.out,rfl⟩,(drew_below w).mono (Nat.le_of_lt hlt)⟩
theorem reads_all (p cap:Nat) (a:Option Addr) (L:List TokE) (hcap:L.length≤1000000000000) (hR:∀ i,(L.getD i default).rl<18446744073709551616) :
  ∀ (m k:Nat),L.length<k+m→∀ (nv:Value) (ns:List Nd) (W:World),ns.length≤k→St W p cap a L k nv ns →
   Calls Tryz.prog 153 #[.pointer (some ⟨p,0,none⟩)] W (Rdd L (.lvl 6) k p cap a ns W) ∧
   ∀ n:Nat,1≤n→n≤6→Calls Tryz.prog 134 #[.pointer (some ⟨p,0,none⟩),.int .i64 n] W (Rdd L (.lvl n) k p cap a ns W):=by
 intro m
 induction m with
 | zero =>
  intro k hk nv ns W hns h;have:=h.at_;omega
 | succ m ih =>
  intro k hk nv ns W hns h;have hL:∀ (k' n':Nat) (nv':Value) (ns':List Nd) (W:World),k<k'→1≤n'→n'≤6→ns'.length≤k'→St W p cap a L k' nv' ns'→Calls Tryz.prog 134 #[.pointer (some ⟨p,0,none⟩),.int .i64 n'] W (Rdd L (.lvl n') k' p cap a ns' W) :=
   fun k' n' nv' ns' W hkk h1 h6 hns hst=>(ih k' (by omega) nv' ns' W hns hst).2 n' h1 h6
  have hSg:∀ (k':Nat) (nv':Value) (ns':List Nd) (W:World),k<k'→ns'.length≤k'→St W p cap a L k' nv' ns'→Calls Tryz.prog 153 #[.pointer (some ⟨p,0,none⟩)] W (Rdd L (.lvl 6) k' p cap a ns' W) :=
   fun k' nv' ns' W hkk hns hst=>(ih k' (by omega) nv' ns' W hns hst).1
  have hs:=signed_in p cap k a L nv ns W hcap hns h (fun hsg hm W' hst=>operand_in p cap k a L nv ns W' hcap hns hst hR hm hsg hL) hSg hL;exact⟨hs,fun n h1 h6=>level_in p cap k n a L nv ns W hcap h1 h6 hns h hs hL⟩
theorem level_any (p cap k n:Nat) (a:Option Addr) (L:List TokE) (hcap:L.length≤1000000000000) (hR:∀ i,(L.getD i default).rl<18446744073709551616) (nv:Value) (ns:List Nd) (W:World) (hns:ns.length≤k) (h:St W p cap a L k nv ns) (h1:1≤n) (h6:n≤6) :
  Calls Tryz.prog 134 #[.pointer (some ⟨p,0,none⟩),.int .i64 n] W (Rdd L (.lvl n) k p cap a ns W) :=
 (reads_all p cap a L hcap hR (L.length+1) k (by omega) nv ns W hns h).2 n h1 h6
end Go.Proofs.YtenlhcgpajphhaaGreatDoor
