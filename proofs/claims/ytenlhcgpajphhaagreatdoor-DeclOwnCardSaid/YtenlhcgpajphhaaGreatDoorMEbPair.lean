import Derived.Test.YtenlhcgpajphhaaGreatDoorMEbSmall
import Derived.Deep.LoopGhost
namespace Go.Proofs.YtenlhcgpajphhaaGreatDoor
open Go.RowKit
open Lib(hid)
set_option maxRecDepth 100000
set_option linter.all false
set_option maxHeartbeats 1000000
theorem pair_any (p cap k:Nat) (a:Option Addr) (L:List TokE) (nv:Value) (ns:List Nd) (kd x y:Int) (w:World) (h:St w p cap a L k nv ns) (hlen:ns.length≤1000000000000) :
  Calls Tryz.prog 157 #[.pointer (some ⟨p,0,none⟩),.int .i64 kd,.int .i64 x,.int .i64 y] w fun e w' =>
   (e=.returned (.int .i64 ns.length)∧∃ nv',St w' p cap a L k nv' (ns++[pairN kd x y]))∧Below p w w':=by
 have hA:=add_any p cap k a L nv ns (pairN kd x y) w h hlen;unfold ndV pairN at hA;have HA:=hid hA;clear hA h;go_enter Tryz.func157,Tryz.ntmps157;go_wp2_with (go_at_call 183;refine HA.out.mono ?_;rintro e w1 ⟨⟨rfl,nv',hs⟩,hb⟩;have HS:=hid hs;have HB:=hid hb;clear hs hb);go_ret;exact⟨⟨rfl,_,HS.out⟩,HB.out⟩
theorem single_any (p cap k:Nat) (a:Option Addr) (L:List TokE) (nv:Value) (ns:List Nd) (kd x:Int) (w:World) (h:St w p cap a L k nv ns) (hlen:ns.length≤1000000000000) :
  Calls Tryz.prog 180 #[.pointer (some ⟨p,0,none⟩),.int .i64 kd,.int .i64 x] w fun e w' =>
   (e=.returned (.int .i64 ns.length)∧∃ nv',St w' p cap a L k nv' (ns++[pairN kd x 0]))∧Below p w w':=by
 have hA:=add_any p cap k a L nv ns (pairN kd x 0) w h hlen;unfold ndV pairN at hA;have HA:=hid hA;clear hA h;go_enter Tryz.func180,Tryz.ntmps180;go_wp2_with (go_at_call 183;refine HA.out.mono ?_;rintro e w1 ⟨⟨rfl,nv',hs⟩,hb⟩;have HS:=hid hs;have HB:=hid hb;clear hs hb);go_ret;exact⟨⟨rfl,_,HS.out⟩,HB.out⟩
set_option maxHeartbeats 1500000
def Rdd (L:List TokE) (X:Nt) (k p cap:Nat) (a:Option Addr) (ns:List Nd) (w:World) (e:Ending) (w':World):Prop :=
 ((∃ q,Rd (gL L) X k (.bad q)∧e=gaveUp q 50)∨∃ t q nv',Rd (gL L) X k (.ok t q)∧cnt t+k≤q∧e=.returned (.int .i64 (ns.length+cnt t-1:Nat))∧St w' p cap a L q nv' (ns++lay ns.length t))∧Below p w w'
theorem level_in (p cap k n:Nat) (a:Option Addr) (L:List TokE) (nv:Value) (ns:List Nd) (w:World) (hcap:L.length≤1000000000000) (h1:1≤n) (h6:n≤6) (hns:ns.length≤k) (h:St w p cap a L k nv ns)
  (hS:Calls Tryz.prog 153 #[.pointer (some ⟨p,0,none⟩)] w (Rdd L (.lvl 6) k p cap a ns w))
  (hL:∀ (k' n':Nat) (nv':Value) (ns':List Nd) (W:World),k<k'→1≤n'→n'≤6→ns'.length≤k'→St W p cap a L k' nv' ns'→Calls Tryz.prog 134 #[.pointer (some ⟨p,0,none⟩),.int .i64 n'] W (Rdd L (.lvl n') k' p cap a ns' W)) :
  Calls Tryz.prog 134 #[.pointer (some ⟨p,0,none⟩),.int .i64 n] w (Rdd L (.lvl n) k p cap a ns w):=by
 have HS:=hid hS;have HL:=hid hL;clear hS hL;go_enter Tryz.func134,Tryz.ntmps134;go_wp2_with (go_at_call 153;refine HS.out.mono ?_;rintro e w1 ⟨he,hb⟩;have HB:=hid hb;clear hb;rcases he with ⟨q,hq,rfl⟩|⟨t,q,nv',hq,hcq,rfl,hst⟩ <;> simp only[gaveUp])
 ·exact⟨rfl,.inl ⟨q,chain_lvl (6-n) n k (.bad q) (by omega) h1 (.inl ⟨q,hq,rfl⟩),rfl⟩,HB.out⟩
 have HST:=hid hst;have HQ:=hid hq;clear hst hq h
 go_loopg [5,6] (L.length-q) (fun gk av on wr=>∃ (t:Ex) (q o:Nat) (nv:Value),gk=L.length-q∧av=.int .i64 (ns.length+cnt t-1:Nat)∧on=.int .i64 o∧Hid (1≤o∧o≤6∧cnt t+k≤q)∧Hid (St wr p cap a L q nv (ns++lay ns.length t))∧Hid (Below p w wr)∧Hid (∀ r,Chain (gL L) n (topL o) t q r→Rd (gL L) (.lvl n) k r))
 case atStart=>exact⟨t,q,6,nv',rfl,rfl,rfl,hid ⟨by omega,by omega,hcq⟩,HST,HB,hid fun r hr=>chain_lvl (6-n) n k r (by omega) h1 (.inr ⟨t,q,HQ.out,hr⟩)⟩
 case round =>
  obtain⟨t,q,o,nv,hgk,rfl,rfl,ho,hst,hbl,hch⟩:=hrel;have HM:=hid (mark_any p cap q a L nv wr hst.out.rdr hst.out.toks (by have:=hst.out.len;omega));have hk:=clK_mark L q;have hkl:=opK_lt (markT L q).data.toList;have hlv:=shLv_op (markT L q).data.toList;have hBt:=fun W=>between_any (markT L q) W;generalize markT L q=M at HM hk hkl hlv hBt;generalize opK M.data.toList=K at hk hkl hlv hBt;have HBt:=hid hBt;clear hBt;go_upto_region 3 with (first
   | (go_at_call 155;refine HM.out.mono ?_;rintro e w2 ⟨rfl,hb2⟩)
   | (go_at_call 154;refine(HBt.out _).mono ?_;rintro e w' ⟨rfl,rfl⟩))
  have hs2:=hst.out.below hb2;have t1:=(hs2.tab K hkl).2.1;have hb3:Below p w w2:=hbl.out.trans (hb2.mono (Nat.le_of_lt hst.out.rdr.lt));have HS2:=hid hs2;have HB3:=hid hb3;obtain⟨ho1,ho2,hcq2⟩:=ho.out;have hl5:=opL_le K;have hends:=climb_ends (n:=n) (l:=opL K) (on:=o) h1 hl5 ho1 ho2;have hlow:lowP (opL K) true=opL K+1:=by unfold lowP;rw[if_pos (.inl rfl)]
  have hK1:opL K≠0→clK (gL L q)≠0:=fun h0 e=>h0 (by rw[← hk,e];rfl);by_cases hlt:opL K<n
  ·have d1:decide (opL K<n)=true:=decide_eq_true hlt;have HR:Hid (Rd (gL L) (.lvl n) k (.ok t q)):=hid (hch.out _ (chain_stop _ (by rw[hk];exact hends.1 (.inl hlt))));clear hs2 hb2 hb3 hends hlt hlow hK1;go_wp2;go_ret;exact⟨.inr ⟨t,q,nv,HR.out,by omega,rfl,HS2.out⟩,HB3.out⟩
  have d1:decide (opL K<n)=false:=decide_eq_false hlt;have HLW:=hid (fun W=>lowest_any (opL K) (by omega) false W);by_cases hon:o<lowP (opL K) false
  ·have d2:decide (o<lowP (opL K) false)=true:=decide_eq_true hon;have HR:Hid (Rd (gL L) (.lvl n) k (.ok t q)):=hid (hch.out _ (chain_stop _ (by rw[hk];exact hends.1 (.inr hon))));clear hs2 hb2 hb3 hends hlt hlow hK1 hon;go_wp2_with (go_at_call 156;with_reducible refine(HLW.out _).mono ?_;rintro e w' ⟨rfl,rfl⟩);go_ret;exact⟨.inr ⟨t,q,nv,HR.out,by omega,rfl,HS2.out⟩,HB3.out⟩
  have d2:decide (o<lowP (opL K) false)=false:=decide_eq_false hon;have hin:n≤opL K∧opL K≤topL o:=by
   rcases Decidable.em (n≤opL K∧opL K≤topL o) with h'|h'
   ·exact h'
   ·exact absurd (hends.2 h') (by omega)
  have hqL:q<L.length:=by
   rcases Nat.lt_or_ge q L.length with h'|h'
   ·exact h'
   ·exfalso;refine hK1 (by omega) ?_;unfold gL;rw[if_neg (by omega)];rfl
  have HMV:=hid (hs2.move (q+1) (by omega));have HBM:Hid (Below p w (w2.setCell ⟨p,1,none⟩ (.int .i64 ((q+1:Nat):Int)))):=hid (hb3.setCell (Nat.le_refl p) _);have c1:=hs2.rdr.c1;have fz:=hs2.rdr.fz (o:=1);have HLT:=hid (fun W=>lowest_any (opL K) (by omega) true W);have hns2:(ns++lay ns.length t).length=ns.length+cnt t:=by rw[List.length_append,lay_len]
  have HLV:=hid (HL.out (q+1) (opL K+1) nv (ns++lay ns.length t) _ (by omega) (by omega) (by omega) (by rw[hns2];omega) HMV.out);rw[hlow] at HLT;clear hs2 hb2 hb3 hends hlow hK1 hon hlt;have hchv:=hid hch.out;have hq0:q<1000000000000:=by omega
  go_wp2_with (go_at_call 156;with_reducible refine(HLW.out _).mono ?_;rintro e w' ⟨rfl,rfl⟩);rw[show (q:Int)+1=((q+1:Nat):Int) by omega];generalize hWM:w2.setCell ⟨p,1,none⟩ (.int .i64 ((q+1:Nat):Int))=WM at HMV HBM HLV ⊢;go_wp2_with (first
   | (go_at_call 156;with_reducible refine(HLT.out _).mono ?_;rintro e w' ⟨rfl,rfl⟩)
   | (go_at_call 134;refine HLV.out.mono ?_;rintro e w3 ⟨he,hb⟩;have HB2:=hid hb;clear hb;rcases he with ⟨qe,hqe,rfl⟩|⟨b,q2,nv2,hq2,hcq3,rfl,hst2⟩ <;> simp only[gaveUp]))
  ·exact⟨rfl,.inl ⟨qe,hchv.out _ (chain_step (by rw[hk]) (by omega) hin.1 (.inl ⟨qe,hqe,rfl⟩) _ hin.2),rfl⟩,HBM.out.trans HB2.out⟩
  have hat:=hst2.at_;have hlen2:(ns++lay ns.length t++lay (ns++lay ns.length t).length b).length=ns.length+cnt t+cnt b:=by rw[List.length_append,lay_len,hns2]
  have HP:=hid (pair_any p cap q2 a L nv2 (ns++lay ns.length t++lay (ns++lay ns.length t).length b) K (ns.length+cnt t-1:Nat) (ns.length+cnt t+cnt b-1:Nat) w3 hst2 (by rw[hlen2];omega));have HQ2:=hid hq2;have HLEN:=hid hlen2;have HNS:=hid hns2;clear hst2 hq2 hlen2 hns2;go_wp2_with (go_at_call 157;with_reducible refine HP.out.mono ?_;rintro e w4 ⟨⟨rfl,nv4,hs4⟩,hb4⟩;have HS4:=hid hs4;have HB4:=hid hb4;clear hs4 hb4)
  go_roundg (L.length-q2)
  case measure=>omega
  case rel =>
   have htop:topL (opL K)=if opL K=3 then 2 else opL K:=by unfold topL;split;rfl;exact Nat.min_eq_left hl5
   have hs5:St w4 p cap a L q2 nv4 (ns++lay ns.length (.bi K t b)):=by
    have h5:=HS4.out;rw[HNS.out,List.append_assoc,List.append_assoc] at h5;exact h5
   refine⟨.bi K t b,q2,opL K,nv4,rfl,?_,rfl,hid ⟨by omega,by omega,?_⟩,hid hs5,hid ((HBM.out.trans HB2.out).trans HB4.out),hid fun r hr=>?_⟩
   ·have hc:cnt (.bi K t b)=cnt t+cnt b+1:=rfl;rw[lay_len,lay_len,hc]
    congr 1
   ·show cnt t+cnt b+1+k≤q2;omega
   ·exact hchv.out r (chain_step (by rw[hk]) (by omega) hin.1 (.inr ⟨b,q2,HQ2.out,by rw[hk];show Chain _ _ (if opL K=3 then 2 else opL K) _ _ _;rw[← htop];exact hr⟩) _ hin.2)
set_option maxHeartbeats 2000000
theorem isM_eq {c:Cl} {s:List UInt8} (h:isM c s=true):c=.mark s:=by
 cases c with
 | mark t=>exact congrArg Cl.mark (eq_of_beq h)
 | leaf l=>cases h
 | word k=>cases h
 | no=>cases h
theorem isM_ls {L:List TokE} {k:Nat} {s:List UInt8} (hi:isM (gL L k) s=true):k<L.length:=by
 rcases Nat.lt_or_ge k L.length with h'|h'
 ·exact h'
 ·unfold gL at hi;rw[if_neg (by omega)] at hi;cases hi
theorem signed_in (p cap k:Nat) (a:Option Addr) (L:List TokE) (nv:Value) (ns:List Nd) (w:World) (hcap:L.length≤1000000000000) (hns:ns.length≤k) (h:St w p cap a L k nv ns)
  (hO:sgK (gL L k)=0→isM (gL L k) [40]=false→∀ W,St W p cap a L k nv ns→Calls Tryz.prog 182 #[.pointer (some ⟨p,0,none⟩)] W (Rdd L (.lvl 7) k p cap a ns W))
  (hSg:∀ (k':Nat) (nv':Value) (ns':List Nd) (W:World),k<k'→ns'.length≤k'→St W p cap a L k' nv' ns'→Calls Tryz.prog 153 #[.pointer (some ⟨p,0,none⟩)] W (Rdd L (.lvl 6) k' p cap a ns' W))
  (hL:∀ (k' n':Nat) (nv':Value) (ns':List Nd) (W:World),k<k'→1≤n'→n'≤6→ns'.length≤k'→St W p cap a L k' nv' ns'→Calls Tryz.prog 134 #[.pointer (some ⟨p,0,none⟩),.int .i64 n'] W (Rdd L (.lvl n') k' p cap a ns' W)) :
  Calls Tryz.prog 153 #[.pointer (some ⟨p,0,none⟩)] w (Rdd L (.lvl 6) k p cap a ns w):=by
 have HO:=hid hO;have HSG:=hid hSg;have HLV:=hid hL;have HH:=hid h;have HM:=hid (mark_any p cap k a L nv w h.rdr h.toks h.len);have i45:=isM_mark L k [45] (by decide);have i33:=isM_mark L k [33] (by decide);have i40:=isM_mark L k [40] (by decide);have hsg:=sgK_mark L k;rw[← tl_dat] at i45 i33 i40 hsg;generalize markT L k=M at HM i45 i33 i40 hsg;clear hO hSg hL h;cases h45:(M.toList==[45]) with
 | true =>
  have hlt:k<L.length:=isM_ls (s:=[45]) (by rw[i45];exact h45);have hk3:sgK (gL L k)=3:=by rw[hsg,eq_of_beq h45];rfl
  have HK3:=hid hk3;clear i45 i33 i40 hsg hk3;go_enter Tryz.func153,Tryz.ntmps153;go_wp2_with (go_at_call 155;refine HM.out.mono ?_;rintro e w1 ⟨rfl,hb1⟩;have HS:=hid (HH.out.below hb1);have HB:=hid hb1;have c1:=HS.out.rdr.c1;have fz:w1.frozen? ⟨p,1,none⟩=false:=HS.out.rdr.fz;clear hb1);rw[show (k:Int)+1=((k+1:Nat):Int) from rfl];have HMV:=hid (HS.out.move (k+1) (by omega));have HBM:Hid (Below p w (w1.setCell ⟨p,1,none⟩ (.int .i64 ((k+1:Nat):Int)))):=hid ((HB.out.mono (Nat.le_of_lt HH.out.rdr.lt)).setCell (Nat.le_refl p) _);generalize w1.setCell ⟨p,1,none⟩ (.int .i64 ((k+1:Nat):Int))=WM at HMV HBM ⊢;have HV:=hid (HSG.out (k+1) nv ns WM (by omega) (by omega) HMV.out);go_wp2_with (go_at_call 153;refine HV.out.mono ?_;rintro e w3 ⟨he,hb⟩;have HB2:=hid hb;clear hb;rcases he with ⟨qe,hqe,rfl⟩|⟨t,q2,nv2,hq2,hcq3,rfl,hst2⟩ <;> simp only[gaveUp])
  ·exact⟨rfl,.inl ⟨qe,Rd.sign (by rw[HK3.out];decide) (.inl ⟨qe,hqe,rfl⟩),rfl⟩,HBM.out.trans HB2.out⟩
  have hat:=hst2.at_;have hlen2:(ns++lay ns.length t).length=ns.length+cnt t:=by rw[List.length_append,lay_len]
  have HP:=hid (single_any p cap q2 a L nv2 (ns++lay ns.length t) 3 (ns.length+cnt t-1:Nat) w3 hst2 (by rw[hlen2];omega));have HQ2:=hid hq2;have HLEN:=hid hlen2;clear hst2 hq2 hlen2;go_wp2_with (go_at_call 180;with_reducible refine HP.out.mono ?_;rintro e w4 ⟨⟨rfl,nv4,hs4⟩,hb4⟩;have HS4:=hid hs4;have HB4:=hid hb4;clear hs4 hb4);go_ret;refine⟨.inr ⟨.un 3 t,q2,nv4,Rd.sign (by rw[HK3.out];decide) (.inr ⟨t,q2,HQ2.out,by rw[HK3.out]⟩),?_,?_,?_⟩,(HBM.out.trans HB2.out).trans HB4.out⟩
  ·show cnt t+1+k≤q2;omega
  ·have hc:cnt (.un 3 t)=cnt t+1:=rfl;rw[hc]
   first|rfl|(rw[HLEN.out];rfl)|(rw[lay_len];congr 1)|(simp only[List.length_append,lay_len];congr 1)
  ·have h5:=HS4.out;rw[List.append_assoc] at h5;exact h5
 | false =>
 cases h33:(M.toList==[33]) with
 | true =>
  have hlt:k<L.length:=isM_ls (s:=[33]) (by rw[i33];exact h33);have hk3:sgK (gL L k)=4:=by rw[hsg,eq_of_beq h33];rfl
  have HK3:=hid hk3;clear i45 i33 i40 hsg hk3;go_enter Tryz.func153,Tryz.ntmps153;go_wp2_with (go_at_call 155;refine HM.out.mono ?_;rintro e w1 ⟨rfl,hb1⟩;have HS:=hid (HH.out.below hb1);have HB:=hid hb1;have c1:=HS.out.rdr.c1;have fz:w1.frozen? ⟨p,1,none⟩=false:=HS.out.rdr.fz;clear hb1);rw[show (k:Int)+1=((k+1:Nat):Int) from rfl];have HMV:=hid (HS.out.move (k+1) (by omega));have HBM:Hid (Below p w (w1.setCell ⟨p,1,none⟩ (.int .i64 ((k+1:Nat):Int)))):=hid ((HB.out.mono (Nat.le_of_lt HH.out.rdr.lt)).setCell (Nat.le_refl p) _);generalize w1.setCell ⟨p,1,none⟩ (.int .i64 ((k+1:Nat):Int))=WM at HMV HBM ⊢;have HV:=hid (HSG.out (k+1) nv ns WM (by omega) (by omega) HMV.out);go_wp2_with (go_at_call 153;refine HV.out.mono ?_;rintro e w3 ⟨he,hb⟩;have HB2:=hid hb;clear hb;rcases he with ⟨qe,hqe,rfl⟩|⟨t,q2,nv2,hq2,hcq3,rfl,hst2⟩ <;> simp only[gaveUp])
  ·exact⟨rfl,.inl ⟨qe,Rd.sign (by rw[HK3.out];decide) (.inl ⟨qe,hqe,rfl⟩),rfl⟩,HBM.out.trans HB2.out⟩
  have hat:=hst2.at_;have hlen2:(ns++lay ns.length t).length=ns.length+cnt t:=by rw[List.length_append,lay_len]
  have HP:=hid (single_any p cap q2 a L nv2 (ns++lay ns.length t) 4 (ns.length+cnt t-1:Nat) w3 hst2 (by rw[hlen2];omega));have HQ2:=hid hq2;have HLEN:=hid hlen2;clear hst2 hq2 hlen2;go_wp2_with (go_at_call 180;with_reducible refine HP.out.mono ?_;rintro e w4 ⟨⟨rfl,nv4,hs4⟩,hb4⟩;have HS4:=hid hs4;have HB4:=hid hb4;clear hs4 hb4);go_ret;refine⟨.inr ⟨.un 4 t,q2,nv4,Rd.sign (by rw[HK3.out];decide) (.inr ⟨t,q2,HQ2.out,by rw[HK3.out]⟩),?_,?_,?_⟩,(HBM.out.trans HB2.out).trans HB4.out⟩
  ·show cnt t+1+k≤q2;omega
  ·have hc:cnt (.un 4 t)=cnt t+1:=rfl;rw[hc]
   first|rfl|(rw[HLEN.out];rfl)|(rw[lay_len];congr 1)|(simp only[List.length_append,lay_len];congr 1)
  ·have h5:=HS4.out;rw[List.append_assoc] at h5;exact h5
 | false =>
 have hk0:sgK (gL L k)=0:=by
  rw[hsg];unfold sgM;rw[if_neg (fun e=>by rw[e] at h45;cases h45),if_neg (fun e=>by rw[e] at h33;cases h33)]
 have HK0:=hid hk0;cases h40:(M.toList==[40]) with
 | true =>
  have hi40:=i40.trans h40;have hlt:k<L.length:=isM_ls hi40;have HI:=hid (isM_eq hi40);clear i45 i33 i40 hsg hk0 hi40;go_enter Tryz.func153,Tryz.ntmps153;go_wp2_with (go_at_call 155;refine HM.out.mono ?_;rintro e w1 ⟨rfl,hb1⟩;have HS:=hid (HH.out.below hb1);have HB:=hid hb1;have c1:=HS.out.rdr.c1;have fz:w1.frozen? ⟨p,1,none⟩=false:=HS.out.rdr.fz;clear hb1);rw[show (k:Int)+1=((k+1:Nat):Int) from rfl];have HMV:=hid (HS.out.move (k+1) (by omega));have HBM:Hid (Below p w (w1.setCell ⟨p,1,none⟩ (.int .i64 ((k+1:Nat):Int)))):=hid ((HB.out.mono (Nat.le_of_lt HH.out.rdr.lt)).setCell (Nat.le_refl p) _);generalize w1.setCell ⟨p,1,none⟩ (.int .i64 ((k+1:Nat):Int))=WM at HMV HBM ⊢;have HV:=hid (HLV.out (k+1) 1 nv ns WM (by omega) (by omega) (by omega) (by omega) HMV.out);go_wp2_with (go_at_call 134;refine HV.out.mono ?_;rintro e w3 ⟨he,hb⟩;have HB2:=hid hb;clear hb;rcases he with ⟨qe,hqe,rfl⟩|⟨t,q2,nv2,hq2,hcq3,rfl,hst2⟩ <;> simp only[gaveUp])
  ·exact⟨rfl,.inl ⟨qe,Rd.six HK0.out (Rd.bracket HI.out (.inl ⟨qe,hqe,rfl⟩)),rfl⟩,HBM.out.trans HB2.out⟩
  have HW:=hid (want_any p cap q2 a L nv2 (ns++lay ns.length t) ⟨#[41]⟩ (by decide) w3 hst2);have HQ2:=hid hq2;clear hst2 hq2;go_wp2_with (go_at_call 181;refine HW.out.mono ?_;rintro e w4 ⟨he,hb4⟩;have HB4:=hid hb4;clear hb4;rcases he with ⟨hm,rfl⟩|⟨hm,hl2,rfl,hs4⟩ <;> simp only[gaveUp])
  ·exact⟨rfl,.inl ⟨q2,Rd.six HK0.out (Rd.bracket HI.out (.inr ⟨t,q2,HQ2.out,(if_neg (by rw[hm];decide)).symm⟩)),rfl⟩,(HBM.out.trans HB2.out).trans HB4.out⟩
  have HS4:=hid hs4;have HMM:=hid hm;clear hs4 hm;go_wp2;go_ret;exact⟨.inr ⟨t,q2+1,nv2,Rd.six HK0.out (Rd.bracket HI.out (.inr ⟨t,q2,HQ2.out,(if_pos HMM.out).symm⟩)),by omega,rfl,HS4.out⟩,(HBM.out.trans HB2.out).trans HB4.out⟩
 | false =>
  have hi40:=i40.trans h40;have HI:=hid hi40;clear i45 i33 i40 hsg hk0 hi40;go_enter Tryz.func153,Tryz.ntmps153;go_wp2_with (first
   | (go_at_call 155;refine HM.out.mono ?_;rintro e w1 ⟨rfl,hb1⟩;have HS:=hid (HH.out.below hb1);have HB:=hid hb1;clear hb1)
   | (go_at_call 182;refine(HO.out HK0.out HI.out _ HS.out).mono ?_;rintro e w3 ⟨he,hb⟩;have HB2:=hid hb;clear hb;rcases he with ⟨qe,hqe,rfl⟩|⟨t,q2,nv2,hq2,hcq3,rfl,hst2⟩ <;> simp only[gaveUp]))
  ·exact⟨rfl,.inl ⟨qe,Rd.six HK0.out hqe,rfl⟩,(HB.out.mono (Nat.le_of_lt HH.out.rdr.lt)).trans HB2.out⟩
  have HS4:=hid hst2;have HQ2:=hid hq2;clear hst2 hq2;go_wp2;go_ret;exact⟨.inr ⟨t,q2,nv2,Rd.six HK0.out HQ2.out,hcq3,rfl,HS4.out⟩,(HB.out.mono (Nat.le_of_lt HH.out.rdr.lt)).trans HB2.out⟩
theorem called_in (p cap k K:Nat) (a:Option Addr) (L:List TokE) (nv:Value) (ns:List Nd) (w:World) (hcap:L.length≤1000000000000) (hns:ns.length≤k) (hK:K<27) (hch:shCh K=wdN K) (hg:gL L k=.word K)
  (h:St w p cap a L (k+1) nv ns)
  (hL:∀ (k' n':Nat) (nv':Value) (ns':List Nd) (W:World),k<k'→1≤n'→n'≤6→ns'.length≤k'→St W p cap a L k' nv' ns'→Calls Tryz.prog 134 #[.pointer (some ⟨p,0,none⟩),.int .i64 n'] W (Rdd L (.lvl n') k' p cap a ns' W)) :
  Calls Tryz.prog 234 #[.pointer (some ⟨p,0,none⟩),.int .i64 K] w (Rdd L (.lvl 7) k p cap a ns w):=by
 have HLV:=hid hL;have HH:=hid h;have HG:=hid hg;have HCH:=hid hch;have HW0:=hid (want_any p cap (k+1) a L nv ns ⟨#[40]⟩ (by decide) w h);clear hL h hg hch;go_enter Tryz.func234,Tryz.ntmps234;go_upto_region 2 with (go_at_call 181;refine HW0.out.mono ?_;rintro e w0 ⟨he,hb⟩;have HB0:=hid hb;clear hb;rcases he with ⟨hm,rfl⟩|⟨hm,hl0,rfl,hs0⟩ <;> simp only[gaveUp])
 ·exact⟨rfl,.inl ⟨k+1,Rd.word HG.out (by rw[if_neg (by rw[hm];decide)]),rfl⟩,HB0.out⟩
 have HM0:=hid hm;have HV1:=hid (HLV.out (k+2) 1 nv ns w0 (by omega) (by omega) (by omega) (by omega) hs0);clear hm hs0;go_upto_region 3 with (go_at_call 134;refine HV1.out.mono ?_;rintro e w1 ⟨he,hb⟩;have HB1:=hid hb;clear hb;rcases he with ⟨qe,hqe,rfl⟩|⟨t,q1,nv1,hq1,hcq1,rfl,hs1⟩ <;> simp only[gaveUp])
 ·exact⟨rfl,.inl ⟨qe,Rd.word HG.out (by rw[if_pos HM0.out];exact .inl ⟨qe,hqe,rfl⟩),rfl⟩,HB0.out.trans HB1.out⟩
 have t2:=(hs1.tab K hK).2.2;have HS1:=hid hs1;have HQ1:=hid hq1;clear hs1 hq1;by_cases hw:wdN K=1
 ·have HWD:=hid hw;have e1:shCh K=1:=HCH.out.trans hw;rw[e1] at t2;have HW1:=hid (want_any p cap q1 a L nv1 (ns++lay ns.length t) ⟨#[41]⟩ (by decide) w1 HS1.out);clear hw e1;go_wp2_with (go_at_call 181;refine HW1.out.mono ?_;rintro e w2 ⟨he,hb⟩;have HB2:=hid hb;clear hb;rcases he with ⟨hm,rfl⟩|⟨hm,hl2,rfl,hs2⟩ <;> simp only[gaveUp])
  ·exact⟨rfl,.inl ⟨q1,Rd.word HG.out (by rw[if_pos HM0.out];exact .inr ⟨t,q1,HQ1.out,by show (if wdN K=1 then _ else _);rw[if_pos HWD.out];exact(if_neg (by rw[hm];decide)).symm⟩),rfl⟩,(HB0.out.trans HB1.out).trans HB2.out⟩
  have HM1:=hid hm;have hat:=hs2.at_;have hlen2:(ns++lay ns.length t).length=ns.length+cnt t:=by rw[List.length_append,lay_len]
  have HP:=hid (single_any p cap (q1+1) a L nv1 (ns++lay ns.length t) K (ns.length+cnt t-1:Nat) w2 hs2 (by rw[hlen2];omega));have HLEN:=hid hlen2;clear hm hs2 hlen2;go_wp2_with (go_at_call 180;with_reducible refine HP.out.mono ?_;rintro e w4 ⟨⟨rfl,nv4,hs4⟩,hb4⟩;have HS4:=hid hs4;have HB4:=hid hb4;clear hs4 hb4);go_ret;refine⟨.inr ⟨.un K t,q1+1,nv4,Rd.word HG.out (by rw[if_pos HM0.out];exact .inr ⟨t,q1,HQ1.out,by show (if wdN K=1 then _ else _);rw[if_pos HWD.out];exact(if_pos HM1.out).symm⟩),?_,?_,?_⟩,((HB0.out.trans HB1.out).trans HB2.out).trans HB4.out⟩
  ·show cnt t+1+k≤q1+1;omega
  ·have hc:cnt (.un K t)=cnt t+1:=rfl;rw[hc]
   first|rfl|(rw[HLEN.out];rfl)|(rw[lay_len];congr 1)|(simp only[List.length_append,lay_len];congr 1)
  ·have h5:=HS4.out;rw[List.append_assoc] at h5;exact h5
 ·have HWD:=hid hw;have e1:shCh K=2:=by rw[HCH.out];unfold wdN at hw ⊢;split at hw;(split;rfl;contradiction);exact absurd rfl hw
  rw[e1] at t2;have HW1:=hid (want_any p cap q1 a L nv1 (ns++lay ns.length t) ⟨#[44]⟩ (by decide) w1 HS1.out);clear hw e1;go_upto_region 7 with (go_at_call 181;refine HW1.out.mono ?_;rintro e w2 ⟨he,hb⟩;have HB2:=hid hb;clear hb;rcases he with ⟨hm,rfl⟩|⟨hm,hl2,rfl,hs2⟩ <;> simp only[gaveUp])
  ·exact⟨rfl,.inl ⟨q1,Rd.word HG.out (by rw[if_pos HM0.out];exact .inr ⟨t,q1,HQ1.out,by show (if wdN K=1 then _ else _);rw[if_neg HWD.out,if_neg (by rw[hm];decide)]⟩),rfl⟩,(HB0.out.trans HB1.out).trans HB2.out⟩
  have HM1:=hid hm;have hlen2:(ns++lay ns.length t).length=ns.length+cnt t:=by rw[List.length_append,lay_len]
  have HV2:=hid (HLV.out (q1+1) 1 nv1 (ns++lay ns.length t) w2 (by omega) (by omega) (by omega) (by rw[hlen2];omega) hs2);have HNS:=hid hlen2;clear hm hs2 hlen2;go_upto_region 8 with (go_at_call 134;refine HV2.out.mono ?_;rintro e w3 ⟨he,hb⟩;have HB3:=hid hb;clear hb;rcases he with ⟨qe,hqe,rfl⟩|⟨b,q3,nv3,hq3,hcq3,rfl,hs3⟩ <;> simp only[gaveUp])
  ·exact⟨rfl,.inl ⟨qe,Rd.word HG.out (by rw[if_pos HM0.out];exact .inr ⟨t,q1,HQ1.out,by show (if wdN K=1 then _ else _);rw[if_neg HWD.out,if_pos HM1.out];exact .inl ⟨qe,hqe,rfl⟩⟩),rfl⟩,((HB0.out.trans HB1.out).trans HB2.out).trans HB3.out⟩
  have HQ3:=hid hq3;have HW3:=hid (want_any p cap q3 a L nv3 _ ⟨#[41]⟩ (by decide) w3 hs3);clear hs3 hq3;go_wp2_with (go_at_call 181;refine HW3.out.mono ?_;rintro e w5 ⟨he,hb⟩;have HB5:=hid hb;clear hb;rcases he with ⟨hm,rfl⟩|⟨hm,hl5,rfl,hs5⟩ <;> simp only[gaveUp])
  ·exact⟨rfl,.inl ⟨q3,Rd.word HG.out (by rw[if_pos HM0.out];exact .inr ⟨t,q1,HQ1.out,by show (if wdN K=1 then _ else _);rw[if_neg HWD.out,if_pos HM1.out];exact .inr ⟨b,q3,HQ3.out,(if_neg (by rw[hm];decide)).symm⟩⟩),rfl⟩,(((HB0.out.trans HB1.out).trans HB2.out).trans HB3.out).trans HB5.out⟩
  have HM3:=hid hm;have hat:=hs5.at_;have hlen3:(ns++lay ns.length t++lay (ns++lay ns.length t).length b).length=ns.length+cnt t+cnt b:=by rw[List.length_append,lay_len,HNS.out]
  have HP:=hid (pair_any p cap (q3+1) a L nv3 (ns++lay ns.length t++lay (ns++lay ns.length t).length b) K (ns.length+cnt t-1:Nat) (ns.length+(lay ns.length t).length+cnt b-1:Nat) w5 hs5 (by rw[hlen3];omega));have HLEN:=hid hlen3;clear hm hs5 hlen3;go_wp2_with (go_at_call 157;with_reducible refine HP.out.mono ?_;rintro e w4 ⟨⟨rfl,nv4,hs4⟩,hb4⟩;have HS4:=hid hs4;have HB4:=hid hb4;clear hs4 hb4);go_ret;refine⟨.inr ⟨.bi K t b,q3+1,nv4,Rd.word HG.out (by rw[if_pos HM0.out];exact .inr ⟨t,q1,HQ1.out,by show (if wdN K=1 then _ else _);rw[if_neg HWD.out,if_pos HM1.out];exact .inr ⟨b,q3,HQ3.out,(if_pos HM3.out).symm⟩⟩),?_,?_,?_⟩,((((HB0.out.trans HB1.out).trans HB2.out).trans HB3.out).trans HB5.out).trans HB4.out⟩
  ·show cnt t+cnt b+1+k≤q3+1;omega
  ·have hc:cnt (.bi K t b)=cnt t+cnt b+1:=rfl;rw[hc]
   first|rfl|(rw[HLEN.out];rfl)|(rw[lay_len,lay_len];congr 1)|(simp only[List.length_append,lay_len];congr 1)
  ·have h5:=HS4.out;rw[HNS.out,List.append_assoc,List.append_assoc,lay_len t] at h5;exact h5
end Go.Proofs.YtenlhcgpajphhaaGreatDoor
