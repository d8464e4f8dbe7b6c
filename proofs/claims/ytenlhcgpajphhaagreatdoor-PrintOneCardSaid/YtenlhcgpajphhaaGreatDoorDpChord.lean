import Derived.Test.YtenlhcgpajphhaaGreatDoorDpBody
import Derived.Test.YtenlhcgpajphhaaGreatDoorMDrBegun
import Derived.Deep.RegionLaw
import Derived.Deep.DeepCutAuto
namespace Go.Proofs.YtenlhcgpajphhaaGreatDoor
open Go.RowKit Go.Shelf
set_option maxRecDepth 100000
open Lib(hid)
set_option linter.all false
set_option maxHeartbeats 16000000
theorem qrO {f:FuncId} {args:Array Value} {W:World} {p cap n:Nat} {a:Option Addr} {L:List TokE} {R:S8} {V:Ending→World→Prop} (h:Calls Tryz.prog f args W (Go8 p cap n a L R V W)) (hb:R.bad=0) :
  Calls Tryz.prog f args W (fun e w'=>(V e w'∧PSt w' p cap n a L R)∧Eff p W w'):=h.mono (fun e w' h=>by
 obtain⟨h1,h2⟩:=h;rcases h1 with h1|⟨h1,_⟩
 ·exact⟨h1,h2⟩
 ·exact absurd hb h1)
theorem qrP {f:FuncId} {args:Array Value} {W:World} {p cap n:Nat} {a:Option Addr} {L:List TokE} {R:S8} {V:Ending→World→Prop} (h:Calls Tryz.prog f args W (Go8 p cap n a L R V W)) (hb:R.bad≠0) :
  Calls Tryz.prog f args W (fun e w'=>e=qb0 R∧Eff p W w'):=h.mono (fun e w' h=>by
 obtain⟨h1,h2⟩:=h;rcases h1 with h1|⟨_,h1⟩
 ·exact absurd h1.2.ok hb
 ·exact⟨h1,h2⟩)
theorem q1Z {L:List TokE} {n:Nat} {s:S8} (h:s.bad≠0):(qiX L n s).1=s:=by unfold qiX;rw[qjV h,if_neg (by decide)]
theorem qvZ {L:List TokE} {n:Nat} {s:S8} (h:s.bad≠0):(qpX L n s).1=s:=by unfold qpX;rw[qdN h,qfJ h]
noncomputable def qo4 (L:List TokE) (n:Nat) (nm:ByteArray) (c:S8 × List PartE):S8 × ChordE:=((qpX L n (qiX L n c.1).1).1,⟨nm,c.2,(qiX L n c.1).2,(qpX L n (qiX L n c.1).1).2⟩)
noncomputable def qw3 (L:List TokE) (n:Nat) (nm:ByteArray) (k:S8 × PartE):S8 × ChordE:=qo4 L n nm (qk0 L n (qaX L) k.1 [k.2])
theorem qo3 {L:List TokE} {n:Nat} {nm:ByteArray} {c:S8 × List PartE} (h:c.1.bad≠0):(qo4 L n nm c).1=c.1:=by
 have e:=q1Z (L:=L) (n:=n) h;unfold qo4;simp only;rw[qvZ (by rw[e];exact h),e]
theorem qo2 {L:List TokE} {n:Nat} {nm:ByteArray} {k:S8 × PartE} (h:k.1.bad≠0):(qw3 L n nm k).1=k.1:=by
 unfold qw3;rw[q2T h,qo3 h]
theorem q2I (L:List TokE) (n:Nat) (s:S8):qbP L n s=qw3 L n (qaV L n (qa7 L n s ⟨#[99,104,111,114,100]⟩)).2 (qdA L n (qa7 L n (qaV L n (qa7 L n s ⟨#[99,104,111,114,100]⟩)).1 ⟨#[58]⟩)):=rfl
abbrev q7D (w:World) (x:ChordE) (e:Ending) (w':World):Prop:=∃ pv gv bv,e=.returned (.agg #[.string x.nm,pv,gv,bv])∧Itm qbB w.heap.size w' [.string x.nm,pv,gv,bv] x
theorem qnW {w wr:World} {p cap n lo:Nat} {a:Option Addr} {L:List TokE} {s:S8} {nm:ByteArray} {pv gv bv:Value} {x:ChordE} (hi:Itm qbB lo wr [.string nm,pv,gv,bv] x) (hs:PSt wr p cap n a L s) (he:Eff p w wr) (hp:p<w.heap.size) (hlo:w.heap.size<lo) (hn:x.nm=nm) :
  (q7D w x (.returned (.agg #[.string nm,pv,gv,bv])) ((((wr.setCell ⟨w.heap.size,0,none⟩ (.string nm)).setCell ⟨w.heap.size,1,none⟩ pv).setCell ⟨w.heap.size,2,none⟩ gv).setCell ⟨w.heap.size,3,none⟩ bv) ∧
   PSt ((((wr.setCell ⟨w.heap.size,0,none⟩ (.string nm)).setCell ⟨w.heap.size,1,none⟩ pv).setCell ⟨w.heap.size,2,none⟩ gv).setCell ⟨w.heap.size,3,none⟩ bv) p cap n a L s) ∧
   Eff p w ((((wr.setCell ⟨w.heap.size,0,none⟩ (.string nm)).setCell ⟨w.heap.size,1,none⟩ pv).setCell ⟨w.heap.size,2,none⟩ gv).setCell ⟨w.heap.size,3,none⟩ bv):=by
 subst hn;have hb:∀ b,b≠w.heap.size→((((wr.setCell ⟨w.heap.size,0,none⟩ (.string x.nm)).setCell ⟨w.heap.size,1,none⟩ pv).setCell ⟨w.heap.size,2,none⟩ gv).setCell ⟨w.heap.size,3,none⟩ bv).heap[b]?=wr.heap[b]?:=fun b hne =>
  (Below.heap_setCell _ _ _ _ hne).trans ((Below.heap_setCell _ _ _ _ hne).trans ((Below.heap_setCell _ _ _ _ hne).trans (Below.heap_setCell _ _ _ _ hne)))
 refine⟨⟨⟨_,_,_,rfl,?_⟩,?_⟩,?_⟩
 ·exact(hi.same qaM (fun b hb1 _=>hb b (by omega)) (by simp)).wide (by omega)
 ·exact hs.same (fun b hb1=>hb b (by omega))
 ·exact(((he.mine hp (Nat.le_refl _) _ _).mine hp (Nat.le_refl _) _ _).mine hp (Nat.le_refl _) _ _).mine hp (Nat.le_refl _) _ _
theorem qlR (p cap n:Nat) (a:Option Addr) (L:List TokE) (s:S8) (w:World) (h:PSt w p cap n a L s) :
  Calls Tryz.prog 44 #[.pointer (some ⟨p,0,none⟩)] w (Go8 p cap n a L (qbP L n s).1 (q7D w (qbP L n s).2) w):=by
 obtain⟨i0,i0i,i00,i01,i02⟩:=qaN q1R;obtain⟨W0,hW0,hx0,hb0⟩:∃ W0,W0=w.alloc (.cells #[.string ⟨#[]⟩,.slice none 0 0,.slice none 0 0,.slice none 0 0] 44)∧Bx W0 w.heap.size 44 zCh∧Below w.heap.size w W0:=⟨_,rfl,Bx.new w 44 zCh,(Below.refl _ w).alloc (Nat.le_refl _) _⟩
 have HZ:Hid (W0.heap.size=w.heap.size+1):=hid (by rw[hW0];simp);have hlt:=h.lt;have hst:=h.below hb0;have HW1:=hid (qaW p cap n a L s ⟨#[99,104,111,114,100]⟩ W0 hst);have HE0:=hid (Eff.of_below hb0 hlt);have HW0:=hid hW0;have HG0:=hid hx0;have HAT:=hid hst.at_;obtain⟨R,hR⟩:∃ R,R=qbP L n s:=⟨_,rfl⟩
 rw[← hR];unfold Go8;rw[q2I] at hR;have hle:=qc9 (L:=L) (n:=n) (s:=s) ⟨#[99,104,111,114,100]⟩ hst.at_;generalize qa7 L n s ⟨#[99,104,111,114,100]⟩=s1 at hR HW1 hle;have HWD:=hid (fun W (hW:PSt W p cap n a L s1)=>qd9 p cap n a L s1 W hW);have k1:s1.bad≠0→(qaV L n s1).1=s1:=fun hb=>qh6 hb;have hle2:=qdQ (L:=L) (n:=n) (s:=s1) hle.1;generalize qaV L n s1=wd at hR HWD k1 hle2;have HWC:=hid (fun W (hW:PSt W p cap n a L wd.1)=>qaW p cap n a L wd.1 ⟨#[58]⟩ W hW);have k2:wd.1.bad≠0→qa7 L n wd.1 ⟨#[58]⟩=wd.1:=fun hb=>qdN hb _;have hle3:=qc9 (L:=L) (n:=n) (s:=wd.1) ⟨#[58]⟩ hle2.1;generalize qa7 L n wd.1 ⟨#[58]⟩=s3 at hR HWC k2 hle3;have HPT:=hid (fun W (hW:PSt W p cap n a L s3)=>qnD p cap n a L s3 W hW);have k3:s3.bad≠0→(qdA L n s3).1=s3:=fun hb=>q49 hb;have hle4:=qlS (L:=L) (n:=n) (s:=s3) hle3.1;generalize qdA L n s3=KS at hR HPT k3 hle4;have HK3:Hid (s3.bad≠0→R.1=s3):=hid (fun hb=>by
  have e:=k3 hb;rw[hR,qo2 (by rw[e];exact hb),e])
 have HKW:Hid (wd.1.bad≠0→R.1=wd.1):=hid (fun hb=>by
  have e:=k2 hb;rw[HK3.out (by rw[e];exact hb),e])
 have HK1:Hid (s1.bad≠0→R.1=s1):=hid (fun hb=>by
  have e:=k1 hb;rw[HKW.out (by rw[e];exact hb),e])
 have HKP:Hid (KS.1.bad≠0→R.1=KS.1):=hid (fun hb=>by rw[hR,qo2 hb]);have HSTEP:=hid hle4.2;unfold qw3 at hR;obtain⟨C,hC⟩:∃ C,C=qk0 L n (qaX L) KS.1 [KS.2]:=⟨_,rfl⟩
 rw[← hC] at hR;have HCC:=hid hC;have HR:=hid hR;have HF0:=hid (qgT L KS.1);have HF3:=hid (qgT L s3);have hGp:w.heap.size≠p:=by omega
 clear h hst hW0 hx0 hb0 hR hC hle hle2 hle3 hle4 k1 k2 k3 HAT;go_enter Tryz.func44,Tryz.ntmps44;go_upto_region 1 with (fail);rw[← HW0.out];go_upto_region 2 with (go_at_call 69;(with_reducible refine(HW1.out).mono ?_);rintro e w1 ⟨hg,he⟩;have HE1:=hid he;clear he;replace hg:=Or.symm hg;rcases hg with ⟨hg,rfl⟩|⟨rfl,hg⟩ <;> first|(have HG1:=hid (show PSt w1 p cap n a L _ from hg);clear hg)|(have HG1:=hid hg;clear hg;try unfold qb0))
 ·rw[HK1.out HG1.out];exact⟨rfl,.inr ⟨HG1.out,rfl⟩,HE0.out.trans HE1.out⟩
 go_upto_region 3 with (go_at_call 73;(with_reducible refine(HWD.out w1 HG1.out).mono ?_);rintro e w2 ⟨hg,he⟩;have HE2:=hid he;clear he;replace hg:=Or.symm hg;rcases hg with ⟨hg,rfl⟩|⟨rfl,hg⟩ <;> first|(have HG2:=hid (show PSt w2 p cap n a L _ from hg);clear hg)|(have HG2:=hid hg;clear hg;try unfold qb0))
 ·rw[HKW.out HG2.out];exact⟨rfl,.inr ⟨HG2.out,rfl⟩,HE0.out.trans (HE1.out.trans HE2.out)⟩
 have HE02:=hid (HE0.out.trans (HE1.out.trans HE2.out));obtain⟨W1,hW1⟩:∃ W1,W1=w2.alloc (.cells #[.string wd.2,.slice none 0 0,.slice none 0 0,.slice none 0 0] 44):=⟨_,rfl⟩
 have hb1:Below w2.heap.size w2 W1:=by rw[hW1];exact(Below.refl _ w2).alloc (Nat.le_refl _) _
 have hX1:w.heap.size<w2.heap.size:=by have:=HE1.out.size;have:=HE2.out.size;have:=HZ.out;omega
 have HX1:=hid (show Bx W1 w2.heap.size 44 [.string wd.2,.slice none 0 0,.slice none 0 0,.slice none 0 0] by rw[hW1];exact Bx.new w2 _ _);have HGA:=hid ((HG0.out.oth (HE1.out.trans HE2.out).2 hGp).keep hb1 hX1);have HST1:=hid (HG2.out.below hb1);have HEA:=hid (HE02.out.trans (Eff.of_below hb1 HG2.out.lt));rw[← hW1];generalize w2.heap.size=X at HX1 hX1 ⊢;have hXp:X≠p:=by omega
 have hGX:w.heap.size≠X:=by omega
 clear hW1 hb1 HG1 HG2 HE0 HE1 HE2 HE02 HG0 HW1 HWD HK1 HKW;go_upto_region 4 with (go_at_call 69;(with_reducible refine(HWC.out W1 HST1.out).mono ?_);rintro e w3 ⟨hg,he⟩;have HE3:=hid he;clear he;replace hg:=Or.symm hg;rcases hg with ⟨hg,rfl⟩|⟨rfl,hg⟩ <;> first|(have HG3:=hid (show PSt w3 p cap n a L _ from hg);clear hg)|(have HG3:=hid hg;clear hg;try unfold qb0))
 ·rw[HK3.out HG3.out];exact⟨rfl,.inr ⟨HG3.out,rfl⟩,HEA.out.trans HE3.out⟩
 have HXB:=hid (HX1.out.oth HE3.out.2 hXp);have HGB:=hid (HGA.out.oth HE3.out.2 hGp);have HL3:Hid (LqS qdS 95 2 (X+1) w p cap n a L w3 (.slice none 0 0) s3 [] []):=hid ⟨Lst.nil _ _ _ _ _,HG3.out,HEA.out.trans HE3.out,by have:=HF3.out;unfold qaX at this;show 0+_≤_;omega,by omega,by have:=HXB.out.lt;omega⟩;have HIC:=hid (HPT.out w3.drew (HG3.out.below (qa0 w3)));have x1:=HXB.out.c 1 rfl;clear HX1 HGA HST1 HEA HG3 HE3 HWC HK3 HPT HF3;by_cases hkb:KS.1.bad≠0
 ·have HICN:=hid (qrP HIC.out hkb);have HKB:=hid hkb;have HKR:=hid (HKP.out hkb);clear HIC hkb HSTEP HF0;refine wp_region_any (by kernel_rfl) ?_;refine wpAny_ready (rs:=[0,2]) (by kernel_rfl) (by simp) ?_;refine AllReady.cons rfl (fun K hK=>?_) ?_
  ·(go_simp;refine hK _ _ ?_;clear hK K)
   refine wpAny_ready (rs:=[1,2]) (by kernel_rfl) (by simp) ?_;refine AllReady.cons rfl (fun K hK=>?_) ?_
   ·(go_simp;refine hK _ _ ?_;clear hK K)
    refine wpAny_ready (rs:=[2]) (by kernel_rfl) (by simp) ?_;refine AllReady.cons rfl (fun K hK=>?_) ?_
    ·(go_simp;refine hK _ _ ?_;clear hK K)
     refine wpAny_ready (rs:=[3]) (by kernel_rfl) (by simp) ?_;refine AllReady.cons rfl (fun K hK=>?_) ?_
     ·(go_simp;(with_reducible refine HICN.out.mono ?_);rintro e w5 ⟨rfl,he5⟩;exact⟨rfl,.inr ⟨by rw[HKR.out];exact HKB.out,by rw[HKR.out];rfl⟩,HL3.out.eff.trans ((Eff.of_below (qa0 w3) HL3.out.st.lt).trans he5)⟩)
     exact AllReady.nil
    exact AllReady.nil
   refine AllReady.cons rfl (fun K hK=>?_) ?_
   ·(go_simp;refine hK _ _ ?_;clear hK K)
    refine wpAny_ready (rs:=[1,3]) (by kernel_rfl) (by simp) ?_;refine AllReady.cons rfl (fun K hK=>?_) ?_
    ·(go_simp;refine hK _ _ ?_;clear hK K)
     refine wpAny_ready (rs:=[3]) (by kernel_rfl) (by simp) ?_;refine AllReady.cons rfl (fun K hK=>?_) ?_
     ·(go_simp;(with_reducible refine HICN.out.mono ?_);rintro e w5 ⟨rfl,he5⟩;exact⟨rfl,.inr ⟨by rw[HKR.out];exact HKB.out,by rw[HKR.out];rfl⟩,HL3.out.eff.trans ((Eff.of_below (qa0 w3) HL3.out.st.lt).trans he5)⟩)
     exact AllReady.nil
    refine AllReady.cons rfl (fun K hK=>?_) ?_
    ·(go_simp;(with_reducible refine HICN.out.mono ?_);rintro e w5 ⟨rfl,he5⟩;exact⟨rfl,.inr ⟨by rw[HKR.out];exact HKB.out,by rw[HKR.out];rfl⟩,HL3.out.eff.trans ((Eff.of_below (qa0 w3) HL3.out.st.lt).trans he5)⟩)
    exact AllReady.nil
   exact AllReady.nil
  refine AllReady.cons rfl (fun K hK=>?_) ?_
  ·(go_simp;refine hK _ _ ?_;clear hK K)
   refine wpAny_ready (rs:=[0,3]) (by kernel_rfl) (by simp) ?_;refine AllReady.cons rfl (fun K hK=>?_) ?_
   ·(go_simp;refine hK _ _ ?_;clear hK K)
    refine wpAny_ready (rs:=[1,3]) (by kernel_rfl) (by simp) ?_;refine AllReady.cons rfl (fun K hK=>?_) ?_
    ·(go_simp;refine hK _ _ ?_;clear hK K)
     refine wpAny_ready (rs:=[3]) (by kernel_rfl) (by simp) ?_;refine AllReady.cons rfl (fun K hK=>?_) ?_
     ·(go_simp;(with_reducible refine HICN.out.mono ?_);rintro e w5 ⟨rfl,he5⟩;exact⟨rfl,.inr ⟨by rw[HKR.out];exact HKB.out,by rw[HKR.out];rfl⟩,HL3.out.eff.trans ((Eff.of_below (qa0 w3) HL3.out.st.lt).trans he5)⟩)
     exact AllReady.nil
    refine AllReady.cons rfl (fun K hK=>?_) ?_
    ·(go_simp;(with_reducible refine HICN.out.mono ?_);rintro e w5 ⟨rfl,he5⟩;exact⟨rfl,.inr ⟨by rw[HKR.out];exact HKB.out,by rw[HKR.out];rfl⟩,HL3.out.eff.trans ((Eff.of_below (qa0 w3) HL3.out.st.lt).trans he5)⟩)
    exact AllReady.nil
   refine AllReady.cons rfl (fun K hK=>?_) ?_
   ·(go_simp;(with_reducible refine HICN.out.mono ?_);rintro e w5 ⟨rfl,he5⟩;exact⟨rfl,.inr ⟨by rw[HKR.out];exact HKB.out,by rw[HKR.out];rfl⟩,HL3.out.eff.trans ((Eff.of_below (qa0 w3) HL3.out.st.lt).trans he5)⟩)
   exact AllReady.nil
  exact AllReady.nil
 have HICO:=hid (qrO HIC.out (Decidable.not_not.1 hkb));clear HIC hkb HKP x1
 go_cut [] (fun wx=>∃ (ad:Option Addr) (cp:Nat) (cs:List Value),Hid (LqS qdS 95 2 (X+1) w p cap n a L wx (.slice ad 1 cp) KS.1 [KS.2] cs)∧Hid (Bx wx X 44 [.string wd.2,.slice ad 1 cp,.slice none 0 0,.slice none 0 0])∧Hid (Bx wx w.heap.size 44 zCh))
 case first =>
  have x1:=HXB.out.c 1 rfl
  go_region_law (first
    | (go_simp;go_at_call 74;(with_reducible refine HICO.out.mono ?_);rintro e w5 ⟨⟨⟨v5,rfl,hit⟩,hs1⟩,hs2⟩;obtain⟨ad5,m5,c5,rfl⟩:=qnI hit;have he5:Eff p w3 w5:=(Eff.of_below (qa0 w3) HL3.out.st.lt).trans hs2;have HIT:=hid (show Itm qdS w3.heap.size w5 [.string KS.2.tg,.slice ad5 m5 c5] KS.2 from hit);have HS5:=hid (show PSt w5 p cap n a L KS.1 from hs1);have HE5:=hid he5;have HL5:=hid (LqS.step qbK HL3.out hlt hs1 he5 HSTEP.out);have hb5:=HXB.out.oth he5.2 hXp;have y1:=hb5.c 1 rfl;have hb6:Below w5.heap.size w5 (w5.alloc (.cells [.string KS.2.tg,.slice ad5 m5 c5].toArray 95)):=(Below.refl w5.heap.size w5).alloc (Nat.le_refl _) _;have y1a:=(hb5.keep hb6 hb5.lt).c 1 rfl;have HXB5:=hid hb5;have HGB5:=hid (HGB.out.oth he5.2 hGp);clear hs1 hs2 he5 hb5 hb6 hit)
    | (refine step_append_lies _ rfl (.tmp 12) (.tmp 15) 38 rfl 0 95 i0 (.agg #[.string ⟨#[]⟩,.slice none 0 0]) 2 40 Tryz.underlying38 i0i i00 i01 i02 rfl (by decide) (.slice none 0 0) 0 [] rfl (HL5.out.lst.row.alloc (.cells [.string KS.2.tg,.slice ad5 m5 c5].toArray 95)) ⟨w5.heap.size,0,none⟩ 1 1 [.string KS.2.tg,.slice ad5 m5 c5] rfl rfl (qc7 w5 [.string KS.2.tg,.slice ad5 m5 c5] 95) (HIT.out.one qbK) (by decide) (by first|decide|(have:=HL3.out.few;have:=HL3.out.st.len;unfold maxLen;omega)) (by first|decide|(have:=HL3.out.few;have:=HL3.out.st.len;omega)) (Nat.zero_le _) _ rfl ?_;intro g cp w7 hown hgrow hat hlt7;have hb6:Below w5.heap.size w5 (w5.alloc (.cells [.string KS.2.tg,.slice ad5 m5 c5].toArray 95)):=(Below.refl _ w5).alloc (Nat.le_refl _) _;have HL7:=hid (LqS.more qbK HL3.out hlt HIT.out HS5.out HE5.out hb6 rfl hown hgrow hat hlt7 (by have:=HF0.out;unfold qaX at this;show 0+1+_≤_;omega));have hlow:=HL3.out.low HE5.out hb6 hgrow;have HX7:=hid (show Bx w7 X 44 [.string wd.2,.slice none 0 0,.slice none 0 0,.slice none 0 0] from (hlow X (by omega)).trans HXB5.out);have HG7:=hid (show Bx w7 w.heap.size 44 zCh from (hlow _ (by omega)).trans HGB5.out);have d7:=HX7.out.c 1 rfl;have g7:=HX7.out.fz 1;clear hown hgrow hat hlt7 hb6 hlow))
  all_goals
   have HL8:Hid (LqS qdS 95 2 (X+1) w p cap n a L (w7.setCell ⟨X,1,none⟩ (.slice (some ⟨g,0,none⟩) 1 cp)) (.slice (some ⟨g,0,none⟩) 1 cp) KS.1 [KS.2] [.string KS.2.tg,.slice ad5 m5 c5]):=hid (HL7.out.boxed qbK hlt (X:=X) (by omega) (by omega) 1 (.slice (some ⟨g,0,none⟩) 1 cp));have HX8:=hid (HX7.out.set 1 (.slice (some ⟨g,0,none⟩) 1 cp));have HG8:=hid (HG7.out.other hGX 1 (.slice (some ⟨g,0,none⟩) 1 cp));clear HXB HGB HL3 HL7 HX7 HG7 HS5 HE5 HL5 HXB5 HGB5 HICO HSTEP HIT d7 g7 y1 y1a x1;generalize w7.setCell ⟨X,1,none⟩ (.slice (some ⟨g,0,none⟩) 1 cp)=w8 at HL8 HX8 HG8 ⊢;go_wp2_with fail;go_meet;exact⟨_,_,_,HL8,HX8,HG8⟩
 case rest =>
  obtain⟨ad8,cp8,cs8,HL8,HX8,HG8⟩:=hcut;clear HXB HGB HL3 HICO HSTEP;go_wp2
  go_loopg [] (qaX L) (fun gk wr=>∃ (s4:S8) (l:List PartE) (cs:List Value) (ad2:Option Addr) (cp2:Nat),Hid (qeA L s4<gk)∧Hid (C=qk0 L n gk s4 l)∧Hid (LqS qdS 95 2 (X+1) w p cap n a L wr (.slice ad2 l.length cp2) s4 l cs)∧Hid (Bx wr X 44 [.string wd.2,.slice ad2 l.length cp2,.slice none 0 0,.slice none 0 0])∧Hid (Bx wr w.heap.size 44 zCh))
  case atStart=>exact⟨KS.1,[KS.2],cs8,ad8,cp8,HF0,HCC,HL8,HX8,HG8⟩
  case round =>
   obtain⟨s4,l,cs,ad2,cp2,HG,HQ4,HL,HXB,HGB⟩:=hrel;clear HCC HL8 HX8 HG8 HF0;obtain⟨f,rfl⟩:∃ f,gk=f+1:=⟨gk-1,by have:=HG.out;omega⟩
   cases hi1:isB L s4 ⟨#[38]⟩ with
   | true =>
    have HI1:=hid hi1;have hq:C=qk0 L n f (qdA L n (qa6 s4)).1 (l++[(qdA L n (qa6 s4)).2]):=by rw[HQ4.out];conv=>lhs;unfold qk0;rw[hi1,if_pos rfl]
    have hw:=qfC hi1 HL.out.st.at_;have hk:=qlS (L:=L) (n:=n) (s:=qa6 s4) hw.1;have HSR:Hid (qeA L (qdA L n (qa6 s4)).1+1≤qeA L s4):=hid (by have:=hw.2;have:=hk.2;omega);have HSTEP:=hid hk.2;have HWL:=hid (Nat.le_of_lt hw.2);have HPT:=hid (fun W (hW:PSt W p cap n a L (qa6 s4))=>qnD p cap n a L (qa6 s4) W hW);clear hi1 HQ4 hw hk;generalize qdA L n (qa6 s4)=KS at HPT HSTEP hq HSR;have HKP:Hid (KS.1.bad≠0→R.1=KS.1):=hid (fun hb=>by
     rw[HR.out,hq,q2T hb,qo3 hb])
    have HQ1:=hid hq;clear hq;go_upto_region 6 with (go_at_call 67;(with_reducible refine(qbS HL.out.st HI1.out).mono ?_);rintro e w6 ⟨rfl,hs⟩;have HS6:=hid hs;clear hs);have HXB6:=hid (HXB.out.oth HS6.out.2.2 hXp);have HGB6:=hid (HGB.out.oth HS6.out.2.2 hGp);have HL6:=hid (LqS.step qbK HL.out hlt HS6.out.1 HS6.out.2 HWL.out);have HFEW:Hid (l.length+1+qeA L KS.1≤L.length+2):=hid (by have h1:=HL.out.few;have h2:=HSR.out;omega);have HIC:=hid (HPT.out w6.drew (HS6.out.1.below (qa0 w6)));clear HXB HGB HPT HS6 HI1 HL;have HXB:=HXB6;have HGB:=HGB6;have x1:=HXB.out.c 1 rfl;by_cases hkb:KS.1.bad≠0
    ·have HICN:=hid (qrP HIC.out hkb);have HKB:=hid hkb;have HKR:=hid (HKP.out hkb);clear HIC hkb HSTEP;refine wp_region_any (by kernel_rfl) ?_;refine wpAny_ready (rs:=[0,2]) (by kernel_rfl) (by simp) ?_;refine AllReady.cons rfl (fun K hK=>?_) ?_
     ·(go_simp;refine hK _ _ ?_;clear hK K)
      refine wpAny_ready (rs:=[1,2]) (by kernel_rfl) (by simp) ?_;refine AllReady.cons rfl (fun K hK=>?_) ?_
      ·(go_simp;refine hK _ _ ?_;clear hK K)
       refine wpAny_ready (rs:=[2]) (by kernel_rfl) (by simp) ?_;refine AllReady.cons rfl (fun K hK=>?_) ?_
       ·(go_simp;refine hK _ _ ?_;clear hK K)
        refine wpAny_ready (rs:=[3]) (by kernel_rfl) (by simp) ?_;refine AllReady.cons rfl (fun K hK=>?_) ?_
        ·(go_simp;(with_reducible refine HICN.out.mono ?_);rintro e w5 ⟨rfl,he5⟩;exact⟨rfl,.inr ⟨by rw[HKR.out];exact HKB.out,by rw[HKR.out];rfl⟩,HL6.out.eff.trans ((Eff.of_below (qa0 w6) HL6.out.st.lt).trans he5)⟩)
        exact AllReady.nil
       exact AllReady.nil
      refine AllReady.cons rfl (fun K hK=>?_) ?_
      ·(go_simp;refine hK _ _ ?_;clear hK K)
       refine wpAny_ready (rs:=[1,3]) (by kernel_rfl) (by simp) ?_;refine AllReady.cons rfl (fun K hK=>?_) ?_
       ·(go_simp;refine hK _ _ ?_;clear hK K)
        refine wpAny_ready (rs:=[3]) (by kernel_rfl) (by simp) ?_;refine AllReady.cons rfl (fun K hK=>?_) ?_
        ·(go_simp;(with_reducible refine HICN.out.mono ?_);rintro e w5 ⟨rfl,he5⟩;exact⟨rfl,.inr ⟨by rw[HKR.out];exact HKB.out,by rw[HKR.out];rfl⟩,HL6.out.eff.trans ((Eff.of_below (qa0 w6) HL6.out.st.lt).trans he5)⟩)
        exact AllReady.nil
       refine AllReady.cons rfl (fun K hK=>?_) ?_
       ·(go_simp;(with_reducible refine HICN.out.mono ?_);rintro e w5 ⟨rfl,he5⟩;exact⟨rfl,.inr ⟨by rw[HKR.out];exact HKB.out,by rw[HKR.out];rfl⟩,HL6.out.eff.trans ((Eff.of_below (qa0 w6) HL6.out.st.lt).trans he5)⟩)
       exact AllReady.nil
      exact AllReady.nil
     refine AllReady.cons rfl (fun K hK=>?_) ?_
     ·(go_simp;refine hK _ _ ?_;clear hK K)
      refine wpAny_ready (rs:=[0,3]) (by kernel_rfl) (by simp) ?_;refine AllReady.cons rfl (fun K hK=>?_) ?_
      ·(go_simp;refine hK _ _ ?_;clear hK K)
       refine wpAny_ready (rs:=[1,3]) (by kernel_rfl) (by simp) ?_;refine AllReady.cons rfl (fun K hK=>?_) ?_
       ·(go_simp;refine hK _ _ ?_;clear hK K)
        refine wpAny_ready (rs:=[3]) (by kernel_rfl) (by simp) ?_;refine AllReady.cons rfl (fun K hK=>?_) ?_
        ·(go_simp;(with_reducible refine HICN.out.mono ?_);rintro e w5 ⟨rfl,he5⟩;exact⟨rfl,.inr ⟨by rw[HKR.out];exact HKB.out,by rw[HKR.out];rfl⟩,HL6.out.eff.trans ((Eff.of_below (qa0 w6) HL6.out.st.lt).trans he5)⟩)
        exact AllReady.nil
       refine AllReady.cons rfl (fun K hK=>?_) ?_
       ·(go_simp;(with_reducible refine HICN.out.mono ?_);rintro e w5 ⟨rfl,he5⟩;exact⟨rfl,.inr ⟨by rw[HKR.out];exact HKB.out,by rw[HKR.out];rfl⟩,HL6.out.eff.trans ((Eff.of_below (qa0 w6) HL6.out.st.lt).trans he5)⟩)
       exact AllReady.nil
      refine AllReady.cons rfl (fun K hK=>?_) ?_
      ·(go_simp;(with_reducible refine HICN.out.mono ?_);rintro e w5 ⟨rfl,he5⟩;exact⟨rfl,.inr ⟨by rw[HKR.out];exact HKB.out,by rw[HKR.out];rfl⟩,HL6.out.eff.trans ((Eff.of_below (qa0 w6) HL6.out.st.lt).trans he5)⟩)
      exact AllReady.nil
     exact AllReady.nil
    have HICO:=hid (qrO HIC.out (Decidable.not_not.1 hkb));clear HIC hkb HKP
    go_region_law (first
      | (go_simp;go_at_call 74;(with_reducible refine HICO.out.mono ?_);rintro e w5 ⟨⟨⟨v5,rfl,hit⟩,hs1⟩,hs2⟩;obtain⟨ad5,m5,c5,rfl⟩:=qnI hit;have he5:Eff p w6 w5:=(Eff.of_below (qa0 w6) HL6.out.st.lt).trans hs2;have HIT:=hid (show Itm qdS w6.heap.size w5 [.string KS.2.tg,.slice ad5 m5 c5] KS.2 from hit);have HS5:=hid (show PSt w5 p cap n a L KS.1 from hs1);have HE5:=hid he5;have HL5:=hid (LqS.step qbK HL6.out hlt hs1 he5 HSTEP.out);have hb5:=HXB.out.oth he5.2 hXp;have y1:=hb5.c 1 rfl;have hb6:Below w5.heap.size w5 (w5.alloc (.cells [.string KS.2.tg,.slice ad5 m5 c5].toArray 95)):=(Below.refl w5.heap.size w5).alloc (Nat.le_refl _) _;have y1a:=(hb5.keep hb6 hb5.lt).c 1 rfl;have HXB5:=hid hb5;have HGB5:=hid (HGB.out.oth he5.2 hGp);clear hs1 hs2 he5 hb5 hb6 hit)
      | (refine step_append_lies _ rfl (.tmp 21) (.tmp 24) 38 rfl 0 95 i0 (.agg #[.string ⟨#[]⟩,.slice none 0 0]) 2 40 Tryz.underlying38 i0i i00 i01 i02 rfl (by decide) (.slice ad2 l.length cp2) l.length cs rfl (HL5.out.lst.row.alloc (.cells [.string KS.2.tg,.slice ad5 m5 c5].toArray 95)) ⟨w5.heap.size,0,none⟩ 1 1 [.string KS.2.tg,.slice ad5 m5 c5] rfl rfl (qc7 w5 [.string KS.2.tg,.slice ad5 m5 c5] 95) (HIT.out.one qbK) (by decide) (by first|decide|(have:=HL6.out.few;have:=HL6.out.st.len;unfold maxLen;omega)) (by first|decide|(have:=HL6.out.few;have:=HL6.out.st.len;omega)) (Nat.zero_le _) _ rfl ?_;intro g cp w7 hown hgrow hat hlt7;have hb6:Below w5.heap.size w5 (w5.alloc (.cells [.string KS.2.tg,.slice ad5 m5 c5].toArray 95)):=(Below.refl _ w5).alloc (Nat.le_refl _) _;have HL7:=hid (LqS.more qbK HL6.out hlt HIT.out HS5.out HE5.out hb6 rfl hown hgrow hat hlt7 HFEW.out);have hlow:=HL6.out.low HE5.out hb6 hgrow;have HX7:=hid (show Bx w7 X 44 [.string wd.2,.slice ad2 l.length cp2,.slice none 0 0,.slice none 0 0] from (hlow X (by omega)).trans HXB5.out);have HG7:=hid (show Bx w7 w.heap.size 44 zCh from (hlow _ (by omega)).trans HGB5.out);have d7:=HX7.out.c 1 rfl;have g7:=HX7.out.fz 1;clear hown hgrow hat hlt7 hb6 hlow))
    all_goals
     have hln:(l++[KS.2]).length=l.length+1:=by simp
     have HL8:Hid (LqS qdS 95 2 (X+1) w p cap n a L (w7.setCell ⟨X,1,none⟩ (.slice (some ⟨g,0,none⟩) (l.length+1) cp)) (.slice (some ⟨g,0,none⟩) (l++[KS.2]).length cp) KS.1 (l++[KS.2]) (cs++[.string KS.2.tg,.slice ad5 m5 c5])):=hid (by rw[hln];exact HL7.out.boxed qbK hlt (X:=X) (by omega) (by omega) 1 (.slice (some ⟨g,0,none⟩) (l.length+1) cp));have HX8:Hid (Bx (w7.setCell ⟨X,1,none⟩ (.slice (some ⟨g,0,none⟩) (l.length+1) cp)) X 44 [.string wd.2,.slice (some ⟨g,0,none⟩) (l++[KS.2]).length cp,.slice none 0 0,.slice none 0 0]):=hid (by rw[hln];exact HX7.out.set 1 (.slice (some ⟨g,0,none⟩) (l.length+1) cp));have HG8:=hid (HG7.out.other hGX 1 (.slice (some ⟨g,0,none⟩) (l.length+1) cp));clear HXB HGB HXB6 HGB6 HL6 HL7 HX7 HG7 HS5 HE5 HL5 HXB5 HGB5 HICO HSTEP HIT d7 g7 y1 y1a x1 hln;generalize w7.setCell ⟨X,1,none⟩ (.slice (some ⟨g,0,none⟩) (l.length+1) cp)=w8 at HL8 HX8 HG8 ⊢;go_wp2
     go_roundg f
     case measure=>exact Nat.lt_succ_self f
     case rel=>exact⟨KS.1,_,_,_,_,hid (by have:=HSR.out;have:=HG.out;omega),HQ1,HL8,HX8,HG8⟩
   | false =>
    have HI1:=hid hi1;have hCv:C=(s4,l):=by rw[HQ4.out];unfold qk0;rw[hi1,if_neg (by decide)]
    have hRv:R=qo4 L n wd.2 (s4,l):=by rw[HR.out,hCv]
    clear hi1 HQ4 hCv HR;go_upto_region 7 with (go_at_call 67;(with_reducible refine(qbD HL.out.st HI1.out).mono ?_);rintro e w4 ⟨rfl,hs⟩;have HS4:=hid hs;clear hs);have HL4:=hid (LqS.step qbK HL.out hlt HS4.out.1 HS4.out.2 (Nat.le_refl _));have HXB4:=hid (HXB.out.oth HS4.out.2.2 hXp);have HGB4:=hid (HGB.out.oth HS4.out.2.2 hGp);clear HXB HGB HS4 HL;cases hiw:isB L s4 ⟨#[119,104,101,110]⟩ with
    | true =>
     have HIW:=hid hiw;have hgs:qiX L n s4=qaY L n (qa6 s4):=by unfold qiX;rw[hiw,if_pos rfl]
     have hn4:=qfC hiw HL4.out.st.at_;have HN4:=hid (Nat.le_of_lt hn4.2);unfold qo4 at hRv;simp only at hRv;rw[hgs] at hRv;have HEX:=hid (fun W (hW:PSt W p cap n a L (qa6 s4))=>qjK p cap n a L (qa6 s4) W hW);generalize qaY L n (qa6 s4)=ge at HEX hRv;have HKG:Hid (ge.1.bad≠0→R.1=ge.1):=hid (fun hb=>by
      rw[hRv];exact qvZ hb)
     obtain⟨sb,go⟩:=ge;simp only at hRv HEX HKG;have HRW:=hid hRv;clear hiw hgs hn4 hRv;go_upto_region 8 with (go_at_call 67;(with_reducible refine(qbS HL4.out.st HIW.out).mono ?_);rintro e w5 ⟨rfl,hs⟩;have HL5:=hid (LqS.step qbK HL4.out hlt hs.1 hs.2 HN4.out);have HXB5:=hid (HXB4.out.oth hs.2.2 hXp);have HGB5:=hid (HGB4.out.oth hs.2.2 hGp);clear hs);have HEI:=hid (HEX.out _ HL5.out.st);go_upto_region 9 with (go_at_call 75;(with_reducible refine HEI.out.mono ?_);rintro e w6 ⟨hg,he⟩;have HE6:=hid he;clear he;replace hg:=Or.symm hg;rcases hg with ⟨hg,rfl⟩|⟨⟨v6,rfl,hit⟩,hg⟩ <;> first|(obtain⟨adg,mg,cg,rfl⟩:=qf0 hit;have HPG6:=hid (PgS.of HL5.out.lst hit HE6.out.2 (by omega) HL5.out.top);have HG6:=hid (show PSt w6 p cap n a L _ from hg);clear hg hit;have HXB6:=hid (HXB5.out.oth HE6.out.2 hXp);have y2:=HXB6.out.c 2 rfl;have f2:=HXB6.out.fz 2)|(have HG6:=hid hg;clear hg;try unfold qb0))
     ·rw[HKG.out HG6.out];exact⟨rfl,.inr ⟨HG6.out,rfl⟩,HL5.out.eff.trans HE6.out⟩
     have hwz:(w6.setCell ⟨X,2,none⟩ (.slice adg mg cg)).heap.size=w6.heap.size:=by simp
     have HXC:=hid (HXB6.out.set 2 (.slice adg mg cg));have HGC:=hid ((HGB5.out.oth HE6.out.2 hGp).other hGX 2 (.slice adg mg cg));have HPG0:Hid (PgS (w6.setCell ⟨X,2,none⟩ (.slice adg mg cg)) (X+1) (w6.setCell ⟨X,2,none⟩ (.slice adg mg cg)).heap.size (.slice ad2 l.length cp2) (.slice adg mg cg) l go):=hid (by rw[hwz];exact HPG6.out.keep (fun b hb1 hb2=>Below.heap_setCell _ _ _ _ (by show b≠X;omega)));have HSB:=hid (HG6.out.put (show p<X by omega) 2 (.slice adg mg cg));have HEB:=hid ((HL5.out.eff.trans HE6.out).mine hlt (Nat.le_of_lt hX1) 2 (.slice adg mg cg));have hRv:=HRW.out;clear hwz y2 f2 HPG6 HXB6 HG6 HE6 HXB5 HGB5 HL5 HXB4 HGB4 HL4 HEI HEX HKG HRW;generalize w6.setCell ⟨X,2,none⟩ (.slice adg mg cg)=wb at HXC HGC HPG0 HSB HEB ⊢;have HBD:=hid (qnG p cap n a L sb wb HSB.out);unfold qj9 at HBD;generalize qpX L n sb=bd at HBD hRv;have HRV:=hid hRv;have HSZ:=hid (HXC.out.lt);clear hRv;go_upto_region 10 with (go_at_call 76;(with_reducible refine HBD.out.mono ?_);rintro e w8 ⟨hg,he⟩;have HE8:=hid he;clear he;replace hg:=Or.symm hg;rcases hg with ⟨hg,rfl⟩|⟨⟨v,cs8,rfl,hl⟩,hg⟩ <;> first|(obtain⟨ad8,cp8,rfl⟩:=qeB hl;have HBL:=hid hl;have HG8:=hid (show PSt w8 p cap n a L _ from hg);clear hg hl;have HX8:=hid (HXC.out.oth HE8.out.2 hXp);have y3:=HX8.out.c 3 rfl;have f3:=HX8.out.fz 3)|(have HG8:=hid hg;clear hg;try unfold qb0))
     ·rw[HRV.out];exact⟨rfl,.inr ⟨HG8.out,rfl⟩,HEB.out.trans HE8.out⟩
     have hpg:=HPG0.out.keep (w1:=w8) (fun b hb1 hb2=>HE8.out.2.2 b hb2 (by omega));have hch:=PgS.chord (nm:=wd.2) hpg HBL.out (by have:=HSZ.out;omega) HE8.out.size;have HCH:=hid (hch.same (w':=w8.setCell ⟨X,3,none⟩ (.slice ad8 bd.2.length cp8)) qaM (fun b hb1 _=>Below.heap_setCell _ _ _ _ (by show b≠X;omega)) (by simp));have HX9:=hid (HX8.out.set 3 (.slice ad8 bd.2.length cp8));have HG9:=hid ((HGC.out.oth HE8.out.2 hGp).other hGX 3 (.slice ad8 bd.2.length cp8));have HS9:=hid (HG8.out.put (show p<X by omega) 3 (.slice ad8 bd.2.length cp8));have HE9:=hid ((HEB.out.trans HE8.out).mine hlt (Nat.le_of_lt hX1) 3 (.slice ad8 bd.2.length cp8));clear hpg hch HX8 HG8 HE8 HBL y3 f3 HXC HGC HPG0 HSB HEB HBD;generalize w8.setCell ⟨X,3,none⟩ (.slice ad8 bd.2.length cp8)=w9 at HCH HX9 HG9 HS9 HE9 ⊢;have x0:=HX9.out.c 0 rfl;have x1:=HX9.out.c 1 rfl;have x2:=HX9.out.c 2 rfl;have x3:=HX9.out.c 3 rfl;have r0:=HG9.out.c 0 rfl;have r1:=HG9.out.c 1 rfl;have r2:=HG9.out.c 2 rfl;have r3:=HG9.out.c 3 rfl;have z0:=HG9.out.fz 0;have z1:=HG9.out.fz 1;have z2:=HG9.out.fz 2;have z3:=HG9.out.fz 3;go_wp2;rw[HRV.out];have he:=qnW HCH.out HS9.out HE9.out hlt (by omega) rfl;exact bodyPost_ret (qmG rfl rfl (qi6 HG9.out)) rfl ⟨.inl he.1,he.2⟩
    | false =>
     have HIW:=hid hiw;have hgs:qiX L n s4=(s4,none):=by unfold qiX;rw[hiw,if_neg (by decide)]
     unfold qo4 at hRv;simp only at hRv;rw[hgs] at hRv;simp only at hRv;have HRW:=hid hRv;clear hiw hgs hRv;go_upto_region 9 with (go_at_call 67;(with_reducible refine(qbD HL4.out.st HIW.out).mono ?_);rintro e wb ⟨rfl,hs⟩;have HL5:=hid (LqS.step qbK HL4.out hlt hs.1 hs.2 (Nat.le_refl _));have HXC:=hid (HXB4.out.oth hs.2.2 hXp);have HGC:=hid (HGB4.out.oth hs.2.2 hGp);clear hs);have HPG0:Hid (PgS wb (X+1) wb.heap.size (.slice ad2 l.length cp2) (.slice none 0 0) l none):=hid (PgS.of HL5.out.lst (qpO _ _) ⟨Nat.le_refl _,fun _ _ _=>rfl⟩ (show p<X+1 by omega) HL5.out.top);have HSB:=hid HL5.out.st;have HEB:=hid HL5.out.eff;have hRv:=HRW.out;clear HL5 HXB4 HGB4 HL4 HRW;obtain⟨sb,hsb⟩:∃ sb,sb=s4:=⟨_,rfl⟩
     subst hsb;have HBD:=hid (qnG p cap n a L sb wb HSB.out);unfold qj9 at HBD;generalize qpX L n sb=bd at HBD hRv;have HRV:=hid hRv;have HSZ:=hid (HXC.out.lt);clear hRv;go_upto_region 10 with (go_at_call 76;(with_reducible refine HBD.out.mono ?_);rintro e w8 ⟨hg,he⟩;have HE8:=hid he;clear he;replace hg:=Or.symm hg;rcases hg with ⟨hg,rfl⟩|⟨⟨v,cs8,rfl,hl⟩,hg⟩ <;> first|(obtain⟨ad8,cp8,rfl⟩:=qeB hl;have HBL:=hid hl;have HG8:=hid (show PSt w8 p cap n a L _ from hg);clear hg hl;have HX8:=hid (HXC.out.oth HE8.out.2 hXp);have y3:=HX8.out.c 3 rfl;have f3:=HX8.out.fz 3)|(have HG8:=hid hg;clear hg;try unfold qb0))
     ·rw[HRV.out];exact⟨rfl,.inr ⟨HG8.out,rfl⟩,HEB.out.trans HE8.out⟩
     have hpg:=HPG0.out.keep (w1:=w8) (fun b hb1 hb2=>HE8.out.2.2 b hb2 (by omega));have hch:=PgS.chord (nm:=wd.2) hpg HBL.out (by have:=HSZ.out;omega) HE8.out.size;have HCH:=hid (hch.same (w':=w8.setCell ⟨X,3,none⟩ (.slice ad8 bd.2.length cp8)) qaM (fun b hb1 _=>Below.heap_setCell _ _ _ _ (by show b≠X;omega)) (by simp));have HX9:=hid (HX8.out.set 3 (.slice ad8 bd.2.length cp8));have HG9:=hid ((HGC.out.oth HE8.out.2 hGp).other hGX 3 (.slice ad8 bd.2.length cp8));have HS9:=hid (HG8.out.put (show p<X by omega) 3 (.slice ad8 bd.2.length cp8));have HE9:=hid ((HEB.out.trans HE8.out).mine hlt (Nat.le_of_lt hX1) 3 (.slice ad8 bd.2.length cp8));clear hpg hch HX8 HG8 HE8 HBL y3 f3 HXC HGC HPG0 HSB HEB HBD;generalize w8.setCell ⟨X,3,none⟩ (.slice ad8 bd.2.length cp8)=w9 at HCH HX9 HG9 HS9 HE9 ⊢;have x0:=HX9.out.c 0 rfl;have x1:=HX9.out.c 1 rfl;have x2:=HX9.out.c 2 rfl;have x3:=HX9.out.c 3 rfl;have r0:=HG9.out.c 0 rfl;have r1:=HG9.out.c 1 rfl;have r2:=HG9.out.c 2 rfl;have r3:=HG9.out.c 3 rfl;have z0:=HG9.out.fz 0;have z1:=HG9.out.fz 1;have z2:=HG9.out.fz 2;have z3:=HG9.out.fz 3;go_wp2;rw[HRV.out];have he:=qnW HCH.out HS9.out HE9.out hlt (by omega) rfl;exact bodyPost_ret (qmG rfl rfl (qi6 HG9.out)) rfl ⟨.inl he.1,he.2⟩
end Go.Proofs.YtenlhcgpajphhaaGreatDoor
