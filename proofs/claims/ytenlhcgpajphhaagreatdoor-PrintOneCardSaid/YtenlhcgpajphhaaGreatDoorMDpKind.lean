import Derived.Test.YtenlhcgpajphhaaGreatDoorDpChord
import Derived.Deep.QuietTactic
import Derived.BigQuiet
namespace Go.Proofs.YtenlhcgpajphhaaGreatDoor
open Go.RowKit Go.Shelf
open Lib(hid)
set_option maxRecDepth 100000
set_option linter.all false
set_option maxHeartbeats 16000000
theorem q1T:(Tryz.prog.info? 44).map (fun i=>(i.zero,i.size,i.bytes))=some (some (.agg #[.string ⟨#[]⟩,.slice none 0 0,.slice none 0 0,.slice none 0 0]),4,88):=by kernel_rfl
theorem qvD {nm:ByteArray} {lo:Nat} {w:World} {v:Value} {l:List ChordE} {cs:List Value} (h:Lst qbB 44 4 lo w v l cs):Itm qfI lo w [.string nm,v] ⟨nm,l⟩:=by
 obtain⟨F,h1,h2⟩:=h;exact⟨F,⟨v,cs,rfl,h1⟩,h2⟩
theorem q4Z {fn:Func} {p:Tmp} {tmps:Array Value} {W:World} {g:Nat} {u v:Value} (hf:fn.results=#[.cell p 69]) (hp:tmps.getD p undef=.pointer (some ⟨g,0,none⟩)) (h:Bx W g 69 [u,v]) :
  (results fn tmps).run Tryz.prog W=.ok (.agg #[u,v]) W:=results_cell_row hf _ _ g 69 _ (0,0) _ hp h Tryz.underlying69 rfl (by kernel_rfl)
abbrev jd9 (w:World) (x:KindE) (e:Ending) (w':World):Prop:=∃ v,e=.returned (.agg #[.string x.nm,v])∧Itm qfI w.heap.size w' [.string x.nm,v] x
noncomputable def qkJ (L:List TokE) (n:Nat) (s:S8):S8 × KindE :=
 ((upS L (qbP L n) (qaX L) (qa7 L n (qaV L n s).1 ⟨#[123]⟩) []).1,⟨(qaV L n s).2,(upS L (qbP L n) (qaX L) (qa7 L n (qaV L n s).1 ⟨#[123]⟩) []).2⟩)
theorem qxH (p cap n:Nat) (a:Option Addr) (L:List TokE) (s:S8) (w:World) (h:PSt w p cap n a L s) :
  Calls Tryz.prog 70 #[.pointer (some ⟨p,0,none⟩)] w (Go8 p cap n a L (qkJ L n s).1 (jd9 w (qkJ L n s).2) w):=by
 obtain⟨i0,i0i,i00,i01,i02⟩:=qaN q1T;obtain⟨W0,hW0,hx0,hb0⟩:∃ W0,W0=w.alloc (.cells #[.string ⟨#[]⟩,.slice none 0 0] 69)∧Bx W0 w.heap.size 69 [.string ⟨#[]⟩,.slice none 0 0]∧Below w.heap.size w W0:=⟨_,rfl,Bx.new w 69 [.string ⟨#[]⟩,.slice none 0 0],(Below.refl _ w).alloc (Nat.le_refl _) _⟩
 have HZ:Hid (W0.heap.size=w.heap.size+1):=hid (by rw[hW0];simp);have hlt:=h.lt;have hst:=h.below hb0;have HWD:=hid (qd9 p cap n a L s W0 hst);have HE0:=hid (Eff.of_below hb0 hlt);have HW0:=hid hW0;have HG0:=hid hx0;obtain⟨R,hR⟩:∃ R,R=qkJ L n s:=⟨_,rfl⟩
 rw[← hR];unfold Go8;unfold qkJ at hR;generalize qaV L n s=wd at hR HWD;have HWO:=hid (fun W (hW:PSt W p cap n a L wd.1)=>qaW p cap n a L wd.1 ⟨#[123]⟩ W hW);have k1:wd.1.bad≠0→qa7 L n wd.1 ⟨#[123]⟩=wd.1:=fun hb=>qdN hb _;generalize qa7 L n wd.1 ⟨#[123]⟩=s2 at hR HWO k1;obtain⟨D,hD⟩:∃ D,D=upS L (qbP L n) (qaX L) s2 []:=⟨_,rfl⟩
 rw[← hD] at hR;have HK2:Hid (s2.bad≠0→R.1=s2):=hid (fun hb=>by rw[hR,hD,qfJ hb]);have HKW:Hid (wd.1.bad≠0→R.1=wd.1):=hid (fun hb=>by
  have e:=k1 hb;rw[HK2.out (by rw[e];exact hb),e])
 have HDD:=hid hD;have HR:=hid hR;have HF0:=hid (qgT L s2);have hGp:w.heap.size≠p:=by omega
 clear h hst hW0 hx0 hb0 hR hD k1;go_enter Tryz.func70,Tryz.ntmps70;go_upto_region 1 with (fail);rw[← HW0.out];go_upto_region 2 with (go_at_call 73;(with_reducible refine(HWD.out).mono ?_);rintro e w1 ⟨hg,he⟩;have HE1:=hid he;clear he;replace hg:=Or.symm hg;rcases hg with ⟨hg,rfl⟩|⟨rfl,hg⟩ <;> first|(have HG1:=hid (show PSt w1 p cap n a L _ from hg);clear hg)|(have HG1:=hid hg;clear hg;try unfold qb0))
 ·rw[HKW.out HG1.out];exact⟨rfl,.inr ⟨HG1.out,rfl⟩,HE0.out.trans HE1.out⟩
 obtain⟨W1,hW1⟩:∃ W1,W1=w1.alloc (.cells #[.string wd.2,.slice none 0 0] 69):=⟨_,rfl⟩
 have hb1:Below w1.heap.size w1 W1:=by rw[hW1];exact(Below.refl _ w1).alloc (Nat.le_refl _) _
 have hX1:w.heap.size<w1.heap.size:=by have:=HE1.out.size;have:=HZ.out;omega
 have HX1:=hid (show Bx W1 w1.heap.size 69 [.string wd.2,.slice none 0 0] by rw[hW1];exact Bx.new w1 _ _);have HGA:=hid ((HG0.out.oth HE1.out.2 hGp).keep hb1 hX1);have HST1:=hid (HG1.out.below hb1);have HEA:=hid ((HE0.out.trans HE1.out).trans (Eff.of_below hb1 HG1.out.lt));rw[← hW1];generalize w1.heap.size=X at HX1 hX1 ⊢;have hXp:X≠p:=by omega
 have hGX:w.heap.size≠X:=by omega
 clear hW1 hb1 HG1 HE0 HE1 HG0 HWD HKW;go_upto_region 3 with (go_at_call 69;(with_reducible refine(HWO.out W1 HST1.out).mono ?_);rintro e w3 ⟨hg,he⟩;have HE3:=hid he;clear he;replace hg:=Or.symm hg;rcases hg with ⟨hg,rfl⟩|⟨rfl,hg⟩ <;> first|(have HG3:=hid (show PSt w3 p cap n a L _ from hg);clear hg)|(have HG3:=hid hg;clear hg;try unfold qb0))
 ·rw[HK2.out HG3.out];exact⟨rfl,.inr ⟨HG3.out,rfl⟩,HEA.out.trans HE3.out⟩
 have HXB:=hid (HX1.out.oth HE3.out.2 hXp);have HGB:=hid (HGA.out.oth HE3.out.2 hGp);have HL3:Hid (LqS qbB 44 4 (X+1) w p cap n a L w3 (.slice none 0 0) s2 [] []):=hid ⟨Lst.nil _ _ _ _ _,HG3.out,HEA.out.trans HE3.out,by have:=HF0.out;unfold qaX at this;show 0+_≤_;omega,by omega,by have:=HXB.out.lt;omega⟩;clear HX1 HGA HST1 HEA HG3 HE3 HWO HK2
 go_loopg [] (qaX L) (fun gk wr=>∃ (s4:S8) (l:List ChordE) (cs:List Value) (ad2:Option Addr) (cp2:Nat),Hid (qeA L s4<gk)∧Hid (D=upS L (qbP L n) gk s4 l)∧Hid (LqS qbB 44 4 (X+1) w p cap n a L wr (.slice ad2 l.length cp2) s4 l cs)∧Hid (Bx wr X 69 [.string wd.2,.slice ad2 l.length cp2])∧Hid (Bx wr w.heap.size 69 [.string ⟨#[]⟩,.slice none 0 0]))
 case atStart=>exact⟨s2,[],[],none,0,HF0,HDD,HL3,HXB,HGB⟩
 case round =>
  obtain⟨s4,l,cs,ad2,cp2,HG,HQ4,HL,HXB,HGB⟩:=hrel;clear HDD HL3 HF0;obtain⟨f,rfl⟩:∃ f,gk=f+1:=⟨gk-1,by have:=HG.out;omega⟩
  cases hi1:isB L s4 ⟨#[125]⟩ with
  | true =>
   have HI1:=hid hi1;have hDv:D=(qa6 s4,l):=by rw[HQ4.out,q68 HL.out.st.ok hi1]
   have HRV:Hid (R=(qa6 s4,⟨wd.2,l⟩)):=hid (by rw[HR.out,hDv]);have HLT:=hid (qfC hi1 HL.out.st.at_);clear hi1 HQ4 hDv HR;go_upto_region 5 with (go_at_call 67;(with_reducible refine(qbS HL.out.st HI1.out).mono ?_);rintro e w6 ⟨rfl,hs⟩;have HS6:=hid hs;clear hs);have HX9:=hid (HXB.out.oth HS6.out.2.2 hXp);have HB9:=hid (HGB.out.oth HS6.out.2.2 hGp);have HL9:=hid (HL.out.lst.keep qaM HS6.out.2.2 (by omega));have HE9:=hid (HL.out.eff.trans HS6.out.2);have x0:=HX9.out.c 0 rfl;have x1:=HX9.out.c 1 rfl;have r0:=HB9.out.c 0 rfl;have r1:=HB9.out.c 1 rfl;have z0:=HB9.out.fz 0;have z1:=HB9.out.fz 1;clear HXB HGB HL;go_wp2;rw[HRV.out];refine bodyPost_ret (q4Z rfl rfl ((HB9.out.set 0 _).set 1 _)) rfl ⟨.inl ⟨⟨_,rfl,?_⟩,(HS6.out.1.put (show p<w.heap.size by omega) 0 _).put (show p<w.heap.size by omega) 1 _⟩,(HE9.out.mine hlt (Nat.le_refl _) _ _).mine hlt (Nat.le_refl _) _ _⟩;exact((qvD HL9.out).same qdY (fun b hb1 hb2=>(Below.heap_setCell _ _ _ _ (by show b≠w.heap.size;omega)).trans (Below.heap_setCell _ _ _ _ (by show b≠w.heap.size;omega))) (by simp)).wide (by omega)
  | false =>
   have HI1:=hid hi1;have hq:D=upS L (qbP L n) f (qbP L n s4).1 (l++[(qbP L n s4).2]):=by rw[HQ4.out,qsE HL.out.st.ok hi1]
   have hk:=q5O (L:=L) (n:=n) HL.out.st.ok HL.out.st.at_;have HSR:Hid (qeA L (qbP L n s4).1+1≤qeA L s4):=hid (Nat.succ_le_of_lt hk.2);have HSTEP:=hid (Nat.le_of_lt hk.2);have HPT:=hid (fun W (hW:PSt W p cap n a L s4)=>qlR p cap n a L s4 W hW);clear hi1 HQ4 hk;generalize qbP L n s4=KS at HPT HSTEP hq HSR;have HKP:Hid (KS.1.bad≠0→R.1=KS.1):=hid (fun hb=>by rw[HR.out,hq,qfJ hb]);have HQ1:=hid hq;clear hq;go_upto_region 4 with (go_at_call 67;(with_reducible refine(qbD HL.out.st HI1.out).mono ?_);rintro e w6 ⟨rfl,hs⟩;have HS6:=hid hs;clear hs);have HXB6:=hid (HXB.out.oth HS6.out.2.2 hXp);have HGB6:=hid (HGB.out.oth HS6.out.2.2 hGp);have HL6:=hid (LqS.step qaM HL.out hlt HS6.out.1 HS6.out.2 (Nat.le_refl _));have HFEW:Hid (l.length+1+qeA L KS.1≤L.length+2):=hid (by have h1:=HL.out.few;have h2:=HSR.out;omega);have HIC:=hid (HPT.out w6.drew (HS6.out.1.below (qa0 w6)));clear HXB HGB HPT HS6 HI1 HL;have HXB:=HXB6;have HGB:=HGB6;have x1:=HXB.out.c 1 rfl;by_cases hkb:KS.1.bad≠0
   ·have HICN:=hid (qrP HIC.out hkb);have HKB:=hid hkb;have HKR:=hid (HKP.out hkb);clear HIC hkb HSTEP;refine wp_region_any (by kernel_rfl) ?_;refine wpAny_ready (rs:=[0,2]) (by kernel_rfl) (by simp) ?_;refine AllReady.cons rfl (fun K hK=>?_) ?_
    ·(go_simp;refine hK _ _ ?_;clear hK K)
     refine wpAny_ready (rs:=[1,2]) (by kernel_rfl) (by simp) ?_;refine AllReady.cons rfl (fun K hK=>?_) ?_
     ·(go_simp;refine hK _ _ ?_;clear hK K)
      refine wpAny_ready (rs:=[2]) (by kernel_rfl) (by simp) ?_;refine AllReady.cons rfl (fun K hK=>?_) ?_
      ·(go_simp;refine hK _ _ ?_;clear hK K)
       refine wpAny_ready (rs:=[3]) (by kernel_rfl) (by simp) ?_;refine AllReady.cons rfl (fun K hK=>?_) ?_
       ·(go_simp;(with_reducible refine HICN.out.mono ?_);rintro e w5 ⟨rfl,he5⟩;exact⟨rfl,.inr ⟨by rw[HKR.out];exact HKB.out,by rw[HKR.out];rfl⟩,HL6.out.eff.trans ((Eff.of_below (qa0 w6) HL6.out.st.lt).trans he5)⟩)
       exact AllReady.nil
      exact AllReady.nil
     refine AllReady.cons rfl (fun K hK=>?_) ?_
     ·(go_simp;refine hK _ _ ?_;clear hK K)
      refine wpAny_ready (rs:=[1,3]) (by kernel_rfl) (by simp) ?_;refine AllReady.cons rfl (fun K hK=>?_) ?_
      ·(go_simp;refine hK _ _ ?_;clear hK K)
       refine wpAny_ready (rs:=[3]) (by kernel_rfl) (by simp) ?_;refine AllReady.cons rfl (fun K hK=>?_) ?_
       ·(go_simp;(with_reducible refine HICN.out.mono ?_);rintro e w5 ⟨rfl,he5⟩;exact⟨rfl,.inr ⟨by rw[HKR.out];exact HKB.out,by rw[HKR.out];rfl⟩,HL6.out.eff.trans ((Eff.of_below (qa0 w6) HL6.out.st.lt).trans he5)⟩)
       exact AllReady.nil
      refine AllReady.cons rfl (fun K hK=>?_) ?_
      ·(go_simp;(with_reducible refine HICN.out.mono ?_);rintro e w5 ⟨rfl,he5⟩;exact⟨rfl,.inr ⟨by rw[HKR.out];exact HKB.out,by rw[HKR.out];rfl⟩,HL6.out.eff.trans ((Eff.of_below (qa0 w6) HL6.out.st.lt).trans he5)⟩)
      exact AllReady.nil
     exact AllReady.nil
    refine AllReady.cons rfl (fun K hK=>?_) ?_
    ·(go_simp;refine hK _ _ ?_;clear hK K)
     refine wpAny_ready (rs:=[0,3]) (by kernel_rfl) (by simp) ?_;refine AllReady.cons rfl (fun K hK=>?_) ?_
     ·(go_simp;refine hK _ _ ?_;clear hK K)
      refine wpAny_ready (rs:=[1,3]) (by kernel_rfl) (by simp) ?_;refine AllReady.cons rfl (fun K hK=>?_) ?_
      ·(go_simp;refine hK _ _ ?_;clear hK K)
       refine wpAny_ready (rs:=[3]) (by kernel_rfl) (by simp) ?_;refine AllReady.cons rfl (fun K hK=>?_) ?_
       ·(go_simp;(with_reducible refine HICN.out.mono ?_);rintro e w5 ⟨rfl,he5⟩;exact⟨rfl,.inr ⟨by rw[HKR.out];exact HKB.out,by rw[HKR.out];rfl⟩,HL6.out.eff.trans ((Eff.of_below (qa0 w6) HL6.out.st.lt).trans he5)⟩)
       exact AllReady.nil
      refine AllReady.cons rfl (fun K hK=>?_) ?_
      ·(go_simp;(with_reducible refine HICN.out.mono ?_);rintro e w5 ⟨rfl,he5⟩;exact⟨rfl,.inr ⟨by rw[HKR.out];exact HKB.out,by rw[HKR.out];rfl⟩,HL6.out.eff.trans ((Eff.of_below (qa0 w6) HL6.out.st.lt).trans he5)⟩)
      exact AllReady.nil
     refine AllReady.cons rfl (fun K hK=>?_) ?_
     ·(go_simp;(with_reducible refine HICN.out.mono ?_);rintro e w5 ⟨rfl,he5⟩;exact⟨rfl,.inr ⟨by rw[HKR.out];exact HKB.out,by rw[HKR.out];rfl⟩,HL6.out.eff.trans ((Eff.of_below (qa0 w6) HL6.out.st.lt).trans he5)⟩)
     exact AllReady.nil
    exact AllReady.nil
   have HICO:=hid (qrO HIC.out (Decidable.not_not.1 hkb));clear HIC hkb HKP
   go_region_law (first
     | (go_simp;go_at_call 44;(with_reducible refine HICO.out.mono ?_);rintro e w5 ⟨⟨⟨pv,gv,bv,rfl,hit⟩,hs1⟩,hs2⟩;obtain⟨⟨a1,m1,c1,rfl⟩,⟨a2,m2,c2,rfl⟩,⟨a3,m3,c3,rfl⟩⟩:=qhJ hit;have he5:Eff p w6 w5:=(Eff.of_below (qa0 w6) HL6.out.st.lt).trans hs2;have HIT:=hid (show Itm qbB w6.heap.size w5 [.string KS.2.nm,.slice a1 m1 c1,.slice a2 m2 c2,.slice a3 m3 c3] KS.2 from hit);have HS5:=hid (show PSt w5 p cap n a L KS.1 from hs1);have HE5:=hid he5;have HL5:=hid (LqS.step qaM HL6.out hlt hs1 he5 HSTEP.out);have hb5:=HXB.out.oth he5.2 hXp;have y1:=hb5.c 1 rfl;have hb6:Below w5.heap.size w5 (w5.alloc (.cells [.string KS.2.nm,.slice a1 m1 c1,.slice a2 m2 c2,.slice a3 m3 c3].toArray 44)):=(Below.refl w5.heap.size w5).alloc (Nat.le_refl _) _;have y1a:=(hb5.keep hb6 hb5.lt).c 1 rfl;have HXB5:=hid hb5;have HGB5:=hid (HGB.out.oth he5.2 hGp);clear hs1 hs2 he5 hb5 hb6 hit)
     | (refine step_append_lies _ rfl (.tmp 13) (.tmp 16) 67 rfl 0 44 i0 (.agg #[.string ⟨#[]⟩,.slice none 0 0,.slice none 0 0,.slice none 0 0]) 4 88 Tryz.underlying67 i0i i00 i01 i02 rfl (by decide) (.slice ad2 l.length cp2) l.length cs rfl (HL5.out.lst.row.alloc (.cells [.string KS.2.nm,.slice a1 m1 c1,.slice a2 m2 c2,.slice a3 m3 c3].toArray 44)) ⟨w5.heap.size,0,none⟩ 1 1 [.string KS.2.nm,.slice a1 m1 c1,.slice a2 m2 c2,.slice a3 m3 c3] rfl rfl (qc7 w5 [.string KS.2.nm,.slice a1 m1 c1,.slice a2 m2 c2,.slice a3 m3 c3] 44) (HIT.out.one qaM) (by decide) (by first|decide|(have:=HL6.out.few;have:=HL6.out.st.len;unfold maxLen;omega)) (by first|decide|(have:=HL6.out.few;have:=HL6.out.st.len;omega)) (Nat.zero_le _) _ rfl ?_;intro g cp w7 hown hgrow hat hlt7;have hb6:Below w5.heap.size w5 (w5.alloc (.cells [.string KS.2.nm,.slice a1 m1 c1,.slice a2 m2 c2,.slice a3 m3 c3].toArray 44)):=(Below.refl _ w5).alloc (Nat.le_refl _) _;have HL7:=hid (LqS.more qaM HL6.out hlt HIT.out HS5.out HE5.out hb6 rfl hown hgrow hat hlt7 HFEW.out);have hlow:=HL6.out.low HE5.out hb6 hgrow;have HX7:=hid (show Bx w7 X 69 [.string wd.2,.slice ad2 l.length cp2] from (hlow X (by omega)).trans HXB5.out);have HG7:=hid (show Bx w7 w.heap.size 69 [.string ⟨#[]⟩,.slice none 0 0] from (hlow _ (by omega)).trans HGB5.out);have d7:=HX7.out.c 1 rfl;have g7:=HX7.out.fz 1;clear hown hgrow hat hlt7 hb6 hlow))
   all_goals
    have hln:(l++[KS.2]).length=l.length+1:=by simp
    have HL8:Hid (LqS qbB 44 4 (X+1) w p cap n a L (w7.setCell ⟨X,1,none⟩ (.slice (some ⟨g,0,none⟩) (l.length+1) cp)) (.slice (some ⟨g,0,none⟩) (l++[KS.2]).length cp) KS.1 (l++[KS.2]) (cs++[.string KS.2.nm,.slice a1 m1 c1,.slice a2 m2 c2,.slice a3 m3 c3])):=hid (by rw[hln];exact HL7.out.boxed qaM hlt (X:=X) (by omega) (by omega) 1 (.slice (some ⟨g,0,none⟩) (l.length+1) cp));have HX8:Hid (Bx (w7.setCell ⟨X,1,none⟩ (.slice (some ⟨g,0,none⟩) (l.length+1) cp)) X 69 [.string wd.2,.slice (some ⟨g,0,none⟩) (l++[KS.2]).length cp]):=hid (by rw[hln];exact HX7.out.set 1 (.slice (some ⟨g,0,none⟩) (l.length+1) cp));have HG8:=hid (HG7.out.other hGX 1 (.slice (some ⟨g,0,none⟩) (l.length+1) cp));clear HXB HGB HXB6 HGB6 HL6 HL7 HX7 HG7 HS5 HE5 HL5 HXB5 HGB5 HICO HSTEP HIT d7 g7 y1 y1a x1 hln;generalize w7.setCell ⟨X,1,none⟩ (.slice (some ⟨g,0,none⟩) (l.length+1) cp)=w8 at HL8 HX8 HG8 ⊢;go_wp2
    go_roundg f
    case measure=>exact Nat.lt_succ_self f
    case rel=>exact⟨KS.1,_,_,_,_,hid (by have:=HSR.out;have:=HG.out;omega),HQ1,HL8,HX8,HG8⟩
theorem q1Q:(Tryz.prog.info? 78).map (fun i=>(i.zero,i.size,i.bytes))=some (some (.agg #[.string ⟨#[]⟩,.slice none 0 0]),2,40):=by kernel_rfl
theorem q1S:(Tryz.prog.info? 69).map (fun i=>(i.zero,i.size,i.bytes))=some (some (.agg #[.string ⟨#[]⟩,.slice none 0 0]),2,40):=by kernel_rfl
theorem qzF {lo:Nat} {w:World} {t:ByteArray} {v:Value} {x:TagE} (h:Itm qk7 lo w [.string t,v] x):∃ ad m c,v=.slice ad m c:=by
 obtain⟨F,⟨v',d,hc,hl⟩,_⟩:=h;cases hc;rcases hl.row.2 with ⟨rfl,_⟩|⟨g,cap,cur,rfl,_⟩
 ·exact⟨_,_,_,rfl⟩
 ·exact⟨_,_,_,rfl⟩
theorem qxO {lo:Nat} {w:World} {t:ByteArray} {v:Value} {x:KindE} (h:Itm qfI lo w [.string t,v] x):∃ ad m c,v=.slice ad m c:=by
 obtain⟨F,⟨v',d,hc,hl⟩,_⟩:=h;cases hc;rcases hl.row.2 with ⟨rfl,_⟩|⟨g,cap,cur,rfl,_⟩
 ·exact⟨_,_,_,rfl⟩
 ·exact⟨_,_,_,rfl⟩
theorem Good.swap {F G:List Nat} {lo:Nat} {w:World} (h:Good (F++G) lo w):Good (G++F) lo w :=
 ⟨by
  have h1:=List.nodup_append.1 h.uniq;exact List.nodup_append.2 ⟨h1.2.1,h1.1,fun a ha b hb e=>h1.2.2 b hb a ha e.symm⟩,fun b hb=>h.lies b (by rw[List.mem_append] at hb ⊢;exact hb.symm)⟩
theorem qu5 {α β:Type} {E:Shp α} {E2:Shp β} {T T2:TypeId} {s s2 lo:Nat} {F G:List Nat} {w1 w5 w6 w7:World} {p g cap n:Nat} {v v2:Value} {xs:List α} {ys:List β} {c c1 c2:List Value} {x:α} (ke:KE E s) (ke2:KE E2 s2)
  (hl:ListV E T s w1 F v xs c) (hl2:ListV E2 T2 s2 w1 G v2 ys c2) (hg:Good (F++G) lo w1) (ho:Oth p w1 w5) (hp:p<lo) (hlo:lo≤w1.heap.size) (hx:Itm E w1.heap.size w5 c1 x)
  (h6:Below w5.heap.size w5 w6) (hn:n=xs.length) (hown:w7.ownsRow 0 T s (.slice (some ⟨g,0,none⟩) (n+1) cap) (n+1) (c++c1)) (hgrow:w6.grownBy w7 v.ownBlock) (hat:v.ownBlock=some g∨g=w6.heap.size) (hlt:g<w7.heap.size) :
  ∃ F',ListV E T s w7 F' (.slice (some ⟨g,0,none⟩) (n+1) cap) (xs++[x]) (c++c1)∧ListV E2 T2 s2 w7 G v2 ys c2∧Good (F'++G) lo w7:=by
 subst hn;obtain⟨F2,rfl,he⟩:=hl.els;obtain⟨F1,hx1,hg1⟩:=hx;have hs15:=ho.1;have hs56:=h6.size;have hs67:=hgrow.size;have hnodA:=List.nodup_append.1 hg.uniq;have hnod:=List.nodup_append.1 hnodA.1;have hkeep:∀ b,b<w5.heap.size→v.ownBlock≠some b→w7.heap[b]?=w5.heap[b]?:=fun b hb hne=>(hgrow.block b (by omega) (fun e=>hne e.symm)).trans (h6.block b hb);have hF2:qg8 F2 w1 w7:=fun b hb=>by
  have hb1:=hg.lies b (List.mem_append_left _ (List.mem_append_right _ hb));refine(hkeep b (by omega) (fun e=>?_)).trans (ho.2 b hb1.2 (by omega));exact hnod.2.2 b (by rw[e];simp) b hb rfl
 have hG:qg8 G w1 w7:=fun b hb=>by
  have hb1:=hg.lies b (List.mem_append_right _ hb);refine(hkeep b (by omega) (fun e=>?_)).trans (ho.2 b hb1.2 (by omega));exact hnodA.2.2 b (List.mem_append_left _ (by rw[e];simp)) b hb rfl
 have hF1:qg8 F1 w5 w7:=fun b hb=>by
  have hb1:=hg1.lies b hb;refine hkeep b hb1.2 (fun e=>?_);have:=hg.lies b (List.mem_append_left _ (List.mem_append_left _ (by rw[e];simp)));omega
 have hgg:lo≤g∧(g<w1.heap.size∧v.ownBlock=some g∨w5.heap.size≤g):=by
  rcases hat with h|h
  ·have:=hg.lies g (List.mem_append_left _ (List.mem_append_left _ (by rw[h];simp)));exact⟨this.1,.inl ⟨this.2,h⟩⟩
  ·exact⟨by omega,.inr (by omega)⟩
 refine⟨[g]++(F2++F1),⟨by rw[List.length_append];exact hown,F2++F1,rfl,(he.keep ke hF2).snoc (ke.keep hx1 hF1)⟩,hl2.keep ke2 hG,?_,?_⟩
 ·refine List.nodup_append.2 ⟨List.nodup_append.2 ⟨by simp,List.nodup_append.2 ⟨hnod.2.1,hg1.uniq,fun a ha b hb e=>?_⟩,fun a ha b hb e=>?_⟩,hnodA.2.1,fun a ha b hb e=>?_⟩
  ·subst e;have:=hg.lies a (List.mem_append_left _ (List.mem_append_right _ ha));have:=hg1.lies a hb;omega
  ·simp at ha;subst ha;subst e;rcases List.mem_append.1 hb with hb|hb
   ·have h1:=hg.lies a (List.mem_append_left _ (List.mem_append_right _ hb));rcases hgg.2 with ⟨_,h⟩|h
    ·exact hnod.2.2 a (by rw[h];simp) a hb rfl
    ·omega
   ·have h1:=hg1.lies a hb;rcases hgg.2 with ⟨h,_⟩|h <;> omega
  ·subst e;have h1:=hg.lies a (List.mem_append_right _ hb);rcases List.mem_append.1 ha with ha|ha
   ·simp at ha;subst ha;rcases hgg.2 with ⟨_,h⟩|h
    ·exact hnodA.2.2 a (List.mem_append_left _ (by rw[h];simp)) a hb rfl
    ·omega
   ·rcases List.mem_append.1 ha with ha|ha
    ·exact hnodA.2.2 a (List.mem_append_right _ ha) a hb rfl
    ·have:=hg1.lies a ha;omega
 ·intro b hb;rcases List.mem_append.1 hb with hb|hb
  ·rcases List.mem_append.1 hb with hb|hb
   ·simp at hb;subst hb;exact⟨hgg.1,hlt⟩
   ·rcases List.mem_append.1 hb with hb|hb
    ·have:=hg.lies b (List.mem_append_left _ (List.mem_append_right _ hb));omega
    ·have:=hg1.lies b hb;omega
  ·have:=hg.lies b (List.mem_append_right _ hb);omega
structure PrS (lo:Nat) (w:World) (p cap n:Nat) (a:Option Addr) (L:List TokE) (wr:World) (tv kv:Value) (s:S8) (P:ProgE) (ct ck:List Value):Prop where
 two:∃ F1 F2,ListV qk7 78 2 wr F1 tv P.tags ct∧ListV qfI 69 2 wr F2 kv P.kinds ck∧Good (F1++F2) lo wr
 st:PSt wr p cap n a L s
 eff:Eff p w wr
 few:P.tags.length+P.kinds.length+qeA L s≤L.length+2
 base:w.heap.size≤lo
 top:lo≤wr.heap.size
section
variable {lo:Nat} {w:World} {p cap n:Nat} {a:Option Addr} {L:List TokE} {tv kv:Value} {P:ProgE} {ct ck:List Value}
theorem PrS.rowT {wr:World} {s:S8} (h:PrS lo w p cap n a L wr tv kv s P ct ck):wr.ownsRow 0 78 2 tv P.tags.length ct:=by obtain⟨F1,F2,h1,h2,h3⟩:=h.two;exact h1.row
theorem PrS.rowK {wr:World} {s:S8} (h:PrS lo w p cap n a L wr tv kv s P ct ck):wr.ownsRow 0 69 2 kv P.kinds.length ck:=by obtain⟨F1,F2,h1,h2,h3⟩:=h.two;exact h2.row
theorem PrS.step {wr w1:World} {s s1:S8} (h:PrS lo w p cap n a L wr tv kv s P ct ck) (hp:p<w.heap.size) (hs:PSt w1 p cap n a L s1) (he:Eff p wr w1) (hr:qeA L s1≤qeA L s):PrS lo w p cap n a L w1 tv kv s1 P ct ck:=by
 obtain⟨F1,F2,h1,h2,h3⟩:=h.two;have hb:=h3.oth he.2 (Nat.lt_of_lt_of_le hp h.base);exact⟨⟨F1,F2,h1.keep qfV hb.left,h2.keep qdY hb.right,h3.wide (Nat.le_refl _) he.size⟩,hs,h.eff.trans he,by have:=h.few;omega,h.base,Nat.le_trans h.top he.size⟩
theorem PrS.ownT {wr:World} {s:S8} (h:PrS lo w p cap n a L wr tv kv s P ct ck):∀ g,tv.ownBlock=some g→lo≤g:=fun g hg=>by
 obtain⟨F1,F2,h1,h2,h3⟩:=h.two;obtain⟨F,rfl,_⟩:=h1.els;exact(h3.lies g (List.mem_append_left _ (List.mem_append_left _ (by rw[hg];simp)))).1
theorem PrS.ownK {wr:World} {s:S8} (h:PrS lo w p cap n a L wr tv kv s P ct ck):∀ g,kv.ownBlock=some g→lo≤g:=fun g hg=>by
 obtain⟨F1,F2,h1,h2,h3⟩:=h.two;obtain⟨F,rfl,_⟩:=h2.els;exact(h3.lies g (List.mem_append_right _ (List.mem_append_left _ (by rw[hg];simp)))).1
theorem PrS.low {w1 w5 w6 w7:World} {s:S8} (h:PrS lo w p cap n a L w1 tv kv s P ct ck) (he:Eff p w1 w5) (h6:Below w5.heap.size w5 w6) {v:Value} (hv:∀ g,v.ownBlock=some g→lo≤g) (hgrow:w6.grownBy w7 v.ownBlock):∀ b,b<lo→w7.heap[b]?=w5.heap[b]?:=fun b hb=>by
 have h1:=h.top;have h15:=he.size;have h56:=h6.size;exact(hgrow.block b (by omega) (fun e=>by have:=hv b e.symm;omega)).trans (h6.block b (by omega))
theorem PrS.lowT {w1 w5 w6 w7:World} {s:S8} (h:PrS lo w p cap n a L w1 tv kv s P ct ck) (he:Eff p w1 w5) (h6:Below w5.heap.size w5 w6) (hgrow:w6.grownBy w7 tv.ownBlock):∀ b,b<lo→w7.heap[b]?=w5.heap[b]?:=h.low he h6 h.ownT hgrow
theorem PrS.lowK {w1 w5 w6 w7:World} {s:S8} (h:PrS lo w p cap n a L w1 tv kv s P ct ck) (he:Eff p w1 w5) (h6:Below w5.heap.size w5 w6) (hgrow:w6.grownBy w7 kv.ownBlock):∀ b,b<lo→w7.heap[b]?=w5.heap[b]?:=h.low he h6 h.ownK hgrow
theorem PrS.moved {w1 w5 w6 w7:World} {s s5:S8} (h:PrS lo w p cap n a L w1 tv kv s P ct ck) (hp:p<w.heap.size) (hs:PSt w5 p cap n a L s5) (he:Eff p w1 w5) (h6:Below w5.heap.size w5 w6) {v:Value} (hgrow:w6.grownBy w7 v.ownBlock) (hb57:∀ b,b<lo→w7.heap[b]?=w5.heap[b]?) :
  PSt w7 p cap n a L s5∧Eff p w w7∧lo≤w7.heap.size:=by
 have hsz:=h.top;have hbs:=h.base;have h15:=he.size;have h56:=h6.size;have h67:=hgrow.size;have h2:=h.eff.trans he;exact⟨hs.same (fun b hb=>hb57 b (by omega)),⟨h2.1.trans ⟨hgrow.os.trans h6.os,hgrow.tape.trans h6.tape,hgrow.output.trans h6.output,by omega,fun k hk=>hb57 k (by omega)⟩,by omega,fun k hk hkp=>(hb57 k (by omega)).trans (h2.2.2 k hk hkp)⟩,by omega⟩
theorem PrS.moreT {w1 w5 w6 w7:World} {s s5:S8} {c1:List Value} {x:TagE} {m g cp:Nat} (h:PrS lo w p cap n a L w1 tv kv s P ct ck)
  (hp:p<w.heap.size) (hx:Itm qk7 w1.heap.size w5 c1 x) (hs:PSt w5 p cap n a L s5) (he:Eff p w1 w5) (h6:Below w5.heap.size w5 w6) (hm:m=P.tags.length)
  (hown:w7.ownsRow 0 78 2 (.slice (some ⟨g,0,none⟩) (m+1) cp) (m+1) (ct++c1)) (hgrow:w6.grownBy w7 tv.ownBlock) (hat:tv.ownBlock=some g∨g=w6.heap.size) (hlt:g<w7.heap.size) (hf:P.tags.length+P.kinds.length+1+qeA L s5≤L.length+2) :
  PrS lo w p cap n a L w7 (.slice (some ⟨g,0,none⟩) (m+1) cp) kv s5 ⟨P.tags++[x],P.kinds⟩ (ct++c1) ck:=by
 obtain⟨F1,F2,h1,h2,h3⟩:=h.two;obtain⟨F',h4,h5,h7⟩:=qu5 qfV qdY h1 h2 h3 he.2 (Nat.lt_of_lt_of_le hp h.base) h.top hx h6 hm hown hgrow hat hlt;obtain⟨m1,m2,m3⟩:=h.moved hp hs he h6 hgrow (h.lowT he h6 hgrow);exact⟨⟨F',F2,h4,h5,h7⟩,m1,m2,by simp only[List.length_append,List.length_singleton];omega,h.base,m3⟩
theorem PrS.moreK {w1 w5 w6 w7:World} {s s5:S8} {c1:List Value} {x:KindE} {m g cp:Nat} (h:PrS lo w p cap n a L w1 tv kv s P ct ck)
  (hp:p<w.heap.size) (hx:Itm qfI w1.heap.size w5 c1 x) (hs:PSt w5 p cap n a L s5) (he:Eff p w1 w5) (h6:Below w5.heap.size w5 w6) (hm:m=P.kinds.length)
  (hown:w7.ownsRow 0 69 2 (.slice (some ⟨g,0,none⟩) (m+1) cp) (m+1) (ck++c1)) (hgrow:w6.grownBy w7 kv.ownBlock) (hat:kv.ownBlock=some g∨g=w6.heap.size) (hlt:g<w7.heap.size) (hf:P.tags.length+P.kinds.length+1+qeA L s5≤L.length+2) :
  PrS lo w p cap n a L w7 tv (.slice (some ⟨g,0,none⟩) (m+1) cp) s5 ⟨P.tags,P.kinds++[x]⟩ ct (ck++c1):=by
 obtain⟨F1,F2,h1,h2,h3⟩:=h.two;obtain⟨F',h4,h5,h7⟩:=qu5 qdY qfV h2 h1 h3.swap he.2 (Nat.lt_of_lt_of_le hp h.base) h.top hx h6 hm hown hgrow hat hlt;obtain⟨m1,m2,m3⟩:=h.moved hp hs he h6 hgrow (h.lowK he h6 hgrow);exact⟨⟨F1,F',h5,h4,h7.swap⟩,m1,m2,by simp only[List.length_append,List.length_singleton];omega,h.base,m3⟩
theorem PrS.boxed {wr:World} {s:S8} (h:PrS lo w p cap n a L wr tv kv s P ct ck) (hp:p<w.heap.size) {X:Nat} (h1:w.heap.size≤X) (h2:X<lo) (j:Nat) (u:Value):PrS lo w p cap n a L (wr.setCell ⟨X,j,none⟩ u) tv kv s P ct ck:=by
 obtain⟨F1,F2,h3,h4,h5⟩:=h.two;have hb:qg8 (F1++F2) wr (wr.setCell ⟨X,j,none⟩ u):=fun b hb=>Below.heap_setCell _ _ _ _ (by have:=h5.lies b hb;show b≠X;omega);exact⟨⟨F1,F2,h3.keep qfV hb.left,h4.keep qdY hb.right,h5.wide (Nat.le_refl _) (by simp)⟩,h.st.same (fun b hb=>Below.heap_setCell _ _ _ _ (by show b≠X;omega)),h.eff.mine hp h1 _ _,h.few,h.base,by have:=h.top;simpa using this⟩
theorem PrS.item {wr:World} {s:S8} (h:PrS lo w p cap n a L wr tv kv s P ct ck):Itm qfR lo wr [tv,kv] P:=by
 obtain⟨F1,F2,h1,h2,h3⟩:=h.two;exact⟨F1++F2,⟨tv,kv,ct,ck,F1,F2,rfl,rfl,h1,h2⟩,h3⟩
end
theorem quP {fn:Func} {p:Tmp} {tmps:Array Value} {W:World} {g:Nat} {u v:Value} (hf:fn.results=#[.cell p 26]) (hp:tmps.getD p undef=.pointer (some ⟨g,0,none⟩)) (h:Bx W g 26 [u,v]) :
  (results fn tmps).run Tryz.prog W=.ok (.agg #[u,v]) W:=results_cell_row hf _ _ g 26 _ (0,0) _ hp h Tryz.underlying26 rfl (by kernel_rfl)
abbrev jd6 (w:World) (x:ProgE) (e:Ending) (w':World):Prop:=∃ tv kv,e=.returned (.agg #[tv,kv])∧Itm qfR w.heap.size w' [tv,kv] x
theorem q1H {L:List TokE} {n:Nat} {s:S8} (h:s.bad≠0):(qkJ L n s).1=s:=by
 unfold qkJ;simp only;rw[qh6 h,qdN h,qfJ h]
theorem jbO {W:World} {p cap n:Nat} {a:Option Addr} {L:List TokE} {s:S8} (k:Nat) (h:PSt W p cap n a L s):PSt (W.drewN k) p cap n a L s:=h.below (ql7 k (Below.refl _ _))
theorem q72 {w W:World} {p:Nat} (k:Nat) (h:Eff p w W):Eff p w (W.drewN k):=h.trans ⟨ql7 k (Below.refl _ _),Nat.le_refl _,fun _ _ _=>rfl⟩
theorem qxD (p cap n:Nat) (a:Option Addr) (L:List TokE) (s:S8) (w:World) (h:PSt w p cap n a L s) :
  Calls Tryz.prog 38 #[.pointer (some ⟨p,0,none⟩)] w (Go8 p cap n a L (qcP L n (qaX L) s ⟨[],[]⟩).1 (jd6 w (qcP L n (qaX L) s ⟨[],[]⟩).2) w):=by
 obtain⟨i0,i0i,i00,i01,i02⟩:=qaN q1Q;obtain⟨j0,j0i,j00,j01,j02⟩:=qaN q1S;obtain⟨W0,hW0,hx0,hb0⟩:∃ W0,W0=w.alloc (.cells #[.slice none 0 0,.slice none 0 0] 26)∧Bx W0 w.heap.size 26 [.slice none 0 0,.slice none 0 0]∧Below w.heap.size w W0:=⟨_,rfl,Bx.new w 26 [.slice none 0 0,.slice none 0 0],(Below.refl _ w).alloc (Nat.le_refl _) _⟩
 have hz0:W0.heap.size=w.heap.size+1:=by rw[hW0];simp
 obtain⟨W1,hW1⟩:∃ W1,W1=W0.alloc (.cells #[.slice none 0 0,.slice none 0 0] 26):=⟨_,rfl⟩
 have hb1:Below W0.heap.size W0 W1:=by rw[hW1];exact(Below.refl _ W0).alloc (Nat.le_refl _) _
 have hz1:W1.heap.size=W0.heap.size+1:=by rw[hW1];simp
 have hlt:=h.lt;have hst:=h.below hb0;have HXB:=hid (show Bx W1 W0.heap.size 26 [.slice none 0 0,.slice none 0 0] by rw[hW1];exact Bx.new W0 _ _);have HGB:=hid (hx0.keep hb1 (by omega));obtain⟨R,hR⟩:∃ R,R=qcP L n (qaX L) s ⟨[],[]⟩:=⟨_,rfl⟩
 rw[← hR];unfold Go8;have HF0:=hid (qgT L s);have HL3:Hid (PrS (W0.heap.size+1) w p cap n a L W1 (.slice none 0 0) (.slice none 0 0) s ⟨[],[]⟩ [] []):=hid ⟨⟨[],[],ListV.nil _ _ _ _,ListV.nil _ _ _ _,Good.nil _ _⟩,hst.below hb1,(Eff.of_below hb0 hlt).trans (Eff.of_below hb1 hst.lt),by have:=HF0.out;unfold qaX at this;show 0+0+_≤_;omega,by omega,by omega⟩;have HRR:=hid hR;have HW0:=hid hW0;have HW1:=hid hW1;have hX1:w.heap.size<W0.heap.size:=by omega
 have hGp:w.heap.size≠p:=by omega
 clear h hst hW0 hx0 hb0 hW1 hb1 hz0 hz1 hR;go_enter Tryz.func38,Tryz.ntmps38;go_upto_region 1 with (fail);rw[← HW0.out];go_upto_region 2 with (fail);rw[← HW1.out];generalize W0.heap.size=X at HXB HL3 hX1 ⊢;have hXp:X≠p:=by omega
 have hGX:w.heap.size≠X:=by omega
 clear HW0 HW1
 go_loopg [] (qaX L) (fun gk wr=>∃ (s4:S8) (P:ProgE) (ct ck:List Value) (ad1:Option Addr) (cp1:Nat) (ad2:Option Addr) (cp2:Nat),Hid (qeA L s4<gk)∧Hid (R=qcP L n gk s4 P)∧Hid (PrS (X+1) w p cap n a L wr (.slice ad1 P.tags.length cp1) (.slice ad2 P.kinds.length cp2) s4 P ct ck)∧Hid (Bx wr X 26 [.slice ad1 P.tags.length cp1,.slice ad2 P.kinds.length cp2])∧Hid (Bx wr w.heap.size 26 [.slice none 0 0,.slice none 0 0]))
 case atStart=>exact⟨s,⟨[],[]⟩,[],[],none,0,none,0,HF0,HRR,HL3,HXB,HGB⟩
 case round =>
  obtain⟨s4,P,ct,ck,ad1,cp1,ad2,cp2,HG,HQ4,HL,HXA,HGA⟩:=hrel;clear HRR HL3 HF0 HXB HGB;obtain⟨f,rfl⟩:∃ f,gk=f+1:=⟨gk-1,by have:=HG.out;omega⟩
  have c0:=HL.out.st.cells.1;have c2:=HL.out.st.cells.2.2;have hlen:=HL.out.st.len;by_cases hk:s4.k<L.length
  ·have d1:decide ((s4.k:Int)<(L.length:Int))=true:=decide_eq_true (by omega);have d1n:decide (s4.k<L.length)=true:=decide_eq_true hk;have HK:=hid hk;generalize hN:L.length=N at c0 d1 d1n hk hlen;clear hN;go_upto_region 2 with (fail);go_quiet (fail);have HL4:=hid (PrS.step HL.out hlt (jbO nq HL.out.st) (q72 nq (Eff.refl _ _)) (Nat.le_refl _));have HX4:=hid (qy1 nq HXA.out);have HG4:=hid (qy1 nq HGA.out);clear c0 c2 d1 d1n hk hlen HL HXA HGA;generalize wr.drewN nq=w4 at HL4 HX4 HG4 ⊢;cases hi1:isB L s4 ⟨#[116,97,103]⟩ with
   | true =>
    have HI1:=hid hi1;have hq:R=qcP L n f (qmL L n (qa6 s4)).1 ⟨P.tags++[(qmL L n (qa6 s4)).2],P.kinds⟩:=by
     rw[HQ4.out]
     conv=>lhs;unfold qcP
     rw[if_pos ⟨HL4.out.st.ok,HK.out⟩,if_pos hi1]
    have hw:=qfC hi1 HL4.out.st.at_;have hk:=ja8 (L:=L) (n:=n) (s:=qa6 s4) hw.1;have HSR:Hid (qeA L (qmL L n (qa6 s4)).1+1≤qeA L s4):=hid (by have:=hw.2;have:=hk.2;omega);have HSTEP:=hid hk.2;have HWL:=hid (Nat.le_of_lt hw.2);have HPT:=hid (fun W (hW:PSt W p cap n a L (qa6 s4))=>q0G p cap n a L (qa6 s4) W hW);clear hi1 HQ4 hw hk;generalize qmL L n (qa6 s4)=KS at HPT HSTEP hq HSR;have HKP:Hid (KS.1.bad≠0→R.1=KS.1):=hid (fun hb=>by rw[hq,quO hb]);have HQ1:=hid hq;clear hq;go_upto_region 4 with (go_at_call 67;(with_reducible refine(qbS HL4.out.st HI1.out).mono ?_);rintro e w6 ⟨rfl,hs⟩;have HS6:=hid hs;clear hs);have HXB:=hid (HX4.out.oth HS6.out.2.2 hXp);have HGB:=hid (HG4.out.oth HS6.out.2.2 hGp);have HL6:=hid (PrS.step HL4.out hlt HS6.out.1 HS6.out.2 HWL.out);have HFEW:Hid (P.tags.length+P.kinds.length+1+qeA L KS.1≤L.length+2):=hid (by have h1:=HL4.out.few;have h2:=HSR.out;omega);have HIC:=hid (HPT.out w6.drew (HS6.out.1.below (qa0 w6)));clear HX4 HG4 HPT HS6 HI1 HL4;have x1:=HXB.out.c 0 rfl;by_cases hkb:KS.1.bad≠0
    ·have HICN:=hid (qrP HIC.out hkb);have HKB:=hid hkb;have HKR:=hid (HKP.out hkb);clear HIC hkb HSTEP;refine wp_region_any (by kernel_rfl) ?_;refine wpAny_ready (rs:=[0,2]) (by kernel_rfl) (by simp) ?_;refine AllReady.cons rfl (fun K hK=>?_) ?_
     ·(go_simp;refine hK _ _ ?_;clear hK K)
      refine wpAny_ready (rs:=[1,2]) (by kernel_rfl) (by simp) ?_;refine AllReady.cons rfl (fun K hK=>?_) ?_
      ·(go_simp;refine hK _ _ ?_;clear hK K)
       refine wpAny_ready (rs:=[2]) (by kernel_rfl) (by simp) ?_;refine AllReady.cons rfl (fun K hK=>?_) ?_
       ·(go_simp;refine hK _ _ ?_;clear hK K)
        refine wpAny_ready (rs:=[3]) (by kernel_rfl) (by simp) ?_;refine AllReady.cons rfl (fun K hK=>?_) ?_
        ·(go_simp;(with_reducible refine HICN.out.mono ?_);rintro e w5 ⟨rfl,he5⟩;exact⟨rfl,.inr ⟨by rw[HKR.out];exact HKB.out,by rw[HKR.out];rfl⟩,HL6.out.eff.trans ((Eff.of_below (qa0 w6) HL6.out.st.lt).trans he5)⟩)
        exact AllReady.nil
       exact AllReady.nil
      refine AllReady.cons rfl (fun K hK=>?_) ?_
      ·(go_simp;refine hK _ _ ?_;clear hK K)
       refine wpAny_ready (rs:=[1,3]) (by kernel_rfl) (by simp) ?_;refine AllReady.cons rfl (fun K hK=>?_) ?_
       ·(go_simp;refine hK _ _ ?_;clear hK K)
        refine wpAny_ready (rs:=[3]) (by kernel_rfl) (by simp) ?_;refine AllReady.cons rfl (fun K hK=>?_) ?_
        ·(go_simp;(with_reducible refine HICN.out.mono ?_);rintro e w5 ⟨rfl,he5⟩;exact⟨rfl,.inr ⟨by rw[HKR.out];exact HKB.out,by rw[HKR.out];rfl⟩,HL6.out.eff.trans ((Eff.of_below (qa0 w6) HL6.out.st.lt).trans he5)⟩)
        exact AllReady.nil
       refine AllReady.cons rfl (fun K hK=>?_) ?_
       ·(go_simp;(with_reducible refine HICN.out.mono ?_);rintro e w5 ⟨rfl,he5⟩;exact⟨rfl,.inr ⟨by rw[HKR.out];exact HKB.out,by rw[HKR.out];rfl⟩,HL6.out.eff.trans ((Eff.of_below (qa0 w6) HL6.out.st.lt).trans he5)⟩)
       exact AllReady.nil
      exact AllReady.nil
     refine AllReady.cons rfl (fun K hK=>?_) ?_
     ·(go_simp;refine hK _ _ ?_;clear hK K)
      refine wpAny_ready (rs:=[0,3]) (by kernel_rfl) (by simp) ?_;refine AllReady.cons rfl (fun K hK=>?_) ?_
      ·(go_simp;refine hK _ _ ?_;clear hK K)
       refine wpAny_ready (rs:=[1,3]) (by kernel_rfl) (by simp) ?_;refine AllReady.cons rfl (fun K hK=>?_) ?_
       ·(go_simp;refine hK _ _ ?_;clear hK K)
        refine wpAny_ready (rs:=[3]) (by kernel_rfl) (by simp) ?_;refine AllReady.cons rfl (fun K hK=>?_) ?_
        ·(go_simp;(with_reducible refine HICN.out.mono ?_);rintro e w5 ⟨rfl,he5⟩;exact⟨rfl,.inr ⟨by rw[HKR.out];exact HKB.out,by rw[HKR.out];rfl⟩,HL6.out.eff.trans ((Eff.of_below (qa0 w6) HL6.out.st.lt).trans he5)⟩)
        exact AllReady.nil
       refine AllReady.cons rfl (fun K hK=>?_) ?_
       ·(go_simp;(with_reducible refine HICN.out.mono ?_);rintro e w5 ⟨rfl,he5⟩;exact⟨rfl,.inr ⟨by rw[HKR.out];exact HKB.out,by rw[HKR.out];rfl⟩,HL6.out.eff.trans ((Eff.of_below (qa0 w6) HL6.out.st.lt).trans he5)⟩)
       exact AllReady.nil
      refine AllReady.cons rfl (fun K hK=>?_) ?_
      ·(go_simp;(with_reducible refine HICN.out.mono ?_);rintro e w5 ⟨rfl,he5⟩;exact⟨rfl,.inr ⟨by rw[HKR.out];exact HKB.out,by rw[HKR.out];rfl⟩,HL6.out.eff.trans ((Eff.of_below (qa0 w6) HL6.out.st.lt).trans he5)⟩)
      exact AllReady.nil
     exact AllReady.nil
    have HICO:=hid (qrO HIC.out (Decidable.not_not.1 hkb));clear HIC hkb HKP
    go_region_law (first
      | (go_simp;go_at_call 68;(with_reducible refine HICO.out.mono ?_);rintro e w5 ⟨⟨⟨v5,rfl,hit⟩,hs1⟩,hs2⟩;obtain⟨ad5,m5,c5,rfl⟩:=qzF hit;have he5:Eff p w6 w5:=(Eff.of_below (qa0 w6) HL6.out.st.lt).trans hs2;have HIT:=hid (show Itm qk7 w6.heap.size w5 [.string KS.2.nm,.slice ad5 m5 c5] KS.2 from hit);have HS5:=hid (show PSt w5 p cap n a L KS.1 from hs1);have HE5:=hid he5;have HL5:=hid (PrS.step HL6.out hlt hs1 he5 HSTEP.out);have hb5:=HXB.out.oth he5.2 hXp;have y1:=hb5.c 0 rfl;have hb6:Below w5.heap.size w5 (w5.alloc (.cells [.string KS.2.nm,.slice ad5 m5 c5].toArray 78)):=(Below.refl w5.heap.size w5).alloc (Nat.le_refl _) _;have y1a:=(hb5.keep hb6 hb5.lt).c 0 rfl;have HXB5:=hid hb5;have HGB5:=hid (HGB.out.oth he5.2 hGp);clear hs1 hs2 he5 hb5 hb6 hit)
      | (refine step_append_lies _ rfl (.tmp 17) (.tmp 20) 23 rfl 0 78 i0 (.agg #[.string ⟨#[]⟩,.slice none 0 0]) 2 40 Tryz.underlying23 i0i i00 i01 i02 rfl (by decide) (.slice ad1 P.tags.length cp1) P.tags.length ct rfl (HL5.out.rowT.alloc (.cells [.string KS.2.nm,.slice ad5 m5 c5].toArray 78)) ⟨w5.heap.size,0,none⟩ 1 1 [.string KS.2.nm,.slice ad5 m5 c5] rfl rfl (qc7 w5 [.string KS.2.nm,.slice ad5 m5 c5] 78) (HIT.out.one qfV) (by decide) (by first|decide|(have:=HL6.out.few;have:=HL6.out.st.len;unfold maxLen;omega)) (by first|decide|(have:=HL6.out.few;have:=HL6.out.st.len;omega)) (Nat.zero_le _) _ rfl ?_;intro g cp w7 hown hgrow hat hlt7;have hb6:Below w5.heap.size w5 (w5.alloc (.cells [.string KS.2.nm,.slice ad5 m5 c5].toArray 78)):=(Below.refl _ w5).alloc (Nat.le_refl _) _;have HL7:=hid (PrS.moreT HL6.out hlt HIT.out HS5.out HE5.out hb6 rfl hown hgrow hat hlt7 HFEW.out);have hlow:=HL6.out.lowT HE5.out hb6 hgrow;have HX7:=hid (show Bx w7 X 26 [.slice ad1 P.tags.length cp1,.slice ad2 P.kinds.length cp2] from (hlow X (by omega)).trans HXB5.out);have HG7:=hid (show Bx w7 w.heap.size 26 [.slice none 0 0,.slice none 0 0] from (hlow _ (by omega)).trans HGB5.out);have d7:=HX7.out.c 0 rfl;have g7:=HX7.out.fz 0;clear hown hgrow hat hlt7 hb6 hlow))
    all_goals
     have hln:(P.tags++[KS.2]).length=P.tags.length+1:=by simp
     have HL8:Hid (PrS (X+1) w p cap n a L (w7.setCell ⟨X,0,none⟩ (.slice (some ⟨g,0,none⟩) (P.tags.length+1) cp)) (.slice (some ⟨g,0,none⟩) (P.tags++[KS.2]).length cp) (.slice ad2 P.kinds.length cp2) KS.1 ⟨P.tags++[KS.2],P.kinds⟩ (ct++[.string KS.2.nm,.slice ad5 m5 c5]) ck):=hid (by rw[hln];exact HL7.out.boxed hlt (X:=X) (by omega) (by omega) 0 (.slice (some ⟨g,0,none⟩) (P.tags.length+1) cp));have HX8:Hid (Bx (w7.setCell ⟨X,0,none⟩ (.slice (some ⟨g,0,none⟩) (P.tags.length+1) cp)) X 26 [.slice (some ⟨g,0,none⟩) (P.tags++[KS.2]).length cp,.slice ad2 P.kinds.length cp2]):=hid (by rw[hln];exact HX7.out.set 0 (.slice (some ⟨g,0,none⟩) (P.tags.length+1) cp));have HG8:=hid (HG7.out.other hGX 0 (.slice (some ⟨g,0,none⟩) (P.tags.length+1) cp));clear HXB HGB HL6 HL7 HX7 HG7 HS5 HE5 HL5 HXB5 HGB5 HICO HSTEP HIT d7 g7 y1 y1a x1 hln;generalize w7.setCell ⟨X,0,none⟩ (.slice (some ⟨g,0,none⟩) (P.tags.length+1) cp)=w8 at HL8 HX8 HG8 ⊢;go_wp2
     go_roundg f
     case measure=>exact Nat.lt_succ_self f
     case rel=>exact⟨KS.1,⟨P.tags++[KS.2],P.kinds⟩,_,_,_,_,_,_,hid (by have:=HSR.out;have:=HG.out;omega),HQ1,HL8,HX8,HG8⟩
   | false =>
    have HI1:=hid hi1;have hq:R=qcP L n f (qkJ L n (qa7 L n s4 ⟨#[107,105,110,100]⟩)).1 ⟨P.tags,P.kinds++[(qkJ L n (qa7 L n s4 ⟨#[107,105,110,100]⟩)).2]⟩:=by
     rw[HQ4.out]
     conv=>lhs;unfold qcP
     rw[if_pos ⟨HL4.out.st.ok,HK.out⟩,hi1,if_neg (by decide)];rfl
    have hw:=qyT (L:=L) (n:=n) (t:=⟨#[107,105,110,100]⟩) HL4.out.st.ok HL4.out.st.at_;have hk:=(((qdQ (L:=L) (n:=n)).trans ((qc9 _).trans (q3H (fun _=>q5P) (qaX L) _ []))):Le8 L (qa7 L n s4 ⟨#[107,105,110,100]⟩) (qkJ L n (qa7 L n s4 ⟨#[107,105,110,100]⟩)).1) hw.1;have HSR:Hid (qeA L (qkJ L n (qa7 L n s4 ⟨#[107,105,110,100]⟩)).1+1≤qeA L s4):=hid (by have:=hw.2;have:=hk.2;omega);have HWN:=hid (fun W (hW:PSt W p cap n a L s4)=>qaW p cap n a L s4 ⟨#[107,105,110,100]⟩ W hW);have HWL:=hid (Nat.le_of_lt hw.2);have HSTEP:=hid hk.2;have k5:(qa7 L n s4 ⟨#[107,105,110,100]⟩).bad≠0→(qkJ L n (qa7 L n s4 ⟨#[107,105,110,100]⟩)).1=qa7 L n s4 ⟨#[107,105,110,100]⟩:=q1H;clear hi1 HQ4 hw hk;generalize qa7 L n s4 ⟨#[107,105,110,100]⟩=s5 at hq HSR HWN HWL HSTEP k5;have HPT:=hid (fun W (hW:PSt W p cap n a L s5)=>qxH p cap n a L s5 W hW);generalize qkJ L n s5=KS at HPT HSTEP hq HSR k5;have HKP:Hid (KS.1.bad≠0→R.1=KS.1):=hid (fun hb=>by rw[hq,quO hb]);have HK5:Hid (s5.bad≠0→R.1=s5):=hid (fun hb=>by
     have e:=k5 hb;rw[HKP.out (by rw[e];exact hb),e])
    have HQ1:=hid hq;clear hq k5;go_upto_region 6 with (first
     | (go_at_call 67;(with_reducible refine(qbD HL4.out.st HI1.out).mono ?_);rintro e w5 ⟨rfl,hs⟩;have HS5:=hid hs;clear hs)
     | (go_at_call 69;(with_reducible refine(HWN.out w5 HS5.out.1).mono ?_);rintro e w6 ⟨hg,he⟩;have HE6:=hid he;clear he;replace hg:=Or.symm hg;rcases hg with ⟨hg,rfl⟩|⟨rfl,hg⟩ <;> first|(have HG6:=hid (show PSt w6 p cap n a L _ from hg);clear hg)|(have HG6:=hid hg;clear hg;try unfold qb0)))
    ·rw[HK5.out HG6.out];exact⟨rfl,.inr ⟨HG6.out,rfl⟩,HL4.out.eff.trans (HS5.out.2.trans HE6.out)⟩
    have HXB:=hid (HX4.out.oth (HS5.out.2.trans HE6.out).2 hXp);have HGB:=hid (HG4.out.oth (HS5.out.2.trans HE6.out).2 hGp);have HL6:=hid (PrS.step HL4.out hlt HG6.out (HS5.out.2.trans HE6.out) HWL.out);have HFEW:Hid (P.tags.length+P.kinds.length+1+qeA L KS.1≤L.length+2):=hid (by have h1:=HL4.out.few;have h2:=HSR.out;omega);have HIC:=hid (HPT.out w6.drew (HG6.out.below (qa0 w6)));clear HX4 HG4 HPT HS5 HE6 HG6 HI1 HL4 HWN HK5;have x1:=HXB.out.c 1 rfl;by_cases hkb:KS.1.bad≠0
    ·have HICN:=hid (qrP HIC.out hkb);have HKB:=hid hkb;have HKR:=hid (HKP.out hkb);clear HIC hkb HSTEP;refine wp_region_any (by kernel_rfl) ?_;refine wpAny_ready (rs:=[0,2]) (by kernel_rfl) (by simp) ?_;refine AllReady.cons rfl (fun K hK=>?_) ?_
     ·(go_simp;refine hK _ _ ?_;clear hK K)
      refine wpAny_ready (rs:=[1,2]) (by kernel_rfl) (by simp) ?_;refine AllReady.cons rfl (fun K hK=>?_) ?_
      ·(go_simp;refine hK _ _ ?_;clear hK K)
       refine wpAny_ready (rs:=[2]) (by kernel_rfl) (by simp) ?_;refine AllReady.cons rfl (fun K hK=>?_) ?_
       ·(go_simp;refine hK _ _ ?_;clear hK K)
        refine wpAny_ready (rs:=[3]) (by kernel_rfl) (by simp) ?_;refine AllReady.cons rfl (fun K hK=>?_) ?_
        ·(go_simp;(with_reducible refine HICN.out.mono ?_);rintro e w5 ⟨rfl,he5⟩;exact⟨rfl,.inr ⟨by rw[HKR.out];exact HKB.out,by rw[HKR.out];rfl⟩,HL6.out.eff.trans ((Eff.of_below (qa0 w6) HL6.out.st.lt).trans he5)⟩)
        exact AllReady.nil
       exact AllReady.nil
      refine AllReady.cons rfl (fun K hK=>?_) ?_
      ·(go_simp;refine hK _ _ ?_;clear hK K)
       refine wpAny_ready (rs:=[1,3]) (by kernel_rfl) (by simp) ?_;refine AllReady.cons rfl (fun K hK=>?_) ?_
       ·(go_simp;refine hK _ _ ?_;clear hK K)
        refine wpAny_ready (rs:=[3]) (by kernel_rfl) (by simp) ?_;refine AllReady.cons rfl (fun K hK=>?_) ?_
        ·(go_simp;(with_reducible refine HICN.out.mono ?_);rintro e w5 ⟨rfl,he5⟩;exact⟨rfl,.inr ⟨by rw[HKR.out];exact HKB.out,by rw[HKR.out];rfl⟩,HL6.out.eff.trans ((Eff.of_below (qa0 w6) HL6.out.st.lt).trans he5)⟩)
        exact AllReady.nil
       refine AllReady.cons rfl (fun K hK=>?_) ?_
       ·(go_simp;(with_reducible refine HICN.out.mono ?_);rintro e w5 ⟨rfl,he5⟩;exact⟨rfl,.inr ⟨by rw[HKR.out];exact HKB.out,by rw[HKR.out];rfl⟩,HL6.out.eff.trans ((Eff.of_below (qa0 w6) HL6.out.st.lt).trans he5)⟩)
       exact AllReady.nil
      exact AllReady.nil
     refine AllReady.cons rfl (fun K hK=>?_) ?_
     ·(go_simp;refine hK _ _ ?_;clear hK K)
      refine wpAny_ready (rs:=[0,3]) (by kernel_rfl) (by simp) ?_;refine AllReady.cons rfl (fun K hK=>?_) ?_
      ·(go_simp;refine hK _ _ ?_;clear hK K)
       refine wpAny_ready (rs:=[1,3]) (by kernel_rfl) (by simp) ?_;refine AllReady.cons rfl (fun K hK=>?_) ?_
       ·(go_simp;refine hK _ _ ?_;clear hK K)
        refine wpAny_ready (rs:=[3]) (by kernel_rfl) (by simp) ?_;refine AllReady.cons rfl (fun K hK=>?_) ?_
        ·(go_simp;(with_reducible refine HICN.out.mono ?_);rintro e w5 ⟨rfl,he5⟩;exact⟨rfl,.inr ⟨by rw[HKR.out];exact HKB.out,by rw[HKR.out];rfl⟩,HL6.out.eff.trans ((Eff.of_below (qa0 w6) HL6.out.st.lt).trans he5)⟩)
        exact AllReady.nil
       refine AllReady.cons rfl (fun K hK=>?_) ?_
       ·(go_simp;(with_reducible refine HICN.out.mono ?_);rintro e w5 ⟨rfl,he5⟩;exact⟨rfl,.inr ⟨by rw[HKR.out];exact HKB.out,by rw[HKR.out];rfl⟩,HL6.out.eff.trans ((Eff.of_below (qa0 w6) HL6.out.st.lt).trans he5)⟩)
       exact AllReady.nil
      refine AllReady.cons rfl (fun K hK=>?_) ?_
      ·(go_simp;(with_reducible refine HICN.out.mono ?_);rintro e w5 ⟨rfl,he5⟩;exact⟨rfl,.inr ⟨by rw[HKR.out];exact HKB.out,by rw[HKR.out];rfl⟩,HL6.out.eff.trans ((Eff.of_below (qa0 w6) HL6.out.st.lt).trans he5)⟩)
      exact AllReady.nil
     exact AllReady.nil
    have HICO:=hid (qrO HIC.out (Decidable.not_not.1 hkb));clear HIC hkb HKP
    go_region_law (first
      | (go_simp;go_at_call 70;(with_reducible refine HICO.out.mono ?_);rintro e w5 ⟨⟨⟨v5,rfl,hit⟩,hs1⟩,hs2⟩;obtain⟨ad5,m5,c5,rfl⟩:=qxO hit;have he5:Eff p w6 w5:=(Eff.of_below (qa0 w6) HL6.out.st.lt).trans hs2;have HIT:=hid (show Itm qfI w6.heap.size w5 [.string KS.2.nm,.slice ad5 m5 c5] KS.2 from hit);have HS5:=hid (show PSt w5 p cap n a L KS.1 from hs1);have HE5:=hid he5;have HL5:=hid (PrS.step HL6.out hlt hs1 he5 HSTEP.out);have hb5:=HXB.out.oth he5.2 hXp;have y1:=hb5.c 1 rfl;have hb6:Below w5.heap.size w5 (w5.alloc (.cells [.string KS.2.nm,.slice ad5 m5 c5].toArray 69)):=(Below.refl w5.heap.size w5).alloc (Nat.le_refl _) _;have y1a:=(hb5.keep hb6 hb5.lt).c 1 rfl;have HXB5:=hid hb5;have HGB5:=hid (HGB.out.oth he5.2 hGp);clear hs1 hs2 he5 hb5 hb6 hit)
      | (refine step_append_lies _ rfl (.tmp 26) (.tmp 29) 24 rfl 0 69 j0 (.agg #[.string ⟨#[]⟩,.slice none 0 0]) 2 40 Tryz.underlying24 j0i j00 j01 j02 rfl (by decide) (.slice ad2 P.kinds.length cp2) P.kinds.length ck rfl (HL5.out.rowK.alloc (.cells [.string KS.2.nm,.slice ad5 m5 c5].toArray 69)) ⟨w5.heap.size,0,none⟩ 1 1 [.string KS.2.nm,.slice ad5 m5 c5] rfl rfl (qc7 w5 [.string KS.2.nm,.slice ad5 m5 c5] 69) (HIT.out.one qdY) (by decide) (by first|decide|(have:=HL6.out.few;have:=HL6.out.st.len;unfold maxLen;omega)) (by first|decide|(have:=HL6.out.few;have:=HL6.out.st.len;omega)) (Nat.zero_le _) _ rfl ?_;intro g cp w7 hown hgrow hat hlt7;have hb6:Below w5.heap.size w5 (w5.alloc (.cells [.string KS.2.nm,.slice ad5 m5 c5].toArray 69)):=(Below.refl _ w5).alloc (Nat.le_refl _) _;have HL7:=hid (PrS.moreK HL6.out hlt HIT.out HS5.out HE5.out hb6 rfl hown hgrow hat hlt7 HFEW.out);have hlow:=HL6.out.lowK HE5.out hb6 hgrow;have HX7:=hid (show Bx w7 X 26 [.slice ad1 P.tags.length cp1,.slice ad2 P.kinds.length cp2] from (hlow X (by omega)).trans HXB5.out);have HG7:=hid (show Bx w7 w.heap.size 26 [.slice none 0 0,.slice none 0 0] from (hlow _ (by omega)).trans HGB5.out);have d7:=HX7.out.c 1 rfl;have g7:=HX7.out.fz 1;clear hown hgrow hat hlt7 hb6 hlow))
    all_goals
     have hln:(P.kinds++[KS.2]).length=P.kinds.length+1:=by simp
     have HL8:Hid (PrS (X+1) w p cap n a L (w7.setCell ⟨X,1,none⟩ (.slice (some ⟨g,0,none⟩) (P.kinds.length+1) cp)) (.slice ad1 P.tags.length cp1) (.slice (some ⟨g,0,none⟩) (P.kinds++[KS.2]).length cp) KS.1 ⟨P.tags,P.kinds++[KS.2]⟩ ct (ck++[.string KS.2.nm,.slice ad5 m5 c5])):=hid (by rw[hln];exact HL7.out.boxed hlt (X:=X) (by omega) (by omega) 1 (.slice (some ⟨g,0,none⟩) (P.kinds.length+1) cp));have HX8:Hid (Bx (w7.setCell ⟨X,1,none⟩ (.slice (some ⟨g,0,none⟩) (P.kinds.length+1) cp)) X 26 [.slice ad1 P.tags.length cp1,.slice (some ⟨g,0,none⟩) (P.kinds++[KS.2]).length cp]):=hid (by rw[hln];exact HX7.out.set 1 (.slice (some ⟨g,0,none⟩) (P.kinds.length+1) cp));have HG8:=hid (HG7.out.other hGX 1 (.slice (some ⟨g,0,none⟩) (P.kinds.length+1) cp));clear HXB HGB HL6 HL7 HX7 HG7 HS5 HE5 HL5 HXB5 HGB5 HICO HSTEP HIT d7 g7 y1 y1a x1 hln;generalize w7.setCell ⟨X,1,none⟩ (.slice (some ⟨g,0,none⟩) (P.kinds.length+1) cp)=w8 at HL8 HX8 HG8 ⊢;go_wp2
     go_roundg f
     case measure=>exact Nat.lt_succ_self f
     case rel=>exact⟨KS.1,⟨P.tags,P.kinds++[KS.2]⟩,_,_,_,_,_,_,hid (by have:=HSR.out;have:=HG.out;omega),HQ1,HL8,HX8,HG8⟩
  ·have d1:decide ((s4.k:Int)<(L.length:Int))=false:=decide_eq_false (by omega);have d1n:decide (s4.k<L.length)=false:=decide_eq_false hk;have HRV:Hid (R=(s4,P)):=hid (by rw[HQ4.out];unfold qcP;rw[if_neg (fun h=>hk h.2)]);generalize hN:L.length=N at c0 d1 d1n hlen;clear hN HQ4 hk;go_upto_region 2 with (fail);go_quiet (fail);have HL4:=hid (PrS.step HL.out hlt (jbO nq HL.out.st) (q72 nq (Eff.refl _ _)) (Nat.le_refl _));have HX9:=hid (qy1 nq HXA.out);have HB9:=hid (qy1 nq HGA.out);clear c0 c2 d1 d1n hlen HL HXA HGA;generalize wr.drewN nq=w4 at HL4 HX9 HB9 ⊢;have x0:=HX9.out.c 0 rfl;have x1:=HX9.out.c 1 rfl;have r0:=HB9.out.c 0 rfl;have r1:=HB9.out.c 1 rfl;have z0:=HB9.out.fz 0;have z1:=HB9.out.fz 1;go_wp2;rw[HRV.out];refine bodyPost_ret (quP rfl rfl ((HB9.out.set 0 _).set 1 _)) rfl ⟨.inl ⟨⟨_,_,rfl,?_⟩,(HL4.out.st.put (show p<w.heap.size by omega) 0 _).put (show p<w.heap.size by omega) 1 _⟩,(HL4.out.eff.mine hlt (Nat.le_refl _) _ _).mine hlt (Nat.le_refl _) _ _⟩;exact(HL4.out.item.same qhM (fun b hb1 hb2=>(Below.heap_setCell _ _ _ _ (by show b≠w.heap.size;omega)).trans (Below.heap_setCell _ _ _ _ (by show b≠w.heap.size;omega))) (by simp)).wide (by omega)
end Go.Proofs.YtenlhcgpajphhaaGreatDoor
