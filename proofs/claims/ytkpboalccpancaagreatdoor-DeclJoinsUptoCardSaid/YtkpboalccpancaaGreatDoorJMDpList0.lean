import Derived.Test.YtkpboalccpancaaGreatDoorJMDpWord
import Derived.Test.YtkpboalccpancaaGreatDoorJMDpRead
namespace Go.Proofs.YtkpboalccpancaaGreatDoor
open Go.RowKit Go.Shelf
set_option maxRecDepth 100000
set_option linter.all false
theorem infoEp:(Tryz.prog.info? 41).map (fun i=>(i.zero,i.size,i.bytes))=some (some (.agg #[.slice none 0 0]),1,24):=by kernel_rfl
theorem infoIp:(Tryz.prog.info? 3).map (fun i=>(i.zero,i.size,i.bytes))=some (some (.int .i64 0),1,8):=by kernel_rfl
theorem infoSp:(Tryz.prog.info? 9).map (fun i=>(i.zero,i.size,i.bytes))=some (some (.string ⟨#[]⟩),1,16):=by kernel_rfl
theorem itm_intp (z:Int) (lo:Nat) (w:World):Itm intE lo w [.int .i64 z] z:=⟨[],⟨rfl,rfl⟩,Good.nil _ _⟩
theorem itm_strp (z:ByteArray) (lo:Nat) (w:World):Itm strE lo w [.string z] z:=⟨[],⟨rfl,rfl⟩,Good.nil _ _⟩
structure LqS {α:Type} (E:Shp α) (T:TypeId) (sz lo:Nat) (w:World) (p cap n:Nat) (a:Option Addr) (L:List TokE) (wr:World) (v:Value) (s:S8) (l:List α) (cs:List Value):Prop where
 lst:Lst E T sz lo wr v l cs
 st:PSt wr p cap n a L s
 eff:Eff p w wr
 few:l.length+rem8 L s≤L.length+2
 base:w.heap.size≤lo
 top:lo≤wr.heap.size
theorem list_slicep {α:Type} {E:Shp α} {T:TypeId} {sz lo:Nat} {w:World} {v:Value} {xs:List α} {c:List Value} (h:Lst E T sz lo w v xs c):∃ ad cp,v=.slice ad xs.length cp:=by
 rcases h.row.2 with ⟨rfl,hn⟩|⟨g,cap,cur,rfl,_⟩
 ·exact⟨none,0,by rw[hn]⟩
 ·exact⟨_,_,rfl⟩
section
variable {α:Type} {E:Shp α} {T:TypeId} {sz lo:Nat} {w:World} {p cap n:Nat} {a:Option Addr} {L:List TokE}
theorem LqS.step {wr w1:World} {v:Value} {s s1:S8} {l:List α} {cs:List Value} (ke:KE E sz) (h:LqS E T sz lo w p cap n a L wr v s l cs)
  (hp:p<w.heap.size) (hs:PSt w1 p cap n a L s1) (he:Eff p wr w1) (hr:rem8 L s1≤rem8 L s):LqS E T sz lo w p cap n a L w1 v s1 l cs :=
 ⟨h.lst.keep ke he.2 (Nat.lt_of_lt_of_le hp h.base),hs,h.eff.trans he,by have:=h.few;omega,h.base,Nat.le_trans h.top he.size⟩
theorem LqS.low {w1 w5 w6 w7:World} {v:Value} {s:S8} {l:List α} {cs:List Value} (h:LqS E T sz lo w p cap n a L w1 v s l cs) (he:Eff p w1 w5) (h6:Below w5.heap.size w5 w6) (hgrow:w6.grownBy w7 v.ownBlock):∀ b,b<lo→w7.heap[b]?=w5.heap[b]?:=fun b hb=>by
 have h1:=h.top;have h15:=he.size;have h56:=h6.size;exact(hgrow.block b (by omega) (fun e=>by have:=(h.lst.own b e.symm).1;omega)).trans (h6.block b (by omega))
theorem LqS.more {w1 w5 w6 w7:World} {v:Value} {s s5:S8} {l:List α} {cs c1:List Value} {x:α} {m g cp:Nat} (ke:KE E sz) (h:LqS E T sz lo w p cap n a L w1 v s l cs)
  (hp:p<w.heap.size) (hx:Itm E w1.heap.size w5 c1 x) (hs:PSt w5 p cap n a L s5) (he:Eff p w1 w5) (h6:Below w5.heap.size w5 w6) (hm:m=l.length)
  (hown:w7.ownsRow 0 T sz (.slice (some ⟨g,0,none⟩) (m+1) cp) (m+1) (cs++c1)) (hgrow:w6.grownBy w7 v.ownBlock) (hat:v.ownBlock=some g∨g=w6.heap.size) (hlt:g<w7.heap.size) (hf:l.length+1+rem8 L s5≤L.length+2) :
  LqS E T sz lo w p cap n a L w7 (.slice (some ⟨g,0,none⟩) (m+1) cp) s5 (l++[x]) (cs++c1):=by
 have hsz:=h.top;have hbs:=h.base;have h15:=he.size;have h56:=h6.size;have h67:=hgrow.size;have hb57:=h.low he h6 hgrow;have h2:=h.eff.trans he;refine⟨h.lst.snoc ke he.2 (by omega) hsz hx h6 hm hown hgrow hat hlt,hs.same (fun b hb=>hb57 b (by omega)),?_,?_,hbs,by omega⟩
 ·exact⟨h2.1.trans ⟨hgrow.os.trans h6.os,hgrow.tape.trans h6.tape,hgrow.output.trans h6.output,by omega,fun k hk=>hb57 k (by omega)⟩,by omega,fun k hk hkp=>(hb57 k (by omega)).trans (h2.2.2 k hk hkp)⟩
 ·rw[List.length_append];exact hf
theorem LqS.boxed {wr:World} {v:Value} {s:S8} {l:List α} {cs:List Value} (ke:KE E sz) (h:LqS E T sz lo w p cap n a L wr v s l cs) (hp:p<w.heap.size) {X:Nat} (h1:w.heap.size≤X) (h2:X<lo) (j:Nat) (u:Value) :
  LqS E T sz lo w p cap n a L (wr.setCell ⟨X,j,none⟩ u) v s l cs:=by
 obtain⟨F,hl,hg⟩:=h.lst;refine⟨⟨F,hl.keep ke (fun b hb=>Below.heap_setCell _ _ _ _ (by have:=hg.lies b hb;show b≠X;omega)),hg.wide (Nat.le_refl _) (by simp)⟩,h.st.same (fun b hb=>Below.heap_setCell _ _ _ _ (by show b≠X;omega)),h.eff.mine hp h1 _ _,h.few,h.base,by have:=h.top;simpa using this⟩
theorem Lst.lit {w:World} {x:α} {c:List Value} (ke:KE E sz) (h:Itm E lo w c x) (hl:lo≤w.heap.size) (hown:(w.alloc (.cells c.toArray T)).ownsRow 0 T sz (.slice (some ⟨w.heap.size,0,none⟩) 1 1) 1 c) :
  Lst E T sz lo (w.alloc (.cells c.toArray T)) (.slice (some ⟨w.heap.size,0,none⟩) 1 1) [x] c:=by
 obtain⟨F,h1,h2⟩:=h;have hb:Below w.heap.size w (w.alloc (.cells c.toArray T)):=(Below.refl _ w).alloc (Nat.le_refl _) _;refine⟨[w.heap.size]++F,⟨hown,F,rfl,F,[],c,[],by simp,by simp,ke.keep h1 (fun b hb1=>hb.block b (h2.lies b hb1).2),rfl,rfl⟩,?_,?_⟩
 ·refine List.nodup_append.2 ⟨by simp,h2.uniq,fun a ha b hb e=>?_⟩;simp at ha;subst ha e;have:=(h2.lies _ hb).2;omega
 ·intro b hb1;rcases List.mem_append.1 hb1 with hb1|hb1
  ·simp at hb1;subst hb1;exact⟨hl,by simp⟩
  ·have h3:=h2.lies b hb1;have h4:=hb.size;omega
end
def ListQ {α:Type} (E:Shp α) (T:TypeId) (sz p cap n:Nat) (a:Option Addr) (L:List TokE) (R:S8 × List α) (w:World) (e:Ending) (w':World):Prop :=
 Go8 p cap n a L R.1 (fun e w'=>∃ v cs,e=.returned v∧Lst E T sz w.heap.size w' v R.2 cs) w e w'
section
variable {α:Type} {L:List TokE} {n:Nat} {s:S8} {item:S8→S8 × α}
theorem list_open (hi:∀ s,s.bad≠0→(item s).1=s) (h:(wantS L n s ⟨#[40]⟩).bad≠0):(listS L n item s).1=wantS L n s ⟨#[40]⟩:=by
 unfold listS;rw[isB_bad h,if_neg (by decide),hi _ h,loop_stk h]
theorem list_none (h:isB L (wantS L n s ⟨#[40]⟩) ⟨#[41]⟩=true):listS L n item s=(nextS (wantS L n s ⟨#[40]⟩),[]):=by
 unfold listS;rw[if_pos h]
theorem list_some (h:isB L (wantS L n s ⟨#[40]⟩) ⟨#[41]⟩=false):listS L n item s=loopS L n item (fuel8 L) (item (wantS L n s ⟨#[40]⟩)).1 [(item (wantS L n s ⟨#[40]⟩)).2]:=by
 unfold listS;rw[h,if_neg (by decide)]
end
open Lib(hid)
set_option maxHeartbeats 4000000
theorem plistI_any (p cap n:Nat) (a:Option Addr) (L:List TokE) (s:S8) (w:World) (h:PSt w p cap n a L s) :
  Calls Tryz.prog 75 #[.pointer (some ⟨p,0,none⟩),.func (.func 76) #[.pointer (some ⟨p,0,none⟩)] #[]] w (ListQ intE 3 1 p cap n a L (listS L n (kindS L n) s) w):=by
 obtain⟨i0,hi,hz0,hz1,hz2⟩:=info_parts3 infoIp;have hlt:=h.lt;have HW:=hid (pwant8_any p cap n a L s ⟨#[40]⟩ w h);have HWC:=hid (fun (s:S8) W (hW:PSt W p cap n a L s)=>pwant8_any p cap n a L s ⟨#[41]⟩ W hW);have HIT:=hid (fun (s:S8) W (hW:PSt W p cap n a L s)=>pfield8_any p cap n a L s W hW);have HO:=hid (list_open (L:=L) (n:=n) (s:=s) (item:=kindS L n) (fun _=>kind_stk));have HN:=hid (list_none (L:=L) (n:=n) (s:=s) (item:=kindS L n));have HM:=hid (list_some (L:=L) (n:=n) (s:=s) (item:=kindS L n));unfold ListQ;obtain⟨R,hR⟩:∃ R,R=listS L n (kindS L n) s:=⟨_,rfl⟩
 rw[← hR] at HO HN HM ⊢;unfold Go8;have HLE:=hid (want_le (L:=L) (n:=n) (s:=s) ⟨#[40]⟩ h.at_);clear h hR;generalize wantS L n s ⟨#[40]⟩=s0 at *
 cases hi0:isB L s0 ⟨#[41]⟩ with
 | true =>
  have HI:=hid hi0;have HQ:=hid (HN.out hi0);clear hi0 HN HM HO;go_enter Tryz.func75,Tryz.ntmps75;go_wp2_with (first
   | (go_at_call 55;(with_reducible refine(HW.out).mono ?_);rintro e w1 ⟨hg,he⟩;have HE1:=hid he;clear he;replace hg:=Or.symm hg;rcases hg with ⟨hg,rfl⟩|⟨rfl,hg⟩ <;> (have HG1:=hid hg;clear hg;try unfold gave8))
   | (go_at_call 53;(with_reducible refine(took8_yes HG1.out HI.out).mono ?_);rintro e w2 ⟨rfl,hs⟩;have HS2:=hid hs;clear hs))
  ·exact absurd (isB_yes HI.out).1 HG1.out
  ·go_ret;rw[HQ.out];exact⟨.inl ⟨⟨_,[],rfl,Lst.nil _ _ _ _ _⟩,HS2.out.1⟩,HE1.out.trans HS2.out.2⟩
 | false =>
  have HI:=hid hi0;have HQ:=hid (HM.out hi0);have hkl:=kind_le (L:=L) (n:=n) (s:=s0) HLE.out.1;have HSTEP:=hid hkl.1;have HIC:=hid (fun W (hW:PSt W p cap n a L s0)=>HIT.out s0 W hW);clear hi0 HN HM hkl;generalize kindS L n s0=KS at HIC HQ HSTEP;have HF0:=hid (rem8_le L KS.1);go_enter Tryz.func75,Tryz.ntmps75;go_upto_region 5 with (first
   | (go_at_call 55;(with_reducible refine(HW.out).mono ?_);rintro e w1 ⟨hg,he⟩;have HE1:=hid he;clear he;replace hg:=Or.symm hg;rcases hg with ⟨hg,rfl⟩|⟨rfl,hg⟩ <;> (have HG1:=hid hg;clear hg;try unfold gave8))
   | (go_at_call 53;(with_reducible refine(took8_no HG1.out HI.out).mono ?_);rintro e w2 ⟨rfl,hs⟩;have HS2:=hid hs;clear hs)
   | (go_at_call 76;(with_reducible refine(HIC.out _ HS2.out.1).mono ?_);rintro e w3 ⟨hg,he⟩;have HE3:=hid he;clear he;replace hg:=Or.symm hg;rcases hg with ⟨hg,rfl⟩|⟨rfl,hg⟩ <;> (have HG3:=hid hg;clear hg;try unfold gave8)))
  ·rw[HO.out HG1.out];exact⟨rfl,.inr ⟨HG1.out,rfl⟩,HE1.out⟩
  ·have h0:R.1=KS.1:=by rw[HQ.out,loop_stk HG3.out]
   rw[h0];exact⟨rfl,.inr ⟨HG3.out,rfl⟩,(HE1.out.trans HS2.out.2).trans HE3.out⟩
  have he3:=(HE1.out.trans HS2.out.2).trans HE3.out;have hb4:Below w3.heap.size w3 (w3.alloc (.cells #[.int .i64 KS.2] 3)):=(Below.refl _ _).alloc (Nat.le_refl _) _;have HL4:Hid (LqS intE 3 1 w.heap.size w p cap n a L (w3.alloc (.cells #[.int .i64 KS.2] 3)) (.slice (some ⟨w3.heap.size,0,none⟩) 1 1) KS.1 [KS.2] [.int .i64 KS.2]):=hid ⟨Lst.lit (c:=[.int .i64 KS.2]) intK ((itm_intp KS.2 _ _).wide (HE1.out.trans HS2.out.2).size) he3.size (World.ownsRow_lit (base:=0) (size:=1) w3 #[.int .i64 KS.2] 1 (Nat.zero_le _) (by unfold maxLen;omega) rfl),HG3.out.below hb4,he3.trans (Eff.of_below hb4 HG3.out.lt),by have h1:=HF0.out;unfold fuel8 at h1;show 1+_≤_;omega,Nat.le_refl _,by have:=he3.size;have:=hb4.size;omega⟩;clear he3 hb4 HS2 HE1 HE3 HG1 HG3 HIC;generalize w3.alloc (.cells #[.int .i64 KS.2] 3)=w4 at HL4 ⊢;generalize w3.heap.size=g0 at HL4 ⊢
  go_loopg [5] (fuel8 L) (fun gk v wr=>∃ (s1:S8) (l:List Int) (cs:List Value) (ad2:Option Addr) (cp2:Nat),v=.slice ad2 l.length cp2∧Hid (rem8 L s1<gk)∧Hid (R=loopS L n (kindS L n) gk s1 l)∧Hid (LqS intE 3 1 w.heap.size w p cap n a L wr (.slice ad2 l.length cp2) s1 l cs))
  case atStart=>exact⟨KS.1,[KS.2],[.int .i64 KS.2],some ⟨g0,0,none⟩,1,rfl,HF0,HQ,HL4⟩
  case round =>
   obtain⟨s1,l,cs,ad2,cp2,rfl,HG,HQ4,HL⟩:=hrel;clear HL4 HF0 HQ;obtain⟨f,rfl⟩:∃ f,gk=f+1:=⟨gk-1,by have:=HG.out;omega⟩
   cases hi1:isB L s1 ⟨#[44]⟩ with
   | true =>
    have HI1:=hid hi1;have HQ1:Hid (R=loopS L n (kindS L n) f (kindS L n (nextS s1)).1 (l++[(kindS L n (nextS s1)).2])):=hid (by rw[HQ4.out,loop_comma HL.out.st.ok hi1]);have hn:=is_lt hi1 HL.out.st.at_;have hk:=kind_le (L:=L) (n:=n) (s:=nextS s1) hn.1;have HSR:Hid (rem8 L (kindS L n (nextS s1)).1+1≤rem8 L s1):=hid (by have h1:=hn.2;have h2:=hk.2;omega);have HSN:=hid (Nat.le_of_lt hn.2);have HIC:=hid (fun W (hW:PSt W p cap n a L (nextS s1))=>HIT.out (nextS s1) W hW);clear hi1 HQ4 hn hk;generalize kindS L n (nextS s1)=KS at HIC HQ1 HSR;go_upto_region 7 with (first
     | (go_at_call 53;(with_reducible refine(took8_yes HL.out.st HI1.out).mono ?_);rintro e w4 ⟨rfl,hs⟩;have HS4:=hid hs;clear hs)
     | (go_at_call 76;(with_reducible refine(HIC.out _ HS4.out.1).mono ?_);rintro e w5 ⟨hg,he⟩;have HE5:=hid he;clear he;replace hg:=Or.symm hg;rcases hg with ⟨hg,rfl⟩|⟨rfl,hg⟩ <;> (have HG5:=hid hg;clear hg;try unfold gave8))
     | (at_builtin;refine wpList_append_lies _ rfl (.tmp 15) (.tmp 18) 53 rfl 0 3 i0 (.int .i64 0) 1 8 Tryz.underlying53 hi hz0 hz1 hz2 rfl (by decide) (.slice ad2 l.length cp2) l.length cs rfl ((LqS.step intK HL.out hlt HG5.out (HS4.out.2.trans HE5.out) (by have:=HSR.out;omega)).lst.row.alloc (.cells #[.int .i64 KS.2] 3)) ⟨w5.heap.size,0,none⟩ 1 1 [.int .i64 KS.2] rfl rfl (news_one w5 (.int .i64 KS.2) 3) (fun u hu=>by simp at hu;subst hu;rfl) (by decide) (by have:=HL.out.few;have:=HL.out.st.len;unfold maxLen;omega) (by have:=HL.out.few;have:=HL.out.st.len;omega) (Nat.zero_le _) _ rfl ?_;intro g cp w7 hown hgrow hat hlt7;have HL7:=hid (LqS.more intK (LqS.step intK HL.out hlt HS4.out.1 HS4.out.2 HSN.out) hlt ((itm_intp KS.2 _ _)) HG5.out HE5.out ((Below.refl _ w5).alloc (Nat.le_refl _) (.cells #[.int .i64 KS.2] 3)) rfl hown hgrow hat hlt7 (by have h1:=HL.out.few;have h2:=HSR.out;omega));clear hown hgrow hat hlt7))
    ·have h0:R.1=KS.1:=by rw[HQ1.out,loop_stk HG5.out]
     rw[h0];exact⟨rfl,.inr ⟨HG5.out,rfl⟩,HL.out.eff.trans (HS4.out.2.trans HE5.out)⟩
    go_roundg f
    case measure=>exact Nat.lt_succ_self f
    case rel=>exact⟨_,l++[KS.2],_,some ⟨g,0,none⟩,cp,by simp,hid (by have:=HSR.out;have:=HG.out;omega),HQ1,by rw[show (l++[KS.2]).length=l.length+1 by simp];exact HL7⟩
   | false =>
    have HI1:=hid hi1;have hq:=loop_end (L:=L) (n:=n) (s:=s1) (item:=kindS L n) (fun _=>kind_stk) (f:=f) (l:=l) HL.out.st.ok hi1;rw[← HQ4.out] at hq;have HQ1:=hid hq;have HWL:=hid (want_le (L:=L) (n:=n) (s:=s1) ⟨#[41]⟩ HL.out.st.at_);have HWE:=hid (HWC.out s1);clear hi1 HQ4 hq HIT;generalize wantS L n s1 ⟨#[41]⟩=s9 at HQ1 HWL HWE;go_wp2_with (first
     | (go_at_call 53;(with_reducible refine(took8_no HL.out.st HI1.out).mono ?_);rintro e w4 ⟨rfl,hs⟩;have HS4:=hid hs;clear hs)
     | (go_at_call 55;(with_reducible refine(HWE.out w4 HS4.out.1).mono ?_);rintro e w1 ⟨hg,he⟩;have HE1:=hid he;clear he;replace hg:=Or.symm hg;rcases hg with ⟨hg,rfl⟩|⟨rfl,hg⟩ <;> (have HG1:=hid hg;clear hg;try unfold gave8)))
    ·rw[HQ1.out.1];exact⟨rfl,.inr ⟨HG1.out,rfl⟩,HL.out.eff.trans (HS4.out.2.trans HE1.out)⟩
    ·go_ret;have h4:=LqS.step intK HL.out hlt HG1.out (HS4.out.2.trans HE1.out) HWL.out.2;rw[HQ1.out.1,HQ1.out.2 HG1.out.ok];exact⟨.inl ⟨⟨_,_,rfl,h4.lst⟩,HG1.out⟩,h4.eff⟩
theorem plistS_any (p cap n:Nat) (a:Option Addr) (L:List TokE) (s:S8) (w:World) (h:PSt w p cap n a L s) :
  Calls Tryz.prog 77 #[.pointer (some ⟨p,0,none⟩),.func (.func 78) #[.pointer (some ⟨p,0,none⟩)] #[]] w (ListQ strE 9 1 p cap n a L (listS L n (varS L n) s) w):=by
 obtain⟨i0,hi,hz0,hz1,hz2⟩:=info_parts3 infoSp;have hlt:=h.lt;have HW:=hid (pwant8_any p cap n a L s ⟨#[40]⟩ w h);have HWC:=hid (fun (s:S8) W (hW:PSt W p cap n a L s)=>pwant8_any p cap n a L s ⟨#[41]⟩ W hW);have HIT:=hid (fun (s:S8) W (hW:PSt W p cap n a L s)=>pvar8_any p cap n a L s W hW);have HO:=hid (list_open (L:=L) (n:=n) (s:=s) (item:=varS L n) (fun _=>var_stk));have HN:=hid (list_none (L:=L) (n:=n) (s:=s) (item:=varS L n));have HM:=hid (list_some (L:=L) (n:=n) (s:=s) (item:=varS L n));unfold ListQ;obtain⟨R,hR⟩:∃ R,R=listS L n (varS L n) s:=⟨_,rfl⟩
 rw[← hR] at HO HN HM ⊢;unfold Go8;have HLE:=hid (want_le (L:=L) (n:=n) (s:=s) ⟨#[40]⟩ h.at_);clear h hR;generalize wantS L n s ⟨#[40]⟩=s0 at *
 cases hi0:isB L s0 ⟨#[41]⟩ with
 | true =>
  have HI:=hid hi0;have HQ:=hid (HN.out hi0);clear hi0 HN HM HO;go_enter Tryz.func77,Tryz.ntmps77;go_wp2_with (first
   | (go_at_call 55;(with_reducible refine(HW.out).mono ?_);rintro e w1 ⟨hg,he⟩;have HE1:=hid he;clear he;replace hg:=Or.symm hg;rcases hg with ⟨hg,rfl⟩|⟨rfl,hg⟩ <;> (have HG1:=hid hg;clear hg;try unfold gave8))
   | (go_at_call 53;(with_reducible refine(took8_yes HG1.out HI.out).mono ?_);rintro e w2 ⟨rfl,hs⟩;have HS2:=hid hs;clear hs))
  ·exact absurd (isB_yes HI.out).1 HG1.out
  ·go_ret;rw[HQ.out];exact⟨.inl ⟨⟨_,[],rfl,Lst.nil _ _ _ _ _⟩,HS2.out.1⟩,HE1.out.trans HS2.out.2⟩
 | false =>
  have HI:=hid hi0;have HQ:=hid (HM.out hi0);have hkl:=var_le (L:=L) (n:=n) (s:=s0) HLE.out.1;have HSTEP:=hid hkl.1;have HIC:=hid (fun W (hW:PSt W p cap n a L s0)=>HIT.out s0 W hW);clear hi0 HN HM hkl;generalize varS L n s0=KS at HIC HQ HSTEP;have HF0:=hid (rem8_le L KS.1);go_enter Tryz.func77,Tryz.ntmps77;go_upto_region 5 with (first
   | (go_at_call 55;(with_reducible refine(HW.out).mono ?_);rintro e w1 ⟨hg,he⟩;have HE1:=hid he;clear he;replace hg:=Or.symm hg;rcases hg with ⟨hg,rfl⟩|⟨rfl,hg⟩ <;> (have HG1:=hid hg;clear hg;try unfold gave8))
   | (go_at_call 53;(with_reducible refine(took8_no HG1.out HI.out).mono ?_);rintro e w2 ⟨rfl,hs⟩;have HS2:=hid hs;clear hs)
   | (go_at_call 78;(with_reducible refine(HIC.out _ HS2.out.1).mono ?_);rintro e w3 ⟨hg,he⟩;have HE3:=hid he;clear he;replace hg:=Or.symm hg;rcases hg with ⟨hg,rfl⟩|⟨rfl,hg⟩ <;> (have HG3:=hid hg;clear hg;try unfold gave8)))
  ·rw[HO.out HG1.out];exact⟨rfl,.inr ⟨HG1.out,rfl⟩,HE1.out⟩
  ·have h0:R.1=KS.1:=by rw[HQ.out,loop_stk HG3.out]
   rw[h0];exact⟨rfl,.inr ⟨HG3.out,rfl⟩,(HE1.out.trans HS2.out.2).trans HE3.out⟩
  have he3:=(HE1.out.trans HS2.out.2).trans HE3.out;have hb4:Below w3.heap.size w3 (w3.alloc (.cells #[.string KS.2] 9)):=(Below.refl _ _).alloc (Nat.le_refl _) _;have HL4:Hid (LqS strE 9 1 w.heap.size w p cap n a L (w3.alloc (.cells #[.string KS.2] 9)) (.slice (some ⟨w3.heap.size,0,none⟩) 1 1) KS.1 [KS.2] [.string KS.2]):=hid ⟨Lst.lit (c:=[.string KS.2]) strK ((itm_strp KS.2 _ _).wide (HE1.out.trans HS2.out.2).size) he3.size (World.ownsRow_lit (base:=0) (size:=1) w3 #[.string KS.2] 1 (Nat.zero_le _) (by unfold maxLen;omega) rfl),HG3.out.below hb4,he3.trans (Eff.of_below hb4 HG3.out.lt),by have h1:=HF0.out;unfold fuel8 at h1;show 1+_≤_;omega,Nat.le_refl _,by have:=he3.size;have:=hb4.size;omega⟩;clear he3 hb4 HS2 HE1 HE3 HG1 HG3 HIC;generalize w3.alloc (.cells #[.string KS.2] 9)=w4 at HL4 ⊢;generalize w3.heap.size=g0 at HL4 ⊢
  go_loopg [5] (fuel8 L) (fun gk v wr=>∃ (s1:S8) (l:List ByteArray) (cs:List Value) (ad2:Option Addr) (cp2:Nat),v=.slice ad2 l.length cp2∧Hid (rem8 L s1<gk)∧Hid (R=loopS L n (varS L n) gk s1 l)∧Hid (LqS strE 9 1 w.heap.size w p cap n a L wr (.slice ad2 l.length cp2) s1 l cs))
  case atStart=>exact⟨KS.1,[KS.2],[.string KS.2],some ⟨g0,0,none⟩,1,rfl,HF0,HQ,HL4⟩
  case round =>
   obtain⟨s1,l,cs,ad2,cp2,rfl,HG,HQ4,HL⟩:=hrel;clear HL4 HF0 HQ;obtain⟨f,rfl⟩:∃ f,gk=f+1:=⟨gk-1,by have:=HG.out;omega⟩
   cases hi1:isB L s1 ⟨#[44]⟩ with
   | true =>
    have HI1:=hid hi1;have HQ1:Hid (R=loopS L n (varS L n) f (varS L n (nextS s1)).1 (l++[(varS L n (nextS s1)).2])):=hid (by rw[HQ4.out,loop_comma HL.out.st.ok hi1]);have hn:=is_lt hi1 HL.out.st.at_;have hk:=var_le (L:=L) (n:=n) (s:=nextS s1) hn.1;have HSR:Hid (rem8 L (varS L n (nextS s1)).1+1≤rem8 L s1):=hid (by have h1:=hn.2;have h2:=hk.2;omega);have HSN:=hid (Nat.le_of_lt hn.2);have HIC:=hid (fun W (hW:PSt W p cap n a L (nextS s1))=>HIT.out (nextS s1) W hW);clear hi1 HQ4 hn hk;generalize varS L n (nextS s1)=KS at HIC HQ1 HSR;go_upto_region 7 with (first
     | (go_at_call 53;(with_reducible refine(took8_yes HL.out.st HI1.out).mono ?_);rintro e w4 ⟨rfl,hs⟩;have HS4:=hid hs;clear hs)
     | (go_at_call 78;(with_reducible refine(HIC.out _ HS4.out.1).mono ?_);rintro e w5 ⟨hg,he⟩;have HE5:=hid he;clear he;replace hg:=Or.symm hg;rcases hg with ⟨hg,rfl⟩|⟨rfl,hg⟩ <;> (have HG5:=hid hg;clear hg;try unfold gave8))
     | (at_builtin;refine wpList_append_lies _ rfl (.tmp 15) (.tmp 18) 88 rfl 0 9 i0 (.string ⟨#[]⟩) 1 16 Tryz.underlying88 hi hz0 hz1 hz2 rfl (by decide) (.slice ad2 l.length cp2) l.length cs rfl ((LqS.step strK HL.out hlt HG5.out (HS4.out.2.trans HE5.out) (by have:=HSR.out;omega)).lst.row.alloc (.cells #[.string KS.2] 9)) ⟨w5.heap.size,0,none⟩ 1 1 [.string KS.2] rfl rfl (news_one w5 (.string KS.2) 9) (fun u hu=>by simp at hu;subst hu;rfl) (by decide) (by have:=HL.out.few;have:=HL.out.st.len;unfold maxLen;omega) (by have:=HL.out.few;have:=HL.out.st.len;omega) (Nat.zero_le _) _ rfl ?_;intro g cp w7 hown hgrow hat hlt7;have HL7:=hid (LqS.more strK (LqS.step strK HL.out hlt HS4.out.1 HS4.out.2 HSN.out) hlt ((itm_strp KS.2 _ _)) HG5.out HE5.out ((Below.refl _ w5).alloc (Nat.le_refl _) (.cells #[.string KS.2] 9)) rfl hown hgrow hat hlt7 (by have h1:=HL.out.few;have h2:=HSR.out;omega));clear hown hgrow hat hlt7))
    ·have h0:R.1=KS.1:=by rw[HQ1.out,loop_stk HG5.out]
     rw[h0];exact⟨rfl,.inr ⟨HG5.out,rfl⟩,HL.out.eff.trans (HS4.out.2.trans HE5.out)⟩
    go_roundg f
    case measure=>exact Nat.lt_succ_self f
    case rel=>exact⟨_,l++[KS.2],_,some ⟨g,0,none⟩,cp,by simp,hid (by have:=HSR.out;have:=HG.out;omega),HQ1,by rw[show (l++[KS.2]).length=l.length+1 by simp];exact HL7⟩
   | false =>
    have HI1:=hid hi1;have hq:=loop_end (L:=L) (n:=n) (s:=s1) (item:=varS L n) (fun _=>var_stk) (f:=f) (l:=l) HL.out.st.ok hi1;rw[← HQ4.out] at hq;have HQ1:=hid hq;have HWL:=hid (want_le (L:=L) (n:=n) (s:=s1) ⟨#[41]⟩ HL.out.st.at_);have HWE:=hid (HWC.out s1);clear hi1 HQ4 hq HIT;generalize wantS L n s1 ⟨#[41]⟩=s9 at HQ1 HWL HWE;go_wp2_with (first
     | (go_at_call 53;(with_reducible refine(took8_no HL.out.st HI1.out).mono ?_);rintro e w4 ⟨rfl,hs⟩;have HS4:=hid hs;clear hs)
     | (go_at_call 55;(with_reducible refine(HWE.out w4 HS4.out.1).mono ?_);rintro e w1 ⟨hg,he⟩;have HE1:=hid he;clear he;replace hg:=Or.symm hg;rcases hg with ⟨hg,rfl⟩|⟨rfl,hg⟩ <;> (have HG1:=hid hg;clear hg;try unfold gave8)))
    ·rw[HQ1.out.1];exact⟨rfl,.inr ⟨HG1.out,rfl⟩,HL.out.eff.trans (HS4.out.2.trans HE1.out)⟩
    ·go_ret;have h4:=LqS.step strK HL.out hlt HG1.out (HS4.out.2.trans HE1.out) HWL.out.2;rw[HQ1.out.1,HQ1.out.2 HG1.out.ok];exact⟨.inl ⟨⟨_,_,rfl,h4.lst⟩,HG1.out⟩,h4.eff⟩
theorem plistE_any (p cap n:Nat) (a:Option Addr) (L:List TokE) (s:S8) (w:World) (h:PSt w p cap n a L s) :
  Calls Tryz.prog 82 #[.pointer (some ⟨p,0,none⟩),.func (.func 61) #[.pointer (some ⟨p,0,none⟩)] #[]] w (ListQ exE 41 1 p cap n a L (listS L n (exprS L n) s) w):=by
 obtain⟨i0,hi,hz0,hz1,hz2⟩:=info_parts3 infoEp;have hlt:=h.lt;have HW:=hid (pwant8_any p cap n a L s ⟨#[40]⟩ w h);have HWC:=hid (fun (s:S8) W (hW:PSt W p cap n a L s)=>pwant8_any p cap n a L s ⟨#[41]⟩ W hW);have HIT:=hid (fun (s:S8) W (hW:PSt W p cap n a L s)=>pexpr8_any p cap n a L s W hW);have HO:=hid (list_open (L:=L) (n:=n) (s:=s) (item:=exprS L n) (fun _=>expr_stk));have HN:=hid (list_none (L:=L) (n:=n) (s:=s) (item:=exprS L n));have HM:=hid (list_some (L:=L) (n:=n) (s:=s) (item:=exprS L n));unfold ListQ;obtain⟨R,hR⟩:∃ R,R=listS L n (exprS L n) s:=⟨_,rfl⟩
 rw[← hR] at HO HN HM ⊢;unfold Go8;have HLE:=hid (want_le (L:=L) (n:=n) (s:=s) ⟨#[40]⟩ h.at_);clear h hR;generalize wantS L n s ⟨#[40]⟩=s0 at *
 cases hi0:isB L s0 ⟨#[41]⟩ with
 | true =>
  have HI:=hid hi0;have HQ:=hid (HN.out hi0);clear hi0 HN HM HO;go_enter Tryz.func82,Tryz.ntmps82;go_wp2_with (first
   | (go_at_call 55;(with_reducible refine(HW.out).mono ?_);rintro e w1 ⟨hg,he⟩;have HE1:=hid he;clear he;replace hg:=Or.symm hg;rcases hg with ⟨hg,rfl⟩|⟨rfl,hg⟩ <;> (have HG1:=hid hg;clear hg;try unfold gave8))
   | (go_at_call 53;(with_reducible refine(took8_yes HG1.out HI.out).mono ?_);rintro e w2 ⟨rfl,hs⟩;have HS2:=hid hs;clear hs))
  ·exact absurd (isB_yes HI.out).1 HG1.out
  ·go_ret;rw[HQ.out];exact⟨.inl ⟨⟨_,[],rfl,Lst.nil _ _ _ _ _⟩,HS2.out.1⟩,HE1.out.trans HS2.out.2⟩
 | false =>
  have HI:=hid hi0;have HQ:=hid (HM.out hi0);have hkl:=expr_le (L:=L) (n:=n) (s:=s0) HLE.out.1;have HSTEP:=hid hkl.1;have HIC:=hid (fun W (hW:PSt W p cap n a L s0)=>HIT.out s0 W hW);clear hi0 HN HM hkl;generalize exprS L n s0=KS at HIC HQ HSTEP;have HF0:=hid (rem8_le L KS.1);go_enter Tryz.func82,Tryz.ntmps82;go_upto_region 5 with (first
   | (go_at_call 55;(with_reducible refine(HW.out).mono ?_);rintro e w1 ⟨hg,he⟩;have HE1:=hid he;clear he;replace hg:=Or.symm hg;rcases hg with ⟨hg,rfl⟩|⟨rfl,hg⟩ <;> (have HG1:=hid hg;clear hg;try unfold gave8))
   | (go_at_call 53;(with_reducible refine(took8_no HG1.out HI.out).mono ?_);rintro e w2 ⟨rfl,hs⟩;have HS2:=hid hs;clear hs)
   | (go_at_call 61;(with_reducible refine(HIC.out _ HS2.out.1).mono ?_);rintro e w3 ⟨hg,he⟩;have HE3:=hid he;clear he;replace hg:=Or.symm hg;rcases hg with ⟨hg,rfl⟩|⟨⟨v,rfl,hit⟩,hg⟩ <;> first|(obtain⟨ad,m,c,rfl⟩:=ex_slice hit;have HIT3:=hid hit;have HG3:=hid hg;clear hg hit)|(have HG3:=hid hg;clear hg;try unfold gave8)))
  ·rw[HO.out HG1.out];exact⟨rfl,.inr ⟨HG1.out,rfl⟩,HE1.out⟩
  ·have h0:R.1=KS.1:=by rw[HQ.out,loop_stk HG3.out]
   rw[h0];exact⟨rfl,.inr ⟨HG3.out,rfl⟩,(HE1.out.trans HS2.out.2).trans HE3.out⟩
  have he3:=(HE1.out.trans HS2.out.2).trans HE3.out;have hb4:Below w3.heap.size w3 (w3.alloc (.cells #[.slice ad m c] 41)):=(Below.refl _ _).alloc (Nat.le_refl _) _;have HL4:Hid (LqS exE 41 1 w.heap.size w p cap n a L (w3.alloc (.cells #[.slice ad m c] 41)) (.slice (some ⟨w3.heap.size,0,none⟩) 1 1) KS.1 [KS.2] [.slice ad m c]):=hid ⟨Lst.lit (c:=[.slice ad m c]) exK (HIT3.out.wide (HE1.out.trans HS2.out.2).size) he3.size (World.ownsRow_lit (base:=0) (size:=1) w3 #[.slice ad m c] 1 (Nat.zero_le _) (by unfold maxLen;omega) rfl),HG3.out.below hb4,he3.trans (Eff.of_below hb4 HG3.out.lt),by have h1:=HF0.out;unfold fuel8 at h1;show 1+_≤_;omega,Nat.le_refl _,by have:=he3.size;have:=hb4.size;omega⟩;clear he3 hb4 HS2 HE1 HE3 HG1 HG3 HIC HIT3;generalize w3.alloc (.cells #[.slice ad m c] 41)=w4 at HL4 ⊢;generalize w3.heap.size=g0 at HL4 ⊢
  go_loopg [5] (fuel8 L) (fun gk v wr=>∃ (s1:S8) (l:List (Option Ex)) (cs:List Value) (ad2:Option Addr) (cp2:Nat),v=.slice ad2 l.length cp2∧Hid (rem8 L s1<gk)∧Hid (R=loopS L n (exprS L n) gk s1 l)∧Hid (LqS exE 41 1 w.heap.size w p cap n a L wr (.slice ad2 l.length cp2) s1 l cs))
  case atStart=>exact⟨KS.1,[KS.2],[.slice ad m c],some ⟨g0,0,none⟩,1,rfl,HF0,HQ,HL4⟩
  case round =>
   obtain⟨s1,l,cs,ad2,cp2,rfl,HG,HQ4,HL⟩:=hrel;clear HL4 HF0 HQ;obtain⟨f,rfl⟩:∃ f,gk=f+1:=⟨gk-1,by have:=HG.out;omega⟩
   cases hi1:isB L s1 ⟨#[44]⟩ with
   | true =>
    have HI1:=hid hi1;have HQ1:Hid (R=loopS L n (exprS L n) f (exprS L n (nextS s1)).1 (l++[(exprS L n (nextS s1)).2])):=hid (by rw[HQ4.out,loop_comma HL.out.st.ok hi1]);have hn:=is_lt hi1 HL.out.st.at_;have hk:=expr_le (L:=L) (n:=n) (s:=nextS s1) hn.1;have HSR:Hid (rem8 L (exprS L n (nextS s1)).1+1≤rem8 L s1):=hid (by have h1:=hn.2;have h2:=hk.2;omega);have HSN:=hid (Nat.le_of_lt hn.2);have HIC:=hid (fun W (hW:PSt W p cap n a L (nextS s1))=>HIT.out (nextS s1) W hW);clear hi1 HQ4 hn hk;generalize exprS L n (nextS s1)=KS at HIC HQ1 HSR;go_upto_region 7 with (first
     | (go_at_call 53;(with_reducible refine(took8_yes HL.out.st HI1.out).mono ?_);rintro e w4 ⟨rfl,hs⟩;have HS4:=hid hs;clear hs)
     | (go_at_call 61;(with_reducible refine(HIC.out _ HS4.out.1).mono ?_);rintro e w5 ⟨hg,he⟩;have HE5:=hid he;clear he;replace hg:=Or.symm hg;rcases hg with ⟨hg,rfl⟩|⟨⟨v,rfl,hit⟩,hg⟩ <;> first|(obtain⟨ad,m,c,rfl⟩:=ex_slice hit;have HIT5:=hid hit;have HG5:=hid hg;clear hg hit)|(have HG5:=hid hg;clear hg;try unfold gave8))
     | (at_builtin;refine wpList_append_lies _ rfl (.tmp 15) (.tmp 18) 93 rfl 0 41 i0 (.agg #[.slice none 0 0]) 1 24 Tryz.underlying93 hi hz0 hz1 hz2 rfl (by decide) (.slice ad2 l.length cp2) l.length cs rfl ((LqS.step exK HL.out hlt HG5.out (HS4.out.2.trans HE5.out) (by have:=HSR.out;omega)).lst.row.alloc (.cells #[.slice ad m c] 41)) ⟨w5.heap.size,0,none⟩ 1 1 [.slice ad m c] rfl rfl (news_one w5 (.slice ad m c) 41) (fun u hu=>by simp at hu;subst hu;rfl) (by decide) (by have:=HL.out.few;have:=HL.out.st.len;unfold maxLen;omega) (by have:=HL.out.few;have:=HL.out.st.len;omega) (Nat.zero_le _) _ rfl ?_;intro g cp w7 hown hgrow hat hlt7;have HL7:=hid (LqS.more exK (LqS.step exK HL.out hlt HS4.out.1 HS4.out.2 HSN.out) hlt (HIT5.out) HG5.out HE5.out ((Below.refl _ w5).alloc (Nat.le_refl _) (.cells #[.slice ad m c] 41)) rfl hown hgrow hat hlt7 (by have h1:=HL.out.few;have h2:=HSR.out;omega));clear hown hgrow hat hlt7))
    ·have h0:R.1=KS.1:=by rw[HQ1.out,loop_stk HG5.out]
     rw[h0];exact⟨rfl,.inr ⟨HG5.out,rfl⟩,HL.out.eff.trans (HS4.out.2.trans HE5.out)⟩
    go_roundg f
    case measure=>exact Nat.lt_succ_self f
    case rel=>exact⟨_,l++[KS.2],_,some ⟨g,0,none⟩,cp,by simp,hid (by have:=HSR.out;have:=HG.out;omega),HQ1,by rw[show (l++[KS.2]).length=l.length+1 by simp];exact HL7⟩
   | false =>
    have HI1:=hid hi1;have hq:=loop_end (L:=L) (n:=n) (s:=s1) (item:=exprS L n) (fun _=>expr_stk) (f:=f) (l:=l) HL.out.st.ok hi1;rw[← HQ4.out] at hq;have HQ1:=hid hq;have HWL:=hid (want_le (L:=L) (n:=n) (s:=s1) ⟨#[41]⟩ HL.out.st.at_);have HWE:=hid (HWC.out s1);clear hi1 HQ4 hq HIT;generalize wantS L n s1 ⟨#[41]⟩=s9 at HQ1 HWL HWE;go_wp2_with (first
     | (go_at_call 53;(with_reducible refine(took8_no HL.out.st HI1.out).mono ?_);rintro e w4 ⟨rfl,hs⟩;have HS4:=hid hs;clear hs)
     | (go_at_call 55;(with_reducible refine(HWE.out w4 HS4.out.1).mono ?_);rintro e w1 ⟨hg,he⟩;have HE1:=hid he;clear he;replace hg:=Or.symm hg;rcases hg with ⟨hg,rfl⟩|⟨rfl,hg⟩ <;> (have HG1:=hid hg;clear hg;try unfold gave8)))
    ·rw[HQ1.out.1];exact⟨rfl,.inr ⟨HG1.out,rfl⟩,HL.out.eff.trans (HS4.out.2.trans HE1.out)⟩
    ·go_ret;have h4:=LqS.step exK HL.out hlt HG1.out (HS4.out.2.trans HE1.out) HWL.out.2;rw[HQ1.out.1,HQ1.out.2 HG1.out.ok];exact⟨.inl ⟨⟨_,_,rfl,h4.lst⟩,HG1.out⟩,h4.eff⟩
end Go.Proofs.YtkpboalccpancaaGreatDoor
