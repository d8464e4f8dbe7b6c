import Derived.Test.YtenlhcgpajphhaaGreatDoorMPpPut
import Derived.Test.YtenlhcgpajphhaaGreatDoorPpSameF
import Derived.Test.YtenlhcgpajphhaaGreatDoorMDpWholeP
import Derived.Maps.AppendAt
import Derived.Deep.RegionLaw
import Derived.Test.YtenlhcgpajphhaaGreatDoorMDpTag
import Derived.Deep.RegionHeld3
namespace Go.Proofs.YtenlhcgpajphhaaGreatDoor
open Go.RowKit
open Lib(hid)
set_option maxRecDepth 100000
set_option linter.all false
set_option maxHeartbeats 16000000
theorem q46 (W0 w:World) (b:Nat) (v:Value) (T:List UInt8) (x:ProgE) (c:List Value) (hH:qd7 qfR W0 c x) (hok:okP9 x) (hE:Env9 W0) (hS:Sht W0 w b v T) :
  Calls Tryz.prog 52 #[.pointer (some ⟨b,0,none⟩),.agg c.toArray] w (qk1 W0 b v w (T++wP x)):=by
 obtain⟨a1,p1,a2,p2,rfl,htags,hkinds⟩:=qdZ hH;obtain⟨tags,kinds⟩:=x;obtain⟨W1,hW1⟩:∃ W1,W1=w.alloc (.cells #[.slice a1 tags.length p1,.slice a2 kinds.length p2] 26):=⟨_,rfl⟩
 have hb1:Below w.heap.size w W1:=by rw[hW1];exact(Below.refl _ w).alloc (Nat.le_refl _) _
 have hx1:Bx W1 w.heap.size 26 [.slice a1 tags.length p1,.slice a2 kinds.length p2]:=by rw[hW1];exact Bx.new w _ _
 have c0:=hx1.c 0 rfl;have HW1:=hid hW1;have HX1:=hid hx1;have HNB:Hid (w.heap.size≠b):=hid (by have:=hS.box.lt;omega);have HNV:Hid (v.ownBlock≠some w.heap.size):=hid hS.fresh;have HS1:=hid (hS.next hb1);have HF0:Hid (Fr [b] v w W1 v):=hid (Fr.of_below hb1);have HF1:Hid (Fr [b] v W1 W1 v):=hid (Fr.refl _ _ _);have HTL:=hid htags;have HKL:=hid hkinds;have HOT:Hid (∀ p ∈ tags,okT8 p):=hid hok.tg;have HOK:Hid (∀ a ∈ kinds,okK8 a):=hid hok.kd;have fewT:=htags.few;have fewK:=hkinds.few;have hmf:∀ (fn:Fn) (first cap:Array Value) (w:World),(Instr.makeFunc fn first cap).run Tryz.prog w=.ok (.func fn first cap) w:=fun _ _ _ _=>rfl;have Z1:Hid ((⟨#[116,97,103,32]⟩:ByteArray).size≤1000000):=hid (by decide);have Z2:Hid ((⟨#[59,10]⟩:ByteArray).size≤1000000):=hid (by decide);have Z3:Hid ((⟨#[107,105,110,100,32]⟩:ByteArray).size≤1000000):=hid (by decide);have Z4:Hid ((⟨#[32,123,10]⟩:ByteArray).size≤1000000):=hid (by decide);have Z5:Hid ((⟨#[9]⟩:ByteArray).size≤1000000):=hid (by decide);have Z6:Hid ((⟨#[10]⟩:ByteArray).size≤1000000):=hid (by decide);have Z7:Hid ((⟨#[125,10]⟩:ByteArray).size≤1000000):=hid (by decide);generalize hNT:tags.length=NT at *
 generalize hNK:kinds.length=NK at *
 have HNT:=hid hNT;have HNK:=hid hNK;clear hW1 hb1 hx1 hS htags hkinds hH hok hNT hNK;unfold qk1;go_enter Tryz.func52,Tryz.ntmps52;go_upto_region 1 with (fail);rw[← HW1.out];generalize w.heap.size=E at *
 go_wp2
 go_loopw [16] (fun i wr=>∃ (k:Nat) (v':Value),i=.int .i64 k∧k≤NT∧Hid (Sht W0 wr b v' (qg6 (T++(tags.take k).flatMap wTl)))∧Hid (Fr [b] v W1 wr v')) (fun i _=>NT-(intOf i).toNat)
 case atStart=>exact⟨0,v,rfl,Nat.zero_le _,hid (by have:=HS1.out;rw[← qhI this.few] at this;exact this.to (by simp)),HF1⟩
 case round =>
  obtain⟨k,v3,rfl,hk,HSR,HFR⟩:=hrel;rcases Nat.lt_or_ge k NT with hlt|hge
  ·have hkl:k<tags.length:=by rw[HNT.out];exact hlt
   obtain⟨y,hy0⟩:∃ y,tags[k]?=some y:=⟨_,List.getElem?_eq_getElem hkl⟩
   obtain⟨g1,d1,rfl,hel,hcl⟩:=qeP qfV HTL.out hy0 HSR.out.bel;have hoy:=HOT.out y (qbW hy0);have hfl:=qjW wTl hy0;have HFL:=hid hfl;have HWT:Hid (wTl y=([116,97,103,32]++y.nm.data.toList)++(brT (y.tys.map tyN)++[59,10])):=hid rfl;generalize (tags.take k).flatMap wTl=P at *
   obtain⟨ay,py,rfl,hts⟩:=qfO hel;have y0:wr.cell? ⟨g1,k * 2,none⟩=some (.string y.nm):=hcl 0 _ rfl;have y1:wr.cell? ⟨g1,k * 2+1,none⟩=some (.slice ay y.tys.length py):=hcl 1 _ rfl;have HTS:=hid hts;have HTO:Hid (∀ z ∈ y.tys,z=1∨z=2∨z=3∨z=4):=hid hoy.ty;have HTN:=hid (qgA hoy.nm);obtain⟨W2,hW2⟩:∃ W2,W2=wr.alloc (.cells #[.string y.nm,.slice ay y.tys.length py] 78):=⟨_,rfl⟩
   have hb2:Below wr.heap.size wr W2:=by rw[hW2];exact(Below.refl _ wr).alloc (Nat.le_refl _) _
   have hx2:Bx W2 wr.heap.size 78 [.string y.nm,.slice ay y.tys.length py]:=by rw[hW2];exact Bx.new wr _ _
   have q0:=hx2.c 0 rfl;have HX2:=hid hx2;have HNB2:Hid (wr.heap.size≠b):=hid (by have:=HSR.out.box.lt;omega);have HNV2:Hid (v3.ownBlock≠some wr.heap.size):=hid HSR.out.fresh;have HSB:=hid (HSR.out.next hb2);have HFB:Hid (Fr [b] v W1 W2 v3):=hid (HFR.out.below hb2);have HW2:=hid hW2;clear hW2 hb2 hx2 hel hcl hoy hts hy0 hkl hfl;go_upto_region 5 with (fail);rw[← HW2.out];generalize wr.heap.size=E2 at *
   go_wp2_with (first
    | (go_at_call 83;refine(qgU HS5.out ⟨#[59,10]⟩ Z2.out).mono ?_;rintro e w6 ⟨rfl,v6,hs6,hf6⟩;have HS6:=hid hs6.cut;have HF6:=hid (HF5.out.trans hf6);clear hs6 hf6)
    | (go_at_call 84;refine(jbT W0 w4 b v4 _ y.tys ay py HTS.out HTO.out HS4.out).mono ?_;rintro e w5 ⟨rfl,v5,hs5,hf5⟩;have HS5:=hid hs5.cut;have HF5:=hid (HF4.out.trans hf5);clear hs5 hf5)
    | (go_at_call 83;refine(jcK HSB.out ⟨#[116,97,103,32]⟩ y.nm Z1.out HTN.out).mono ?_;rintro e w4 ⟨rfl,v4,hs4,hf4⟩;have HS4:=hid hs4.cut;have HF4:=hid (HFB.out.trans hf4);have q1:=(hf4.bx HX2.out (by simp[HNB2.out]) HNV2.out).c 1 rfl;clear hs4 hf4))
   go_roundw
   case rel=>exact⟨k+1,v6,by go_num,by omega,hid (HS6.out.to (by rw[HFL.out,HWT.out];simp)),HF6⟩
   case measure=>simp[intOf];omega
  ·obtain rfl:k=NT:=by omega
   have hfull:tags.take k=tags:=List.take_of_length_le (by rw[HNT.out];exact Nat.le_refl _);rw[hfull] at HSR;have hxr:=HFR.out.bx HX1.out (by simp[HNB.out]) HNV.out;have c1:=hxr.c 1 rfl;clear hfull hxr hge c0;generalize hT1:T++tags.flatMap wTl=T1 at *
   have HT1:=hid hT1;clear hT1;go_wp2
   go_loopw [36] (fun i wr=>∃ (k:Nat) (v':Value),i=.int .i64 k∧k≤NK∧Hid (Sht W0 wr b v' (qg6 (T1++(kinds.take k).flatMap wKl)))∧Hid (Fr [b] v W1 wr v')) (fun i _=>NK-(intOf i).toNat)
   case atStart=>exact⟨0,v3,rfl,Nat.zero_le _,hid (HSR.out.to (by simp)),HFR⟩
   case round =>
    obtain⟨j,v5,rfl,hj,HSQ,HFQ⟩:=hrel;rcases Nat.lt_or_ge j NK with hltj|hgej
    ·have hjl:j<kinds.length:=by rw[HNK.out];exact hltj
     obtain⟨y,hy0⟩:∃ y,kinds[j]?=some y:=⟨_,List.getElem?_eq_getElem hjl⟩
     obtain⟨g1,d1,rfl,hel,hcl⟩:=qeP qdY HKL.out hy0 HSQ.out.bel;have hoy:=HOK.out y (qbW hy0);have hfl:=qjW wKl hy0;have HFL:=hid hfl;have HWK:Hid (wKl y=([107,105,110,100,32]++(y.nm.data.toList++[32,123,10]))++(y.chords.flatMap wCl++[125,10])):=hid rfl;generalize (kinds.take j).flatMap wKl=P at *
     obtain⟨ay,py,rfl,hcs⟩:=qe0 hel;have y0:wr.cell? ⟨g1,j * 2,none⟩=some (.string y.nm):=hcl 0 _ rfl;have y1:wr.cell? ⟨g1,j * 2+1,none⟩=some (.slice ay y.chords.length py):=hcl 1 _ rfl;have HCS:=hid hcs;have fewC:=hcs.few;have HOC:Hid (∀ c ∈ y.chords,okC8 c):=hid hoy.ch;have HKN:=hid (qgA hoy.nm);generalize hNC:y.chords.length=NC at *
     have HNC:=hid hNC;obtain⟨W2,hW2⟩:∃ W2,W2=wr.alloc (.cells #[.string y.nm,.slice ay NC py] 69):=⟨_,rfl⟩
     have hb2:Below wr.heap.size wr W2:=by rw[hW2];exact(Below.refl _ wr).alloc (Nat.le_refl _) _
     have hx2:Bx W2 wr.heap.size 69 [.string y.nm,.slice ay NC py]:=by rw[hW2];exact Bx.new wr _ _
     have q0:=hx2.c 0 rfl;have HX2:=hid hx2;have HNB2:Hid (wr.heap.size≠b):=hid (by have:=HSQ.out.box.lt;omega);have HNV2:Hid (v5.ownBlock≠some wr.heap.size):=hid HSQ.out.fresh;have HSB:=hid (HSQ.out.next hb2);have HFB:Hid (Fr [b] v W1 W2 v5):=hid (HFQ.out.below hb2);have HW2:=hid hW2;clear hW2 hb2 hx2 hel hcl hoy hcs hy0 hjl hfl hNC;go_upto_region 12 with (fail);rw[← HW2.out];generalize wr.heap.size=E2 at *
     go_wp2_with (first
      | (go_at_call 83;refine(put3 HSB.out ⟨#[107,105,110,100,32]⟩ y.nm ⟨#[32,123,10]⟩ Z3.out HKN.out Z4.out).mono ?_;rintro e w4 ⟨rfl,v4,hs4,hf4⟩;have HS4:=hid hs4.cut;have HF4:=hid (HFB.out.trans hf4);have q1:=(hf4.bx HX2.out (by simp[HNB2.out]) HNV2.out).c 1 rfl;clear hs4 hf4))
     generalize hT2:T1++P++((⟨#[107,105,110,100,32]⟩:ByteArray).data.toList++(y.nm.data.toList++(⟨#[32,123,10]⟩:ByteArray).data.toList))=T2 at *
     have HT2:Hid (T1++P++([107,105,110,100,32]++(y.nm.data.toList++[32,123,10]))=T2):=hid hT2;clear hT2
     go_loopw [48] (fun i wr=>∃ (m:Nat) (v':Value),i=.int .i64 m∧m≤NC∧Hid (Sht W0 wr b v' (qg6 (T2++(y.chords.take m).flatMap wCl)))∧Hid (Fr [b] v W1 wr v')) (fun i _=>NC-(intOf i).toNat)
     case atStart=>exact⟨0,v4,rfl,Nat.zero_le _,hid (HS4.out.to (by simp)),HF4⟩
     case round =>
      obtain⟨m,v6,rfl,hm,HSC,HFC⟩:=hrel;rcases Nat.lt_or_ge m NC with hltm|hgem
      ·have hml:m<y.chords.length:=by rw[HNC.out];exact hltm
       obtain⟨z,hz0⟩:∃ z,y.chords[m]?=some z:=⟨_,List.getElem?_eq_getElem hml⟩
       obtain⟨g2,d2,rfl,hel,hcl⟩:=qeP qaM HCS.out hz0 HSC.out.bel;have hoz:=HOC.out z (qbW hz0);have hfl:=qjW wCl hz0;have HFLC:=hid hfl;have HWC:Hid (wCl z=[9]++(wC z++[10])):=hid rfl;have hcall:=fun w v T hS=>qrZ W0 w b v T z d2 hel hoz hE hS;unfold qk1 at hcall;generalize (y.chords.take m).flatMap wCl=PC at *
       obtain⟨ax,px,bx,mx,nx,cx,ox,rfl,_,_,_⟩:=qb4 hel;have z0:wr.cell? ⟨g2,m * 4,none⟩=some (.string z.nm):=hcl 0 _ rfl;have z1:wr.cell? ⟨g2,m * 4+1,none⟩=some (.slice ax z.parts.length px):=hcl 1 _ rfl;have z2:wr.cell? ⟨g2,m * 4+2,none⟩=some (.slice bx mx nx):=hcl 2 _ rfl;have z3:wr.cell? ⟨g2,m * 4+3,none⟩=some (.slice cx z.body.length ox):=hcl 3 _ rfl;have HC:=hid hcall;obtain⟨W3,hW3⟩:∃ W3,W3=wr.alloc (.cells #[.string z.nm,.slice ax z.parts.length px,.slice bx mx nx,.slice cx z.body.length ox] 44):=⟨_,rfl⟩
       have hb3:Below wr.heap.size wr W3:=by rw[hW3];exact(Below.refl _ wr).alloc (Nat.le_refl _) _
       have hx3:Bx W3 wr.heap.size 44 [.string z.nm,.slice ax z.parts.length px,.slice bx mx nx,.slice cx z.body.length ox]:=by rw[hW3];exact Bx.new wr _ _
       have HX3:=hid hx3;have HNB3:Hid (wr.heap.size≠b):=hid (by have:=HSC.out.box.lt;omega);have HNV3:Hid (v6.ownBlock≠some wr.heap.size):=hid HSC.out.fresh;have HSD:=hid (HSC.out.next hb3);have HFD:Hid (Fr [b] v W1 W3 v6):=hid (HFC.out.below hb3);have HW3:=hid hW3;clear hW3 hb3 hx3 hel hcl hoz hz0 hml hcall hfl;go_upto_region 16 with (fail);rw[← HW3.out];generalize wr.heap.size=E3 at *
       go_wp2_with (first
        | (go_at_call 83;refine(qgU HS8.out ⟨#[10]⟩ Z6.out).mono ?_;rintro e w9 ⟨rfl,v9,hs9,hf9⟩;have HS9:=hid hs9.cut;have HF9:=hid (HF8.out.trans hf9);clear hs9 hf9)
        | (go_at_call 55;refine(HC.out w7 v7 _ HS7.out).mono ?_;rintro e w8 ⟨rfl,v8,hs8,hf8⟩;have HS8:=hid hs8.cut;have HF8:=hid (HF7.out.trans hf8);clear hs8 hf8)
        | (go_at_call 83;refine(qgU HSD.out ⟨#[9]⟩ Z5.out).mono ?_;rintro e w7 ⟨rfl,v7,hs7,hf7⟩;have HS7:=hid hs7.cut;have HF7:=hid (HFD.out.trans hf7);have hx7:=hf7.bx HX3.out (by simp[HNB3.out]) HNV3.out;have r0:=hx7.c 0 rfl;have r1:=hx7.c 1 rfl;have r2:=hx7.c 2 rfl;have r3:=hx7.c 3 rfl;clear hs7 hf7 hx7))
       go_roundw
       case rel=>exact⟨m+1,v9,by go_num,by omega,hid (HS9.out.to (by rw[HFLC.out,HWC.out];simp)),HF9⟩
       case measure=>simp[intOf];omega
      ·obtain rfl:m=NC:=by omega
       have hfull:y.chords.take m=y.chords:=List.take_of_length_le (by rw[HNC.out];exact Nat.le_refl _);rw[hfull] at HSC;clear hfull hgem;go_wp2_with (first
        | (go_at_call 83;refine(qgU HSC.out ⟨#[125,10]⟩ Z7.out).mono ?_;rintro e w9 ⟨rfl,v9,hs9,hf9⟩;have HS9:=hid hs9.cut;have HF9:=hid (HFC.out.trans hf9);clear hs9 hf9))
       go_roundw
       case rel=>exact⟨j+1,v9,by go_num,by omega,hid (HS9.out.to (by rw[HFL.out,HWK.out,← HT2.out];simp)),HF9⟩
       case measure=>simp[intOf];omega
    ·obtain rfl:j=NK:=by omega
     have hfull:kinds.take j=kinds:=List.take_of_length_le (by rw[HNK.out];exact Nat.le_refl _);rw[hfull] at HSQ;clear hfull hgej;go_wp2;go_end0;refine⟨rfl,v5,HSQ.out.to ?_,HF0.out.trans HFQ.out⟩;rw[← HT1.out];show _=T++(tags.flatMap wTl++kinds.flatMap wKl)
     simp
open Go.Shelf
theorem quY {o:Option Ex} (h:okO o):okE o:=by
 obtain⟨t,rfl,h⟩:=h;intro t' e;cases e;exact⟨h.1,(qlG h).2⟩
theorem jaW {a:ActE} (h:okA8 a):okA a:=by
 refine⟨?_,fun o ho=>?_⟩
 ·by_cases h1:a.kd=1
  ·exact quY (h.to1 h1)
  ·rw[h.to0 h1];exact quZ
 ·rcases h.kd with h1|h1|h1|h1
  ·exact quY (h.ar1 (.inl h1) o ho)
  ·rw[h.ar0 (.inl h1)] at ho;cases ho
  ·exact quY (h.ar1 (.inr h1) o ho)
  ·rw[h.ar0 (.inr h1)] at ho;cases ho
theorem qv0 {c:ChordE} (h:okC8 c):okC c:=by
 refine⟨?_,fun a ha=>jaW (h.bd a ha)⟩;rcases h.gd with h1|h1
 ·rw[h1];exact quZ
 ·exact quY h1
theorem q0X {p:ProgE} (h:okP9 p):okP p:=fun k hk c hc=>qv0 ((h.kd k hk).ch c hc)
def qmJ (X:List UInt8) (w:World) (e:Ending) (w':World):Prop:=e=.returned (.tuple (if X.length≤32768 then #[.string ⟨X.toArray⟩,.int .i64 0] else #[.string ⟨#[]⟩,.int .i64 3]))∧Below w.heap.size w w'
theorem Env9.next {w w':World} (h:Env9 w) (hb:Below w.heap.size w w'):Env9 w':=⟨h.tab.of_block (hb.block _ h.gp),h.glob.below hb (Nat.le_refl _),Nat.lt_of_lt_of_le h.gp hb.size⟩
theorem qqX {p:ProgE} (h:okP9 p) (hl:(wP p).length≤32768) (n:Nat):qgO (wP p) n=(p,0,0):=by
 rw[qo9 h] at hl ⊢;exact q0I h (q7T p) hl n
theorem qnV {c:ChordE} (h:okC8 c) (hl:(wC c).length≤32768) (n:Nat):qh2 (wC c) n=(c,0,0):=by
 rw[qtY h.one] at hl ⊢;have:=qy8 h (tl:=[]) Bls.nil (by rw[List.append_nil];exact hl) n
 rwa [List.append_nil] at this
theorem qz7 (w:World) (x:ProgE) (c:List Value) (hH:qd7 qfR w c x) (hok:okP9 x) (hE:Env9 w) :
  Calls Tryz.prog 51 #[.agg c.toArray,.func (.func 52) #[] #[],.func (.func 11) #[] #[],.func (.func 53) #[] #[]] w (qmJ (wP x) w):=by
 have hH0:=hH;obtain⟨a1,p1,a2,p2,rfl,_,_⟩:=qdZ hH;obtain⟨W1,hW1⟩:∃ W1,W1=w.alloc (.cells #[.slice a1 x.tags.length p1,.slice a2 x.kinds.length p2] 26):=⟨_,rfl⟩
 have hb1:Below w.heap.size w W1:=by rw[hW1];exact(Below.refl _ w).alloc (Nat.le_refl _) _
 have hx1:Bx W1 w.heap.size 26 [.slice a1 x.tags.length p1,.slice a2 x.kinds.length p2]:=by rw[hW1];exact Bx.new w _ _
 obtain⟨W2,hW2⟩:∃ W2,W2=W1.alloc (.cells #[.slice none 0 0,.int .i64 0] 136):=⟨_,rfl⟩
 have hb2:Below W1.heap.size W1 W2:=by rw[hW2];exact(Below.refl _ W1).alloc (Nat.le_refl _) _
 have hs2:Sht W1 W2 W1.heap.size (.slice none 0 0) []:=⟨by rw[hW2];exact Bx.new W1 _ _,World.ownsRow_nil _ _ _ _,Nat.le_refl _,(fun e=>by cases e),Nat.zero_le _,hb2⟩
 have hz1:W1.heap.size=w.heap.size+1:=by rw[hW1];simp
 have hH1:=hH0.keep qhM hb1 (Nat.le_refl _);have hE1:=hE.next hb1;have HWR:=hid (q46 W1 W2 W1.heap.size (.slice none 0 0) [] x _ hH1 hok hE1 hs2);unfold qk1 at HWR;simp only[List.nil_append] at HWR;have HX1:=hid hx1;have HB1:=hid hb1;have HBW:Hid (Below w.heap.size w W2):=hid (hb1.trans (hb2.mono hb1.size));have HH1:=hid hH1;have HE1:=hid hE1;have HW1:=hid hW1;have HW2:=hid hW2;have HZ1:=hid hz1;have HRD:Hid ((wP x).length≤32768→∀ n,qgO (wP x) n=(x,0,0)):=hid (fun h n=>qqX hok h n);have HSM:=hid (fun W c1 c2 h1 h2=>qx2 x (q0X hok) c1 c2 W h1 h2);unfold qaT at HSM;have c0:=hx1.keep hb2 hx1.lt |>.c 0 rfl
 have c1:=hx1.keep hb2 hx1.lt |>.c 1 rfl
 have HM:=hid (show 0<w.heap.size+1 from Nat.succ_pos _);generalize hX:wP x=X at *
 clear hW1 hW2 hb1 hb2 hx1 hs2 hz1 hH hH0 hH1 hE hE1 hok hX;unfold qmJ;by_cases hlen:X.length≤32768
 ·rw[if_pos hlen];go_enter Tryz.func51,Tryz.ntmps51;go_upto_region 1 with (fail);rw[← HW1.out];go_upto_region 2 with (fail);rw[← HW2.out];rw[HZ1.out] at HWR ⊢;have hcut:qg6 X=X:=qhI (by omega);rw[hcut] at HWR;have HRD2:=hid (HRD.out hlen X.length);have d1:decide ((32768:Int)<(X.length:Int))=false:=decide_eq_false (by omega);have hlen9:X.length≤32768:=hlen;clear hcut HRD hlen;generalize hNX:X.length=NX at *
  have HNX:=hid hNX;clear hNX;go_upto_region 8 with (first
   | (go_at_call 11;refine HPA.out.mono ?_;rintro e w4 ⟨tv,kv,rfl,hit,hb4⟩;obtain⟨⟨ua,ma,ka,rfl⟩,⟨ub,mb,kb,rfl⟩⟩:=qgV hit;have hi4:=qfT hit;have HI4:=hid hi4;have HX4:=hid (HX3.out.keep hb4 HX3.out.lt);have HS4:=hid (HS3.out.next hb4);have HB4:=hid (HB3.out.trans (hb4.mono HB3.out.size));have HH4:=hid (HH3.out.keep qhM hb4 (Nat.le_refl _));clear hit hb4 hi4)
   | (go_at_call 52;refine HWR.out.mono ?_;rintro e w3 ⟨rfl,v3,hs3,hf3⟩;have hown:=qhS hs3.row HNX.out rfl;obtain⟨a3,c3,rfl⟩:=qbN hown;have s0:=hs3.box.c 0 rfl;have s1:=hs3.box.c 1 rfl;have hx3:=HX1.out.keep hs3.bel HX1.out.lt;have hb3:Below w.heap.size w w3:=HB1.out.trans (hs3.bel.mono HB1.out.size);have HS3:=hid hs3;have HX3:=hid hx3;have HB3:=hid hb3;have HO3:=hid hown;have HH3:=hid (HH1.out.keep qhM hs3.bel (Nat.le_refl _));have HE3:=hid (HE1.out.next hs3.bel);have hpa:=qjL a3 NX c3 X w3 (qd0 hown) HE3.out.glob.1 HE3.out.tab HE3.out.gp;rw[HRD2.out] at hpa;unfold qiA at hpa;have HPA:=hid hpa;clear hpa hs3 hf3 hown hx3 hb3))
  generalize hW5:World.alloc w4 _=W5;have hb5:Below w4.heap.size w4 W5:=by rw[← hW5];exact(Below.refl _ w4).alloc (Nat.le_refl _) _
  have hx5:Bx W5 w4.heap.size 26 [.slice ua ma ka,.slice ub mb kb]:=by rw[← hW5];exact Bx.new w4 _ _
  have hk5:=HX4.out.keep hb5 HX4.out.lt;have q0:=hk5.c 0 rfl;have q1:=hk5.c 1 rfl;have r0:=hx5.c 0 rfl;have r1:=hx5.c 1 rfl;have t0:=(HS4.out.box.keep hb5 HS4.out.box.lt).c 0 rfl;have HS5:=hid (HS4.out.next hb5);have HB5:=hid (HB4.out.trans (hb5.mono HB4.out.size));have HC5:=hid (HSM.out W5 _ _ (HI4.out.keep qhM hb5 (Nat.le_refl _)) (HH4.out.keep qhM hb5 (Nat.le_refl _)));clear hW5 hb5 hx5 hk5;generalize w4.heap.size=E4 at *
  go_wp2_with (first
   | (go_at_call 53;refine HC5.out.mono ?_;rintro e w6 ⟨rfl,hb6⟩;have hs6:=HS5.out.next hb6;have HB6:=hid (HB5.out.trans (hb6.mono HB5.out.size));have t6:=hs6.box.c 0 rfl;have hcv:=qhV (qd0 (qhS hs6.row HNX.out rfl));clear hb6 hs6))
  go_ret2
  exact⟨rfl,HB6.out⟩
 ·rw[if_neg hlen];have hlc:(qg6 X).length=32769:=by unfold qg6;rw[List.length_take];omega
  have HLC:=hid hlc;clear hlc hlen HRD;go_enter Tryz.func51,Tryz.ntmps51;go_upto_region 1 with (fail);rw[← HW1.out];go_upto_region 2 with (fail);rw[← HW2.out];rw[HZ1.out] at HWR ⊢;go_wp2_with (first
   | (go_at_call 52;refine HWR.out.mono ?_;rintro e w3 ⟨rfl,v3,hs3,hf3⟩;obtain⟨a3,c3,rfl⟩:=qbN (qhS hs3.row HLC.out rfl);have s0:=hs3.box.c 0 rfl;have s1:=hs3.box.c 1 rfl;have hb3:Below w.heap.size w w3:=HB1.out.trans (hs3.bel.mono HB1.out.size);have HB3:=hid hb3;clear hs3 hf3 hb3))
  go_ret2
  exact⟨rfl,HB3.out⟩
theorem qjJ (w:World) (x:ProgE) (c:List Value) (hH:qd7 qfR w c x) (hok:okP9 x) (hE:Env9 w):Calls Tryz.prog 27 #[.agg c.toArray] w (qmJ (wP x) w):=by
 have hH0:=hH;obtain⟨a1,p1,a2,p2,rfl,_,_⟩:=qdZ hH;obtain⟨W1,hW1⟩:∃ W1,W1=w.alloc (.cells #[.slice a1 x.tags.length p1,.slice a2 x.kinds.length p2] 26):=⟨_,rfl⟩
 have hb1:Below w.heap.size w W1:=by rw[hW1];exact(Below.refl _ w).alloc (Nat.le_refl _) _
 have hx1:Bx W1 w.heap.size 26 [.slice a1 x.tags.length p1,.slice a2 x.kinds.length p2]:=by rw[hW1];exact Bx.new w _ _
 have HC:=hid (qz7 W1 x _ (hH0.keep qhM hb1 (Nat.le_refl _)) hok (hE.next hb1));unfold qmJ at HC ⊢;have HB1:=hid hb1;have HW1:=hid hW1;have c0:=hx1.c 0 rfl;have c1:=hx1.c 1 rfl;have hT:(∃ s:ByteArray,∃ f:Int,(if (wP x).length≤32768 then #[.string ⟨(wP x).toArray⟩,.int .i64 0] else #[.string ⟨#[]⟩,.int .i64 3])=#[Value.string s,.int .i64 f]):=by
  by_cases h:(wP x).length≤32768
  ·rw[if_pos h];exact⟨_,_,rfl⟩
  ·rw[if_neg h];exact⟨_,_,rfl⟩
 obtain⟨s,f,hT⟩:=hT;rw[hT] at HC ⊢;clear hW1 hb1 hx1 hH hH0 hok hE hT;go_enter Tryz.func27,Tryz.ntmps27;go_upto_region 1 with (fail);rw[← HW1.out];go_wp2_with (go_at_call 51;refine HC.out.mono ?_;rintro e w2 ⟨rfl,hb2⟩;have HB2:=hid (HB1.out.trans (hb2.mono HB1.out.size));clear hb2)
 go_ret2
 exact⟨rfl,HB2.out⟩
theorem qwT (w:World) (x:ChordE) (c:List Value) (hH:qd7 qbB w c x) (hok:okC8 x) (hE:Env9 w) :
  Calls Tryz.prog 54 #[.agg c.toArray,.func (.func 55) #[] #[],.func (.func 17) #[] #[],.func (.func 56) #[] #[]] w (qmJ (wC x) w):=by
 have hH0:=hH;obtain⟨a1,p1,a2,m2,p2,a3,p3,rfl,_,_,_⟩:=qb4 hH;obtain⟨W1,hW1⟩:∃ W1,W1=w.alloc (.cells #[.string x.nm,.slice a1 x.parts.length p1,.slice a2 m2 p2,.slice a3 x.body.length p3] 44):=⟨_,rfl⟩
 have hb1:Below w.heap.size w W1:=by rw[hW1];exact(Below.refl _ w).alloc (Nat.le_refl _) _
 have hx1:Bx W1 w.heap.size 44 [.string x.nm,.slice a1 x.parts.length p1,.slice a2 m2 p2,.slice a3 x.body.length p3]:=by rw[hW1];exact Bx.new w _ _
 obtain⟨W2,hW2⟩:∃ W2,W2=W1.alloc (.cells #[.slice none 0 0,.int .i64 0] 136):=⟨_,rfl⟩
 have hb2:Below W1.heap.size W1 W2:=by rw[hW2];exact(Below.refl _ W1).alloc (Nat.le_refl _) _
 have hs2:Sht W1 W2 W1.heap.size (.slice none 0 0) []:=⟨by rw[hW2];exact Bx.new W1 _ _,World.ownsRow_nil _ _ _ _,Nat.le_refl _,(fun e=>by cases e),Nat.zero_le _,hb2⟩
 have hz1:W1.heap.size=w.heap.size+1:=by rw[hW1];simp
 have hH1:=hH0.keep qaM hb1 (Nat.le_refl _);have hE1:=hE.next hb1;have HWR:=hid (qrZ W1 W2 W1.heap.size (.slice none 0 0) [] x _ hH1 hok hE1 hs2);unfold qk1 at HWR;simp only[List.nil_append] at HWR;have HX1:=hid hx1;have HB1:=hid hb1;have HBW:Hid (Below w.heap.size w W2):=hid (hb1.trans (hb2.mono hb1.size));have HH1:=hid hH1;have HE1:=hid hE1;have HW1:=hid hW1;have HW2:=hid hW2;have HZ1:=hid hz1;have HRD:Hid ((wC x).length≤32768→∀ n,qh2 (wC x) n=(x,0,0)):=hid (fun h n=>qnV hok h n);have HSM:=hid (fun W c1 c2 h1 h2=>qlL x (qv0 hok) c1 c2 W h1 h2);unfold qaT at HSM;have c0:=hx1.keep hb2 hx1.lt |>.c 0 rfl
 have c1:=hx1.keep hb2 hx1.lt |>.c 1 rfl
 have c2:=hx1.keep hb2 hx1.lt |>.c 2 rfl
 have c3:=hx1.keep hb2 hx1.lt |>.c 3 rfl
 have HM:=hid (show 0<w.heap.size+1 from Nat.succ_pos _);generalize hX:wC x=X at *
 clear hW1 hW2 hb1 hb2 hx1 hs2 hz1 hH hH0 hH1 hE hE1 hok hX;unfold qmJ;by_cases hlen:X.length≤32768
 ·rw[if_pos hlen];go_enter Tryz.func54,Tryz.ntmps54;go_upto_region 1 with (fail);rw[← HW1.out];go_upto_region 2 with (fail);rw[← HW2.out];rw[HZ1.out] at HWR ⊢;have hcut:qg6 X=X:=qhI (by omega);rw[hcut] at HWR;have HRD2:=hid (HRD.out hlen X.length);have d1:decide ((32768:Int)<(X.length:Int))=false:=decide_eq_false (by omega);have hlen9:X.length≤32768:=hlen;clear hcut HRD hlen;generalize hNX:X.length=NX at *
  have HNX:=hid hNX;clear hNX;go_upto_region 8 with (first
   | (go_at_call 17;refine HPA.out.mono ?_;rintro e w4 ⟨pv,gv,bv,rfl,hit,hb4⟩;obtain⟨⟨ua,ma,ka,rfl⟩,⟨ub,mb,kb,rfl⟩,⟨uc,mc,kc,rfl⟩⟩:=qhJ hit;have hi4:=qfT hit;have HI4:=hid hi4;have HX4:=hid (HX3.out.keep hb4 HX3.out.lt);have HS4:=hid (HS3.out.next hb4);have HB4:=hid (HB3.out.trans (hb4.mono HB3.out.size));have HH4:=hid (HH3.out.keep qaM hb4 (Nat.le_refl _));clear hit hb4 hi4)
   | (go_at_call 55;refine HWR.out.mono ?_;rintro e w3 ⟨rfl,v3,hs3,hf3⟩;have hown:=qhS hs3.row HNX.out rfl;obtain⟨a9,c9,rfl⟩:=qbN hown;have s0:=hs3.box.c 0 rfl;have s1:=hs3.box.c 1 rfl;have hx3:=HX1.out.keep hs3.bel HX1.out.lt;have hb3:Below w.heap.size w w3:=HB1.out.trans (hs3.bel.mono HB1.out.size);have HS3:=hid hs3;have HX3:=hid hx3;have HB3:=hid hb3;have HO3:=hid hown;have HH3:=hid (HH1.out.keep qaM hs3.bel (Nat.le_refl _));have HE3:=hid (HE1.out.next hs3.bel);have hpa:=qnK a9 NX c9 X w3 (qd0 hown) HE3.out.glob.1 HE3.out.tab HE3.out.gp;rw[HRD2.out] at hpa;unfold qk2 at hpa;have HPA:=hid hpa;clear hpa hs3 hf3 hown hx3 hb3))
  generalize hW5:World.alloc w4 _=W5;have hb5:Below w4.heap.size w4 W5:=by rw[← hW5];exact(Below.refl _ w4).alloc (Nat.le_refl _) _
  have hx5:Bx W5 w4.heap.size 44 [.string x.nm,.slice ua ma ka,.slice ub mb kb,.slice uc mc kc]:=by rw[← hW5];exact Bx.new w4 _ _
  have hk5:=HX4.out.keep hb5 HX4.out.lt;have q0:=hk5.c 0 rfl;have r0:=hx5.c 0 rfl;have q1:=hk5.c 1 rfl;have r1:=hx5.c 1 rfl;have q2:=hk5.c 2 rfl;have r2:=hx5.c 2 rfl;have q3:=hk5.c 3 rfl;have r3:=hx5.c 3 rfl;have t0:=(HS4.out.box.keep hb5 HS4.out.box.lt).c 0 rfl;have HS5:=hid (HS4.out.next hb5);have HB5:=hid (HB4.out.trans (hb5.mono HB4.out.size));have HC5:=hid (HSM.out W5 _ _ (HI4.out.keep qaM hb5 (Nat.le_refl _)) (HH4.out.keep qaM hb5 (Nat.le_refl _)));clear hW5 hb5 hx5 hk5;generalize w4.heap.size=E4 at *
  go_wp2_with (first
   | (go_at_call 56;refine HC5.out.mono ?_;rintro e w6 ⟨rfl,hb6⟩;have hs6:=HS5.out.next hb6;have HB6:=hid (HB5.out.trans (hb6.mono HB5.out.size));have t6:=hs6.box.c 0 rfl;have hcv:=qhV (qd0 (qhS hs6.row HNX.out rfl));clear hb6 hs6))
  go_ret2
  exact⟨rfl,HB6.out⟩
 ·rw[if_neg hlen];have hlc:(qg6 X).length=32769:=by unfold qg6;rw[List.length_take];omega
  have HLC:=hid hlc;clear hlc hlen HRD;go_enter Tryz.func54,Tryz.ntmps54;go_upto_region 1 with (fail);rw[← HW1.out];go_upto_region 2 with (fail);rw[← HW2.out];rw[HZ1.out] at HWR ⊢;go_wp2_with (first
   | (go_at_call 55;refine HWR.out.mono ?_;rintro e w3 ⟨rfl,v3,hs3,hf3⟩;obtain⟨a9,c9,rfl⟩:=qbN (qhS hs3.row HLC.out rfl);have s0:=hs3.box.c 0 rfl;have s1:=hs3.box.c 1 rfl;have hb3:Below w.heap.size w w3:=HB1.out.trans (hs3.bel.mono HB1.out.size);have HB3:=hid hb3;clear hs3 hf3 hb3))
  go_ret2
  exact⟨rfl,HB3.out⟩
theorem qsT (w:World) (x:ChordE) (c:List Value) (hH:qd7 qbB w c x) (hok:okC8 x) (hE:Env9 w):Calls Tryz.prog 29 #[.agg c.toArray] w (qmJ (wC x) w):=by
 have hH0:=hH;obtain⟨a1,p1,a2,m2,p2,a3,p3,rfl,_,_,_⟩:=qb4 hH;obtain⟨W1,hW1⟩:∃ W1,W1=w.alloc (.cells #[.string x.nm,.slice a1 x.parts.length p1,.slice a2 m2 p2,.slice a3 x.body.length p3] 44):=⟨_,rfl⟩
 have hb1:Below w.heap.size w W1:=by rw[hW1];exact(Below.refl _ w).alloc (Nat.le_refl _) _
 have hx1:Bx W1 w.heap.size 44 [.string x.nm,.slice a1 x.parts.length p1,.slice a2 m2 p2,.slice a3 x.body.length p3]:=by rw[hW1];exact Bx.new w _ _
 have HC:=hid (qwT W1 x _ (hH0.keep qaM hb1 (Nat.le_refl _)) hok (hE.next hb1));unfold qmJ at HC ⊢;have HB1:=hid hb1;have HW1:=hid hW1;have c0:=hx1.c 0 rfl;have c1:=hx1.c 1 rfl;have c2:=hx1.c 2 rfl;have c3:=hx1.c 3 rfl;have hT:(∃ s:ByteArray,∃ f:Int,(if (wC x).length≤32768 then #[.string ⟨(wC x).toArray⟩,.int .i64 0] else #[.string ⟨#[]⟩,.int .i64 3])=#[Value.string s,.int .i64 f]):=by
  by_cases h:(wC x).length≤32768
  ·rw[if_pos h];exact⟨_,_,rfl⟩
  ·rw[if_neg h];exact⟨_,_,rfl⟩
 obtain⟨s,f,hT⟩:=hT;rw[hT] at HC ⊢;clear hW1 hb1 hx1 hH hH0 hok hE hT;go_enter Tryz.func29,Tryz.ntmps29;go_upto_region 1 with (fail);rw[← HW1.out];go_wp2_with (go_at_call 54;refine HC.out.mono ?_;rintro e w2 ⟨rfl,hb2⟩;have HB2:=hid (HB1.out.trans (hb2.mono HB1.out.size));clear hb2)
 go_ret2
 exact⟨rfl,HB2.out⟩
theorem qr3 {w:World} {g B:Nat} {T:TypeId} {sz:Nat} (h:Bx w g T []) (hB:B≤g):w.ownsRow B T sz (.slice (some ⟨g,0,none⟩) 0 0) 0 [] :=
 ⟨by simp,.inr ⟨g,0,#[],rfl,hB,h,Nat.le_refl _,Nat.zero_le _,by simp,by simp⟩⟩
theorem qr4 {w:World} {B B' n sz:Nat} {T:TypeId} {v:Value} {xs:List Value} (h:w.ownsRow B T sz v n xs) (hb:B'≤B):w.ownsRow B' T sz v n xs:=by
 refine⟨h.1,?_⟩;rcases h.2 with hn|⟨g,cap,cur,hv,hbs,rest⟩
 ·exact .inl hn
 ·exact .inr ⟨g,cap,cur,hv,Nat.le_trans hb hbs,rest⟩
theorem qlM (w:World) (t ty:TypeId) (B:Nat) (T:TypeId) (i:TypeInfo) (z:Value) (sz bytes:Nat) (ht:Tryz.prog.underlying t=some (.slice T)) (hi:Tryz.prog.info? T=some i) (hz:i.zero=some z∧i.size=sz∧i.bytes=bytes) (hzs:z.cells.size=sz) (hsz:0<sz)
  (g:Nat) (hg:Bx w g T []) (hB:B≤g) (v:Value) (n:Nat) (d:List Value) (hv:w.ownsRow 0 T sz v n d) (h1:∀ u ∈ d,u.oneCell'=true) (hn:n≤1000000) (hb:bytes≤1000000) :
  ∃ v' w',(Builtin.append_ #[t,t] ty #[.slice (some ⟨g,0,none⟩) 0 0,v]).run Tryz.prog w=.ok v' w'∧w'.ownsRow B T sz v' n d∧w.grownBy w' (some g):=by
 have hown:=qr3 (sz:=sz) hg hB;have hBw:B≤w.heap.size:=Nat.le_trans hB (Nat.le_of_lt hg.lt);have hmul:n * bytes≤1000000 * 1000000:=Nat.mul_le_mul hn hb;rcases hv.2 with ⟨rfl,rfl⟩|⟨g2,cap,cur,rfl,_,hc,hnc,hcm,hcs,htk⟩
 ·have hd:d=[]:=List.eq_nil_of_length_eq_zero (by have:=hv.1;simpa using this);subst hd;refine⟨_,w,run_append_owned_none (P:=Tryz.prog) (w:=w) B t ty T i sz ht hi _ 0 [] hown,hown,⟨rfl,rfl,rfl,Nat.le_refl _,fun _ _ _=>rfl⟩⟩
 ·obtain⟨v',w',hr,h2,h3,_,_⟩:=run_append_own_at (P:=Tryz.prog) w B t ty T i z sz bytes ht hi hz.1 hz.2.1 hz.2.2 hzs hsz _ 0 [] hown ⟨g2,0,none⟩ n cap d hv.1 (hv.cells (g:=g2) rfl) h1 (by unfold maxLen;omega) (by rw[Nat.zero_add];omega) hBw;rw[Nat.zero_add,List.nil_append] at h2;exact⟨v',w',hr,h2,h3⟩
theorem qhO {w:World} {o:Oper} {a:Act} {K:Act→World→Prop} {Q:Exit→Act→World→Prop} (s x:Operand) (t:TypeId) (ho:o.op=.call { callee:=.builtin .append,args:=#[s,x],argTypes:=#[t,t] })
  (B:Nat) (T:TypeId) (i:TypeInfo) (z:Value) (sz bytes:Nat) (ht:Tryz.prog.underlying t=some (.slice T)) (hi:Tryz.prog.info? T=some i) (hz:i.zero=some z∧i.size=sz∧i.bytes=bytes) (hzs:z.cells.size=sz) (hsz:0<sz)
  (g:Nat) (hg:Bx w g T []) (hB:B≤g) (hs:a.eval s=.slice (some ⟨g,0,none⟩) 0 0) (v:Value) (n:Nat) (d:List Value) (hx:a.eval x=v) (hv:w.ownsRow 0 T sz v n d) (h1:∀ u ∈ d,u.oneCell'=true) (hn:n≤1000000) (hb:bytes≤1000000)
  (h:∀ v' w',w'.ownsRow B T sz v' n d→w.grownBy w' (some g)→K (a.put o.dst v') w'):o.wp Tryz.prog a w K Q:=by
 obtain⟨v',w',hr,h2,h3⟩:=qlM w t o.type B T i z sz bytes ht hi hz hzs hsz g hg hB v n d hv h1 hn hb;unfold Oper.wp execOp;simp only[ho,resolve,invoke,builtin,Sem.run_bind,Sem.run_pure,Result.andThen_ok,List.map_toArray,List.map_cons,List.map_nil,hs,hx,hr];exact h v' w' h2 h3
theorem qiG {w:World} {ops:Array Oper} {rest:List Oper} {o:Oper} {a:Act} {Q:Exit→Act→World→Prop} (hgd:o.guard=none) (s x:Operand) (t:TypeId) (ho:o.op=.call { callee:=.builtin .append,args:=#[s,x],argTypes:=#[t,t] })
  (B:Nat) (T:TypeId) (i:TypeInfo) (z:Value) (sz bytes:Nat) (ht:Tryz.prog.underlying t=some (.slice T)) (hi:Tryz.prog.info? T=some i) (hz:i.zero=some z∧i.size=sz∧i.bytes=bytes) (hzs:z.cells.size=sz) (hsz:0<sz)
  (g:Nat) (hg:Bx w g T []) (hB:B≤g) (hs:a.eval s=.slice (some ⟨g,0,none⟩) 0 0) (v:Value) (n:Nat) (d:List Value) (hx:a.eval x=v) (hv:w.ownsRow 0 T sz v n d) (h1:∀ u ∈ d,u.oneCell'=true) (hn:n≤1000000) (hb:bytes≤1000000)
  (h:∀ v' w',w'.ownsRow B T sz v' n d→w.grownBy w' (some g)→wpList Tryz.prog ops Q rest (a.put o.dst v') w'):wpList Tryz.prog ops Q (o :: rest) a w :=
 wpList_plain hgd fun _ hK=>qhO s x t ho B T i z sz bytes ht hi hz hzs hsz g hg hB hs v n d hx hv h1 hn hb fun v' w' h2 h3=>hK _ _ (h v' w' h2 h3)
theorem qcD {w:World} {ops:Array Oper} {o:Oper} {a:Act} {K:Act→World→Prop} {Q:Exit→Act→World→Prop} {E:Prop} (hgd:o.guard=none) (s x:Operand) (t:TypeId) (ho:o.op=.call { callee:=.builtin .append,args:=#[s,x],argTypes:=#[t,t] })
  (B:Nat) (T:TypeId) (i:TypeInfo) (z:Value) (sz bytes:Nat) (ht:Tryz.prog.underlying t=some (.slice T)) (hi:Tryz.prog.info? T=some i) (hz:i.zero=some z∧i.size=sz∧i.bytes=bytes) (hzs:z.cells.size=sz) (hsz:0<sz)
  (g:Nat) (hg:Bx w g T []) (hB:B≤g) (hs:a.eval s=.slice (some ⟨g,0,none⟩) 0 0) (v:Value) (n:Nat) (d:List Value) (hx:a.eval x=v) (hv:w.ownsRow 0 T sz v n d) (h1:∀ u ∈ d,u.oneCell'=true) (hn:n≤1000000) (hb:bytes≤1000000)
  (h:∀ v' w',w'.ownsRow B T sz v' n d→w.grownBy w' (some g)→K (a.put o.dst v') w'):if Region.wanted o (yielded ops a.tmps)=true then Oper.wp Tryz.prog o a w K Q else E:=by
 have hw:Region.wanted o (yielded ops a.tmps)=true:=by simp[Region.wanted,hgd]
 rw[if_pos hw];exact qhO s x t ho B T i z sz bytes ht hi hz hzs hsz g hg hB hs v n d hx hv h1 hn hb h
section
variable {α:Type} {E:Shp α} {T:TypeId} {s lo:Nat} {w w':World} {v:Value} {xs:List α} {c:List Value}
theorem Lst.next (ke:KE E s) (h:Lst E T s lo w v xs c) (hb:Below w.heap.size w w'):Lst E T s lo w' v xs c:=by
 obtain⟨F,h1,h2⟩:=h;exact⟨F,h1.keep ke (fun b hb1=>hb.block b (h2.lies b hb1).2),h2.wide (Nat.le_refl _) hb.size⟩
theorem Lst.boxed (ke:KE E s) (h:Lst E T s lo w v xs c) {X:Nat} (hX:X<lo) (j:Nat) (u:Value):Lst E T s lo (w.setCell ⟨X,j,none⟩ u) v xs c:=by
 obtain⟨F,h1,h2⟩:=h;exact⟨F,h1.keep ke (fun b hb=>Below.heap_setCell _ _ _ _ (by have:=h2.lies b hb;show b≠X;omega)),h2.wide (Nat.le_refl _) (by simp)⟩
theorem Itm.boxed {x:α} (ke:KE E s) (h:Itm E lo w c x) {X:Nat} (hX:X<lo) (j:Nat) (u:Value):Itm E lo (w.setCell ⟨X,j,none⟩ u) c x:=by
 obtain⟨F,h1,h2⟩:=h;exact⟨F,ke.keep h1 (fun b hb=>Below.heap_setCell _ _ _ _ (by have:=h2.lies b hb;show b≠X;omega)),h2.wide (Nat.le_refl _) (by simp)⟩
theorem Lst.more {w1 w5 w6 w7:World} {g cap n:Nat} {x:α} {c1:List Value} (ke:KE E s) (h:Lst E T s lo w1 v xs c) (h0:0<lo) (hlo:lo≤w1.heap.size) (hb:Below w1.heap.size w1 w5) (hx:Itm E w1.heap.size w5 c1 x)
  (h6:Below w5.heap.size w5 w6) (hn:n=xs.length) (hown:w7.ownsRow 0 T s (.slice (some ⟨g,0,none⟩) (n+1) cap) (n+1) (c++c1)) (hgrow:w6.grownBy w7 v.ownBlock) (hat:v.ownBlock=some g∨g=w6.heap.size) (hlt:g<w7.heap.size) :
  Lst E T s lo w7 (.slice (some ⟨g,0,none⟩) (n+1) cap) (xs++[x]) (c++c1)∧(∀ b,b<lo→w7.heap[b]?=w1.heap[b]?)∧lo≤w7.heap.size:=by
 have h15:=hb.size;have h56:=h6.size;have h67:=hgrow.size;refine⟨h.snoc ke (Oth.of_below (b:=0) hb) h0 hlo hx h6 hn hown hgrow hat hlt,fun b hb1=>?_,by omega⟩;refine(hgrow.block b (by omega) (fun e=>by have:=(h.own b e.symm).1;omega)).trans ((h6.block b (by omega)).trans (hb.block b (by omega)))
end
def qh5 {α:Type} (E:Shp α) (w:World) (x:α) (e:Ending) (w':World):Prop:=∃ c,e=.returned (.agg c.toArray)∧Itm E w.heap.size w' c x∧Below w.heap.size w w'
theorem qhF {α:Type} {E:Shp α} {T:TypeId} {s:Nat} {w':World} {B:Nat} {v:Value} {xs:List α} {d:List Value} (hE:∀ w':World,qiB E w' [] d xs) (h:w'.ownsRow B T s v xs.length d):Lst E T s B w' v xs d :=
 ⟨v.ownBlock.toList,⟨qr4 h (Nat.zero_le _),[],by simp,hE w'⟩,⟨by cases v.ownBlock <;> simp,fun b hb=>by
  cases hv:v.ownBlock with
  | none=>rw[hv] at hb;simp at hb
  | some g =>
   rw[hv] at hb;simp at hb;subst hb;exact qlW h _ hv⟩⟩
theorem q90 {o:Option Ex} (h:okE o):(exN o).length≤64:=by
 cases o with
 | none=>exact Nat.zero_le _
 | some t=>show (lay 0 t).length≤64;rw[qaF];exact(h t rfl).2
theorem q53 (ns:List Nd):∀ u ∈ qg3 ns,u.oneCell'=true:=by
 intro u hu;obtain⟨n,_,hn⟩:=List.mem_flatMap.1 hu;simp only[qaB,List.mem_cons,List.not_mem_nil,or_false] at hn;rcases hn with rfl|rfl|rfl|rfl|rfl|rfl|rfl|rfl|rfl <;> rfl
theorem jb6 {w:World} {B:Nat} {v:Value} {o:Option Ex} (h:w.ownsRow B 109 9 v (exN o).length (qg3 (exN o))):Itm exE B w [v] o :=
 ⟨v.ownBlock.toList,⟨v,rfl,rfl,qr4 h (Nat.zero_le _)⟩,⟨by cases v.ownBlock <;> simp,fun b hb=>by
  cases hv:v.ownBlock with
  | none=>rw[hv] at hb;simp at hb
  | some g =>
   rw[hv] at hb;simp at hb;subst hb;exact qlW h _ hv⟩⟩
theorem qjO (o:Option Ex) (ho:okE o) (v:Value) (w:World) (h:qd7 exE w [v] o):Calls Tryz.prog 57 #[.agg #[v]] w (qh5 exE w o):=by
 obtain⟨a,m,cp,hv⟩:=qeQ h;cases hv;obtain⟨F,⟨v',hv',_,hr⟩,_⟩:=h;cases hv';obtain⟨i0,hi,hz0,hz1,hz2⟩:=qaN jbD;obtain⟨W0,hW0,ha,hb,hB,hsz⟩:=qm0 w 41 [.slice a m cp] [.slice none 0 0];obtain⟨W1,hW1⟩:∃ W1,W1=W0.alloc (.cells #[] 109):=⟨_,rfl⟩
 have hb1:Below W0.heap.size W0 W1:=by rw[hW1];exact(Below.refl _ W0).alloc (Nat.le_refl _) _
 have hx1:Bx W1 W0.heap.size 109 []:=by rw[hW1];exact Bx.new W0 _ []
 have ha1:=ha.keep hb1 ha.lt;have hr1:=qdB (qdB hr hB (Nat.le_refl _)) hb1 (Nat.le_refl _);have c0:=ha1.c 0 rfl;subst hW1;have HW0:=hid hW0;have HX1:=hid hx1;have HR:=hid hr1;have HA:=hid ha1;have HBX0:=hid hb;have HB0:=hid hB;have HB1:=hid (hB.trans (hb1.mono hB.size));have HZ:=hid hsz;have HF:=hid (q90 ho);have HI:=hid hi;have HI2:=hid (And.intro hz0 (And.intro hz1 hz2));clear hW0 ha hb hB hb1 hx1 ha1 hr hr1 hsz ho hi hz0 hz1 hz2;unfold qh5;go_enter Tryz.func57,Tryz.ntmps57;go_upto_region 1 with (fail);rw[← HW0.out];generalize hE:w.heap.size=E at *
 have HE:=hid hE;clear hE;go_wp2_with (first
  | (at_builtin;refine qiG rfl (.tmp 3) (.tmp 5) 39 rfl W0.heap.size 109 i0 _ 9 96 Tryz.underlying39 HI.out HI2.out rfl (by decide) W0.heap.size HX1.out (Nat.le_refl _) rfl (.slice a m cp) (exN o).length (qg3 (exN o)) rfl HR.out (q53 _) (by have:=HF.out;omega) (by decide) ?_;intro v2 w2 ho2 hg2;have ho3:=ho2;obtain⟨a2,c2,rfl⟩:=qbN ho2;have hb2:Below W0.heap.size W0 w2:=⟨hg2.os,hg2.tape,hg2.output,Nat.le_trans (by simp) hg2.size,fun b hb=>(hg2.block b (by rw[World.size_alloc];omega) (by simp;omega)).trans (((Below.refl _ W0).alloc (Nat.le_refl _) _).block b hb)⟩;have hx2:=HBX0.out.keep hb2 HBX0.out.lt;have r0:=hx2.c 0 rfl;have z0:=hx2.fz 0;have HO2:=hid ho3;have HB2:=hid hb2;have HX2:=hid hx2;clear ho2 ho3 hg2 hb2 hx2))
 have hit:=(jb6 HO2.out).boxed exK (X:=E+1) (by have:=HZ.out;omega) 0 (.slice a2 (exN o).length c2);refine bodyPost_ret (q27 rfl rfl (HX2.out.set 0 _)) rfl ⟨[.slice a2 (exN o).length c2],rfl,hit.wide (by have:=HZ.out;have:=HE.out;omega),?_⟩;rw[HE.out];have:=HZ.out;exact(HB0.out.trans (HB2.out.mono (by omega))).setCell (by show E≤E+1;omega) _
structure Cp {α:Type} (E:Shp α) (T:TypeId) (s:Nat) (w0:World) (X:Nat) (TX:TypeId) (wr:World) (cs:List Value) (v:Value) (xs:List α) (d:List Value):Prop where
 lst:Lst E T s w0.heap.size wr v xs d
 box:Bx wr X TX cs
 eff:Eff X w0 wr
 lt:X<w0.heap.size
section
variable {α:Type} {E:Shp α} {T TX:TypeId} {s X:Nat} {w0 wr w':World} {cs:List Value} {v:Value} {xs:List α} {d:List Value}
theorem Cp.start {B:Nat} (h:Bx w0 X TX cs) (_:B≤X):Cp E T s w0 X TX w0 cs (.slice none 0 0) [] []:=⟨Lst.nil E T s w0.heap.size w0,h,Eff.refl _ _,h.lt⟩
theorem Cp.next (ke:KE E s) (h:Cp E T s w0 X TX wr cs v xs d) (hb:Below wr.heap.size wr w'):Cp E T s w0 X TX w' cs v xs d :=
 ⟨h.lst.next ke hb,h.box.keep hb h.box.lt,h.eff.trans (Eff.of_below hb h.box.lt),h.lt⟩
theorem Cp.put (ke:KE E s) (h:Cp E T s w0 X TX wr cs v xs d) (j:Nat) (u:Value):Cp E T s w0 X TX (wr.setCell ⟨X,j,none⟩ u) (cs.set j u) v xs d :=
 ⟨h.lst.boxed ke h.lt j u,h.box.set j u,h.eff.set j u,h.lt⟩
theorem Cp.bel {w:World} (h:Cp E T s w0 X TX wr cs v xs d) (hw:Below w.heap.size w w0) (hX:w.heap.size≤X):Below w.heap.size w wr:=hw.trans (h.eff.1.mono hX)
theorem Cp.other (h:Cp E T s w0 X TX wr cs v xs d) {g:Nat} {Tg:TypeId} {gs:List Value} (hg:Bx w0 g Tg gs) (hne:g≠X):Bx wr g Tg gs:=hg.oth h.eff.2 hne
theorem Cp.form (h:Cp E T s w0 X TX wr cs v xs d):∃ a c,v=.slice a xs.length c:=qxL h.lst
theorem qaL {w1 w5 w:World} {ops:Array Oper} {o:Oper} {a:Act} {K:Act→World→Prop} {Q:Exit→Act→World→Prop} {Z:Prop} (hgd:o.guard=none) (sl x:Operand) (t:TypeId)
  (ho:o.op=.call { callee:=.builtin .append,args:=#[sl,x],argTypes:=#[t,t] }) (ke:KE E s) (hc:Cp E T s w0 X TX w1 cs v xs d) (n:Nat) (hn:n=xs.length) (i:TypeInfo) (z:Value) (bytes:Nat) (ht:Tryz.prog.underlying t=some (.slice T)) (hi:Tryz.prog.info? T=some i) (hz:i.zero=some z∧i.size=s∧i.bytes=bytes)
  (hzs:z.cells.size=s) (hsz:0<s) (y:α) (c1:List Value) (hb:Below w1.heap.size w1 w5) (hy:Itm E w1.heap.size w5 c1 y) (T2:TypeId) (hw:w=w5.alloc (.cells c1.toArray T2)) (hs:a.eval sl=v) (cc:Nat) (hx:a.eval x=.slice (some ⟨w5.heap.size,0,none⟩) 1 cc)
  (hlen:n≤999999) (hbb:bytes≤1000000)
  (h:∀ g cap w7,Cp E T s w0 X TX w7 cs (.slice (some ⟨g,0,none⟩) (n+1) cap) (xs++[y]) (d++c1)→K (a.put o.dst (.slice (some ⟨g,0,none⟩) (n+1) cap)) w7) :
  if Region.wanted o (yielded ops a.tmps)=true then Oper.wp Tryz.prog o a w K Q else Z:=by
 subst hw hn;have hal:Below w5.heap.size w5 (w5.alloc (.cells c1.toArray T2)):=(Below.refl _ w5).alloc (Nat.le_refl _) _;have h5:=hc.next ke hb;have hmul:(xs.length+1) * bytes≤1000000 * 1000000:=Nat.mul_le_mul (by omega) hbb;refine step_append_lies _ hgd sl x t ho 0 T i z s bytes ht hi hz.1 hz.2.1 hz.2.2 hzs hsz v xs.length d hs (h5.lst.row.alloc _) ⟨w5.heap.size,0,none⟩ 1 cc c1 hx (by rw[hy.len ke,Nat.one_mul]) (fun j u hj=>qc7 w5 c1 T2 j u hj) (hy.one ke) (by decide) (by unfold maxLen;omega) (by omega) (Nat.zero_le _) _ rfl ?_;intro g cap w7 hown hgrow hat hlt;have h0:0<w0.heap.size:=Nat.lt_of_le_of_lt (Nat.zero_le _) hc.lt;obtain⟨hl,hlow,htop⟩:=hc.lst.more ke h0 hc.eff.size hb hy hal rfl hown hgrow hat hlt;have hbx:Bx w7 X TX cs:=(hlow X hc.lt).trans hc.box;refine h g cap w7 ⟨hl,hbx,⟨?_,?_,fun k hk hkp=>(hlow k hk).trans (hc.eff.2.2 k hk hkp)⟩,hc.lt⟩
 ·have h1:=hc.eff.1;have h2:=hb.size;have h3:=hal.size;have h4:=hgrow.size;have h6:=hc.eff.size;have h7:=hc.lt;exact h1.trans ⟨hgrow.os.trans (hal.os.trans hb.os),hgrow.tape.trans (hal.tape.trans hb.tape),hgrow.output.trans (hal.output.trans hb.output),by omega,fun k hk=>hlow k (by omega)⟩
 ·exact htop
theorem qiF {w1 w5 w:World} {ops:Array Oper} {rest:List Oper} {o:Oper} {a:Act} {Q:Exit→Act→World→Prop} (hgd:o.guard=none) (sl x:Operand) (t:TypeId)
  (ho:o.op=.call { callee:=.builtin .append,args:=#[sl,x],argTypes:=#[t,t] }) (ke:KE E s) (hc:Cp E T s w0 X TX w1 cs v xs d) (n:Nat) (hn:n=xs.length) (i:TypeInfo) (z:Value) (bytes:Nat) (ht:Tryz.prog.underlying t=some (.slice T)) (hi:Tryz.prog.info? T=some i) (hz:i.zero=some z∧i.size=s∧i.bytes=bytes)
  (hzs:z.cells.size=s) (hsz:0<s) (y:α) (c1:List Value) (hb:Below w1.heap.size w1 w5) (hy:Itm E w1.heap.size w5 c1 y) (T2:TypeId) (hw:w=w5.alloc (.cells c1.toArray T2)) (hs:a.eval sl=v) (cc:Nat) (hx:a.eval x=.slice (some ⟨w5.heap.size,0,none⟩) 1 cc)
  (hlen:n≤999999) (hbb:bytes≤1000000)
  (h:∀ g cap w7,Cp E T s w0 X TX w7 cs (.slice (some ⟨g,0,none⟩) (n+1) cap) (xs++[y]) (d++c1)→wpList Tryz.prog ops Q rest (a.put o.dst (.slice (some ⟨g,0,none⟩) (n+1) cap)) w7):wpList Tryz.prog ops Q (o :: rest) a w:=by
 subst hw hn;have hal:Below w5.heap.size w5 (w5.alloc (.cells c1.toArray T2)):=(Below.refl _ w5).alloc (Nat.le_refl _) _;have h5:=hc.next ke hb;have hmul:(xs.length+1) * bytes≤1000000 * 1000000:=Nat.mul_le_mul (by omega) hbb;refine wpList_append_lies _ hgd sl x t ho 0 T i z s bytes ht hi hz.1 hz.2.1 hz.2.2 hzs hsz v xs.length d hs (h5.lst.row.alloc _) ⟨w5.heap.size,0,none⟩ 1 cc c1 hx (by rw[hy.len ke,Nat.one_mul]) (fun j u hj=>qc7 w5 c1 T2 j u hj) (hy.one ke) (by decide) (by unfold maxLen;omega) (by omega) (Nat.zero_le _) _ rfl ?_;intro g cap w7 hown hgrow hat hlt;have h0:0<w0.heap.size:=Nat.lt_of_le_of_lt (Nat.zero_le _) hc.lt;obtain⟨hl,hlow,htop⟩:=hc.lst.more ke h0 hc.eff.size hb hy hal rfl hown hgrow hat hlt;have hbx:Bx w7 X TX cs:=(hlow X hc.lt).trans hc.box;refine h g cap w7 ⟨hl,hbx,⟨?_,?_,fun k hk hkp=>(hlow k hk).trans (hc.eff.2.2 k hk hkp)⟩,hc.lt⟩
 ·have h1:=hc.eff.1;have h2:=hb.size;have h3:=hal.size;have h4:=hgrow.size;have h6:=hc.eff.size;have h7:=hc.lt;exact h1.trans ⟨hgrow.os.trans (hal.os.trans hb.os),hgrow.tape.trans (hal.tape.trans hb.tape),hgrow.output.trans (hal.output.trans hb.output),by omega,fun k hk=>hlow k (by omega)⟩
 ·exact htop
end
theorem qqJ {w:World}:∀ {xs:List ByteArray} {F:List Nat} {c:List Value},qiB qs7 w F c xs→F=[]∧c=xs.map Value.string
 | [],_,_,h=>h
 | _ :: _,_,_,⟨_,_,_,_,hF,hc,⟨h1,h2⟩,hr⟩=>by
  obtain⟨h3,h4⟩:=qqJ hr;subst hF hc h1 h2 h3 h4;exact⟨rfl,rfl⟩
theorem qoG (w:World):∀ xs:List ByteArray,qiB qs7 w [] (xs.map Value.string) xs
 | []=>⟨rfl,rfl⟩
 | x :: r=>⟨[],[],[.string x],_,rfl,rfl,⟨rfl,rfl⟩,qoG w r⟩
theorem qrL {w:World}:∀ {xs:List Int} {F:List Nat} {c:List Value},qiB qrM w F c xs→F=[]∧c=xs.map (Value.int .i64)
 | [],_,_,h=>h
 | _ :: _,_,_,⟨_,_,_,_,hF,hc,⟨h1,h2⟩,hr⟩=>by
  obtain⟨h3,h4⟩:=qrL hr;subst hF hc h1 h2 h3 h4;exact⟨rfl,rfl⟩
theorem qmA (w:World):∀ xs:List Int,qiB qrM w [] (xs.map (Value.int .i64)) xs
 | []=>⟨rfl,rfl⟩
 | x :: r=>⟨[],[],[.int .i64 x],_,rfl,rfl,⟨rfl,rfl⟩,qmA w r⟩
theorem q7Y {w:World} {v:Value} {xs:List ByteArray} {T:TypeId} (h:qbE qs7 T 1 w v xs):w.ownsRow 0 T 1 v xs.length (xs.map Value.string):=by
 obtain⟨F,c,h1,_⟩:=h;obtain⟨F2,_,he⟩:=h1.els;rw[← (qqJ he).2];exact h1.row
theorem q8N {w:World} {v:Value} {xs:List Int} {T:TypeId} (h:qbE qrM T 1 w v xs):w.ownsRow 0 T 1 v xs.length (xs.map (Value.int .i64)):=by
 obtain⟨F,c,h1,_⟩:=h;obtain⟨F2,_,he⟩:=h1.els;rw[← (qrL he).2];exact h1.row
theorem q8K {w0 wr:World} {lo:Nat} {kd:Int} {nm vr:ByteArray} {tv av:Value} {t:Option Ex} {l:List (Option Ex)} {d:List Value} (h:Itm exE lo w0 [tv] t) (hl:Lst exE 41 1 w0.heap.size wr av l d) (hk:∀ b,lo≤b→b<w0.heap.size→wr.heap[b]?=w0.heap[b]?) (hs:w0.heap.size≤wr.heap.size) (hlo:lo≤w0.heap.size) :
  Itm qgN lo wr [.int .i64 kd,tv,.string nm,.string vr,av] ⟨kd,t,nm,vr,l⟩:=by
 obtain⟨F,h1,h2⟩:=h;obtain⟨G,h3,h4⟩:=hl;exact⟨F++G,⟨tv,av,d,F,G,rfl,rfl,exK.keep h1 (fun b hb=>hk b (h2.lies b hb).1 (h2.lies b hb).2),h3⟩,h2.join h4 hlo hs⟩
theorem qvP {lo:Nat} {w:World} {cv:List Value} {o:Option Ex} (h:Itm exE lo w cv o):∃ v,cv=[v]:=by
 obtain⟨F,⟨v,hv,_⟩,_⟩:=h;exact⟨v,hv⟩
theorem q1X {W:World} {g b i1 i2 i3 i4 i5:Nat} {u1 u2 u3 u4 u5:Value} (h:b≠g):(((((W.setCell ⟨g,i1,none⟩ u1).setCell ⟨g,i2,none⟩ u2).setCell ⟨g,i3,none⟩ u3).setCell ⟨g,i4,none⟩ u4).setCell ⟨g,i5,none⟩ u5).heap[b]?=W.heap[b]? :=
 (Below.heap_setCell _ _ _ _ h).trans ((Below.heap_setCell _ _ _ _ h).trans ((Below.heap_setCell _ _ _ _ h).trans ((Below.heap_setCell _ _ _ _ h).trans (Below.heap_setCell _ _ _ _ h))))
theorem q5X {w wr:World} {X:Nat} {kd:Int} {nm vr:ByteArray} {tv av:Value} {x:ActE} (hi:Itm qgN X wr [.int .i64 kd,tv,.string nm,.string vr,av] x) (hX:w.heap.size+1<X) (hw:Below w.heap.size w wr) :
  qh5 qgN w x (.returned (.agg #[.int .i64 kd,tv,.string nm,.string vr,av])) (((((wr.setCell ⟨w.heap.size+1,0,none⟩ (.int .i64 kd)).setCell ⟨w.heap.size+1,1,none⟩ tv).setCell ⟨w.heap.size+1,2,none⟩ (.string nm)).setCell ⟨w.heap.size+1,3,none⟩ (.string vr)).setCell ⟨w.heap.size+1,4,none⟩ av):=by
 have hl:w.heap.size≤w.heap.size+1:=Nat.le_succ _;refine⟨_,rfl,?_,((((hw.setCell hl _).setCell hl _).setCell hl _).setCell hl _).setCell hl _⟩;obtain⟨F,h1,h2⟩:=hi;refine⟨F,qeO.keep h1 (fun b hb=>q1X (by have:=h2.lies b hb;omega)),h2.wide (by omega) (by simp)⟩
theorem q5Y (x:ActE) (hok:okA x) (hf:x.args.length≤900000) (c:List Value) (w:World) (h:qd7 qgN w c x):Calls Tryz.prog 58 #[.agg c.toArray] w (qh5 qgN w x):=by
 obtain⟨a1,m1,p1,a2,p2,rfl,hto,hargs⟩:=qdO h;obtain⟨kd,to1,nm,vr,args⟩:=x;obtain⟨W0,hW0,ha,hb,hB,hsz⟩:=qm0 w 100 [.int .i64 kd,.slice a1 m1 p1,.string nm,.string vr,.slice a2 args.length p2] [.int .i64 0,.slice none 0 0,.string ⟨#[]⟩,.string ⟨#[]⟩,.slice none 0 0];obtain⟨i0,hi,hz0,hz1,hz2⟩:=qaN jbF;have HW0:=hid hW0;have HA:=hid ha;have hfew:args.length≤900000:=hf;have HB:=hid hb;have HB0:=hid hB;have HSZ:=hid hsz;have HTO:=hid hto;have HAR:=hid hargs;have HOK:=hid hok;have HI:=hid hi;have HI2:=hid (And.intro hz0 (And.intro hz1 hz2));have c0:=ha.c 0 rfl;have c1:=ha.c 1 rfl;have c2:=ha.c 2 rfl;have c3:=ha.c 3 rfl;have c4:=ha.c 4 rfl;clear hW0 ha hb hB hsz h hto hargs hok hi hz0 hz1 hz2;unfold qh5;go_enter Tryz.func58,Tryz.ntmps58;go_upto_region 1 with (fail);rw[← HW0.out];go_upto_region 2 with (fail);obtain⟨W1,hW1⟩:∃ W1,W1=W0.alloc (.cells #[.int .i64 kd,.slice a1 m1 p1,.string nm,.string vr,.slice a2 args.length p2] 100):=⟨_,rfl⟩
 have hb1:Below W0.heap.size W0 W1:=by rw[hW1];exact(Below.refl _ W0).alloc (Nat.le_refl _) _
 have hx1:Bx W1 W0.heap.size 100 [.int .i64 kd,.slice a1 m1 p1,.string nm,.string vr,.slice a2 args.length p2]:=by rw[hW1];exact Bx.new W0 _ _
 rw[← hW1];have HX1:=hid hx1;have HB1:=hid hb1;have hEX:w.heap.size+2=W0.heap.size:=HSZ.out.symm;generalize hX:W0.heap.size=X at *
 clear c0 c1 c2 c3 c4;have c1:=(HA.out.keep hb1 (by omega)).c 1 rfl;have HA1:=hid (HA.out.keep hb1 (by omega));have HR1:=hid (HB.out.keep hb1 (by omega));have HW1:Hid (Below w.heap.size w W1):=hid (HB0.out.trans (hb1.mono (by omega)));have HXL:Hid (X<W1.heap.size):=hid hx1.lt;clear hW1 hb1 hx1 HW0 HA HB HB0 HB1 HSZ hX W0;go_wp2_with (first
  | (go_at_call 57;refine(qjO to1 HOK.out.1 (.slice a1 m1 p1) W1 (HTO.out.keep exK HW1.out (Nat.le_refl _))).mono ?_;rintro e w2 ⟨cv,rfl,hit,hb2⟩;obtain⟨v2,rfl⟩:=qvP hit;obtain⟨a3,m3,p3,rfl⟩:=qf0 hit;have HIT:=hid hit;have HB2:=hid hb2;have HX2:=hid (HX1.out.keep hb2 HX1.out.lt);have f1:=HX2.out.fz 1;have y1:=HX2.out.c 1 rfl;have f4:=HX2.out.fz 4;have y4:=HX2.out.c 4 rfl;clear hit hb2))
 have HX3:=hid ((HX2.out.set 1 (.slice a3 m3 p3)).set 4 (.slice none 0 0));have HE3:Hid (Eff X W1 ((w2.setCell ⟨X,1,none⟩ (.slice a3 m3 p3)).setCell ⟨X,4,none⟩ (.slice none 0 0))):=hid (((Eff.of_below HB2.out HXL.out).set 1 _).set 4 _);have HIT3:=hid (((HIT.out.boxed exK HXL.out 1 (.slice a3 m3 p3)).boxed exK HXL.out 4 (.slice none 0 0)).wide (lo':=X+1) (by have:=HXL.out;omega));generalize hW3:((w2.setCell ⟨X,1,none⟩ (.slice a3 m3 p3)).setCell ⟨X,4,none⟩ (.slice none 0 0))=W3 at *
 have HW3:Hid (Below w.heap.size w W3):=hid (HW1.out.trans (HE3.out.1.mono (by omega)));have HA3:=hid (HA1.out.oth HE3.out.2 (by omega));have HR3:=hid (HR1.out.oth HE3.out.2 (by omega));have HC3:=hid (Cp.start (E:=exE) (T:=41) (s:=1) HX3.out (Nat.zero_le _));clear hW3 HX3 HE3 HX2 HIT HB2 f1 y1 f4 y4 c1 HX1 HA1 HR1;generalize hN:args.length=N at *
 have HN:=hid hN
 go_loopw [4] (fun i wr=>∃ (k:Nat) (v:Value) (d:List Value),i=.int .i64 k∧k≤N∧Hid (Cp exE 41 1 W3 X 100 wr [.int .i64 kd,.slice a3 m3 p3,.string nm,.string vr,v] v (args.take k) d)) (fun i _=>N-(intOf i).toNat)
 case atStart=>exact⟨0,_,_,rfl,Nat.zero_le _,HC3⟩
 case round =>
  obtain⟨k,v,d,rfl,hk,HCP⟩:=hrel;obtain⟨ar,cr,hvr⟩:=HCP.out.form;subst hvr;have HWR:=hid (HCP.out.bel HW3.out (by omega));have ea:=HCP.out.other HA3.out (by omega);have er:=HCP.out.other HR3.out (by omega);have b4:=HCP.out.box.c 4 rfl;have a4:=ea.c 4 rfl;rcases Nat.lt_or_ge k N with hlt|hge
  ·have hkl:k<args.length:=by rw[HN.out];exact hlt
   obtain⟨y,hy0⟩:∃ y,args[k]?=some y:=⟨_,List.getElem?_eq_getElem hkl⟩
   have HTK:Hid (args.take (k+1)=args.take k++[y]):=hid (qf8 hy0);have hlk:(args.take k).length=k:=by rw[List.length_take];omega
   rw[hlk] at b4 HCP;obtain⟨g1,d1,rfl,hel,hcl⟩:=qeP exK HAR.out hy0 HWR.out;obtain⟨ax,mx,px,rfl⟩:=qeQ hel;have y0:wr.cell? ⟨g1,k,none⟩=some (.slice ax mx px):=by have:=hcl 0 _ rfl;simpa using this
   have hcall:=qjO y (HOK.out.2 y (qbW hy0)) (.slice ax mx px) wr.drew (hel.keep exK (HWR.out.trans ((qa0 wr).mono HWR.out.size)) (Nat.le_refl _));unfold qh5 at hcall;have HC:=hid hcall;have HFB:Hid (Bx wr w.heap.size 100 [.int .i64 kd,.slice a1 m1 p1,.string nm,.string vr,.slice (some ⟨g1,0,none⟩) N p2]):=hid ea;have HLK:=hid hlk;clear hel hcl hcall hy0 hkl ea er hlk;go_upto_region 7 with (fail);have HCD:=hid (HCP.out.next exK (qa0 wr))
   go_region_law (first
    | (go_simp;go_at_call 57;refine HC.out.mono ?_;rintro e w5 ⟨cv,rfl,hit,hb5⟩;obtain⟨v5,rfl⟩:=qvP hit;obtain⟨ad5,m5,c5,rfl⟩:=qf0 hit;have HIT5:=hid hit;have HB5:=hid hb5;have HX5:=hid (HCD.out.next exK hb5);have b5:=HX5.out.box.c 4 rfl;have b6:=(HX5.out.next exK ((Below.refl w5.heap.size w5).alloc (Nat.le_refl _) (.cells [.slice ad5 m5 c5].toArray 41))).box.c 4 rfl;clear hit hb5)
    | ((try simp only[Act.put,List.getElem_toArray,List.getElem_cons_succ,List.getElem_cons_zero,List.setIfInBounds_toArray,List.set_cons_succ,List.set_cons_zero]);refine qaL (a:=⟨_,_⟩) (w5:=w5) rfl (.tmp 19) (.tmp 26) 98 rfl exK HCD.out k HLK.out.symm i0 _ 24 Tryz.underlying98 HI.out HI2.out rfl (by decide) y [.slice ad5 m5 c5] HB5.out HIT5.out 41 rfl (by rfl) 1 (by rfl) (by omega) (by decide) ?_;intro g7 p7 w7 h7;have d7:=h7.box.c 4 rfl;have z7:=h7.box.fz 4;have H7:=hid (h7.put exK 4 (.slice (some ⟨g7,0,none⟩) (k+1) p7));clear h7))
   all_goals
    rw[← HTK.out] at H7;generalize w7.setCell ⟨X,4,none⟩ (.slice (some ⟨g7,0,none⟩) (k+1) p7)=w8 at H7 ⊢;clear d7 z7 b5 b6 b4 a4 y0 HIT5 HB5 HX5 HCD HC HCP HFB;go_wp2;go_roundw
    case rel=>exact⟨k+1,_,_,by go_num,by omega,H7⟩
    case measure=>simp[intOf];omega
  ·obtain rfl:k=N:=by omega
   have hfull:args.take k=args:=List.take_of_length_le (by rw[HN.out];exact Nat.le_refl _);rw[hfull] at HCP b4;have q0:=HCP.out.box.c 0 rfl;have q1:=HCP.out.box.c 1 rfl;have q2:=HCP.out.box.c 2 rfl;have q3:=HCP.out.box.c 3 rfl;have r0:=er.c 0 rfl;have r1:=er.c 1 rfl;have r2:=er.c 2 rfl;have r3:=er.c 3 rfl;have r4:=er.c 4 rfl;have z0:=er.fz 0;have z1:=er.fz 1;have z2:=er.fz 2;have z3:=er.fz 3;have z4:=er.fz 4;have hit:=(q8K (kd:=kd) (nm:=nm) (vr:=vr) HIT3.out HCP.out.lst (fun b hb1 hb2=>HCP.out.eff.2.2 b hb2 (by omega)) HCP.out.eff.size (by have:=HCP.out.lt;omega))
   have HIT9:=hid hit;have HER:=hid er;clear er hit ea;go_wp2;have h99:=q5X (X:=X+1) HIT9.out (by omega) HWR.out;rw[HN.out] at h99;exact bodyPost_ret (qtS rfl rfl (qi5 HER.out)) rfl h99
end Go.Proofs.YtenlhcgpajphhaaGreatDoor
