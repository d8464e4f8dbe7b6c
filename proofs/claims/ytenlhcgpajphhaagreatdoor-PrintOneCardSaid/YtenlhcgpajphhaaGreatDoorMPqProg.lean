import Derived.Test.YtenlhcgpajphhaaGreatDoorPqChord
import Derived.Test.YtenlhcgpajphhaaGreatDoorMDpKind
import Derived.Test.YtenlhcgpajphhaaGreatDoorMDwAll
import Derived.Test.YtenlhcgpajphhaaGreatDoorMPoText
import Derived.Test.YtenlhcgpajphhaaGreatDoorMTextWalks
import Derived.Laws.IdiomStrings
namespace Go.Proofs.YtenlhcgpajphhaaGreatDoor
open Go.RowKit Go.Shelf
open Lib(hid)
set_option maxRecDepth 100000
set_option linter.all false
set_option maxHeartbeats 32000000
theorem qt0 (xs:List Int):∀ u ∈ xs.map (Value.int .i64),u.oneCell'=true:=by
 intro u hu;obtain⟨x,_,rfl⟩:=List.mem_map.1 hu;rfl
theorem qtI {lo:Nat} {w:World} {cv:List Value} {x:ChordE} (h:Itm qbB lo w cv x):∃ ad m c ad' m' c' ad3 m3 c3,cv=[.string x.nm,.slice ad m c,.slice ad' m' c',.slice ad3 m3 c3]:=by
 obtain⟨a1,p1,a2,m2,p2,a3,p3,h1,_⟩:=qb4 (qfT h);exact⟨_,_,_,_,_,_,_,_,_,h1⟩
theorem q47 {W1 W4 wr:World} {X lo:Nat} {tv kv:Value} {ts:List TagE} {ks:List KindE} {dt dk:List Value} (ht:Lst qk7 78 2 W1.heap.size W4 tv ts dt) (hk:Lst qfI 69 2 W4.heap.size wr kv ks dk) (h14:Eff X W1 W4) (h4:Eff X W4 wr) (hX:X<W1.heap.size) (hlo:lo≤W1.heap.size) :
  Itm qfR lo wr [tv,kv] ⟨ts,ks⟩:=by
 obtain⟨F1,t1,t2⟩:=ht;obtain⟨F2,k1,k2⟩:=hk;have s14:=h14.size;have s4:=h4.size;have hs:qg8 F1 W4 wr:=fun b hb=>by
  have:=t2.lies b hb;exact h4.2.2 b this.2 (by omega)
 refine⟨F1++F2,⟨tv,kv,dt,dk,F1,F2,rfl,rfl,t1.keep qfV hs,k1⟩,List.nodup_append.2 ⟨t2.uniq,k2.uniq,fun a ha b hb e=>?_⟩,fun b hb=>?_⟩
 ·subst e;have:=t2.lies a ha;have:=k2.lies a hb;omega
 ·rcases List.mem_append.1 hb with hb|hb
  ·have:=t2.lies b hb;omega
  ·have:=k2.lies b hb;omega
theorem q1Y {W:World} {g b i1 i2:Nat} {u1 u2:Value} (h:b≠g):((W.setCell ⟨g,i1,none⟩ u1).setCell ⟨g,i2,none⟩ u2).heap[b]?=W.heap[b]? :=
 (Below.heap_setCell _ _ _ _ h).trans (Below.heap_setCell _ _ _ _ h)
theorem q0H {w wr:World} {X:Nat} {tv kv:Value} {x:ProgE} (hi:Itm qfR X wr [tv,kv] x) (hX:w.heap.size+1<X) (hw:Below w.heap.size w wr) :
  qh5 qfR w x (.returned (.agg #[tv,kv])) ((wr.setCell ⟨w.heap.size+1,0,none⟩ tv).setCell ⟨w.heap.size+1,1,none⟩ kv):=by
 have hl:w.heap.size≤w.heap.size+1:=Nat.le_succ _;refine⟨_,rfl,?_,(hw.setCell hl _).setCell hl _⟩;obtain⟨F,h1,h2⟩:=hi;refine⟨F,qhM.keep h1 (fun b hb=>q1Y (by have:=h2.lies b hb;omega)),h2.wide (by omega) (by simp)⟩
theorem qqW (x:ProgE) (hok:okP x) (hf:jcY 900000 x) (c:List Value) (w:World) (h:qd7 qfR w c x):Calls Tryz.prog 28 #[.agg c.toArray] w (qh5 qfR w x):=by
 obtain⟨a1,p1,a2,p2,rfl,htags,hkinds⟩:=qdZ h;obtain⟨tags,kinds⟩:=x;obtain⟨W0,hW0,ha,hb,hB,hsz⟩:=qm0 w 26 [.slice a1 tags.length p1,.slice a2 kinds.length p2] [.slice none 0 0,.slice none 0 0];obtain⟨i0,hi,hz0,hz1,hz2⟩:=qaN q1Q;obtain⟨j0,hj,hy0,hy1,hy2⟩:=qaN q1S;obtain⟨q0,hq,hq0,hq1,hq2⟩:=qaN q1T;have HW0:=hid hW0;have HTL:=hid htags;have HKL:=hid hkinds;have HOK:Hid (∀ k ∈ kinds,okK k):=hid hok;have HFW:=hid hf;have HI:=hid (And.intro hi (And.intro hz0 (And.intro hz1 hz2)));have HJ:=hid (And.intro hj (And.intro hy0 (And.intro hy1 hy2)));have HQ:=hid (And.intro hq (And.intro hq0 (And.intro hq1 hq2)));obtain⟨W1,hW1⟩:∃ W1,W1=W0.alloc (.cells #[.slice none 0 0,.slice none 0 0] 26):=⟨_,rfl⟩
 have hb1:Below W0.heap.size W0 W1:=by rw[hW1];exact(Below.refl _ W0).alloc (Nat.le_refl _) _
 have hx1:Bx W1 W0.heap.size 26 [.slice none 0 0,.slice none 0 0]:=by rw[hW1];exact Bx.new W0 _ _
 have HW1:=hid hW1;have HX1:=hid hx1;have HA3:=hid (ha.keep hb1 (by omega));have HR3:=hid (hb.keep hb1 (by omega));have HW3:Hid (Below w.heap.size w W1):=hid (hB.trans (hb1.mono hB.size));have hEX:w.heap.size+2=W0.heap.size:=hsz.symm;clear hW0 ha hb hB hsz h htags hkinds hok hf hi hz0 hz1 hz2 hj hy0 hy1 hy2 hq hq0 hq1 hq2 hW1 hb1 hx1;unfold qh5;go_enter Tryz.func28,Tryz.ntmps28;go_upto_region 1 with (fail);rw[← HW0.out];go_upto_region 2 with (fail);rw[← HW1.out];generalize W0.heap.size=X at *
 have HC3:=hid (Cp.start (E:=qk7) (T:=78) (s:=2) HX1.out (Nat.zero_le _));clear HW0 HW1 HX1 W0;generalize hNT:tags.length=NT at *
 generalize hNK:kinds.length=NK at *
 have hNT9:NT≤900000:=by have:=HFW.out.1;simp only at this;omega
 have hNK9:NK≤900000:=by have:=HFW.out.2.2.1;simp only at this;omega
 have HNT:=hid hNT;have HNK:=hid hNK;go_wp2
 go_loopw [4] (fun i wr=>∃ (k:Nat) (v:Value) (d:List Value),i=.int .i64 k∧k≤NT∧Hid (Cp qk7 78 2 W1 X 26 wr [v,.slice none 0 0] v (tags.take k) d)) (fun i _=>NT-(intOf i).toNat)
 case atStart=>exact⟨0,_,_,rfl,Nat.zero_le _,HC3⟩
 case round =>
  obtain⟨k,v,d,rfl,hk,HCP⟩:=hrel;obtain⟨ar,cr,hvr⟩:=HCP.out.form;subst hvr;have HWR:=hid (HCP.out.bel HW3.out (by omega));have ea:=HCP.out.other HA3.out (by omega);have b1:=HCP.out.box.c 0 rfl;have e1:=ea.c 0 rfl;rcases Nat.lt_or_ge k NT with hlt|hge
  ·have hkl:k<tags.length:=by rw[HNT.out];exact hlt
   obtain⟨y,hy0⟩:∃ y,tags[k]?=some y:=⟨_,List.getElem?_eq_getElem hkl⟩
   have HTK:Hid (tags.take (k+1)=tags.take k++[y]):=hid (qf8 hy0);have hlk:(tags.take k).length=k:=by rw[List.length_take];omega
   rw[hlk] at b1 HCP;obtain⟨g1,d1,rfl,hel,hcl⟩:=HTL.out.at qfV k y hy0;have HVL:Hid (y.tys.length≤900000):=hid (HFW.out.2.1 y (qbW hy0));obtain⟨ay,py,rfl,hvs⟩:=qfO hel;have HRW:=hid (q8N (hvs.keep qkB (HWR.out.trans (((qa0 wr).trans ((Below.refl _ wr.drew).alloc (Nat.le_refl _) (.cells #[] 3))).mono HWR.out.size)) (Nat.le_refl _)));have HKK:Hid (∀ W,Eff X W1 W→W.cell? ⟨w.heap.size,0,none⟩=some (.slice (some ⟨g1,0,none⟩) NT p1)∧W.cell? ⟨g1,k * 2,none⟩=some (.string y.nm)∧W.cell? ⟨g1,k * 2+1,none⟩=some (.slice ay y.tys.length py)):=hid (fun W hW=>by
    have hb:=HW3.out.trans (hW.1.mono (by omega));exact⟨(HA3.out.oth hW.2 (by omega)).c 0 rfl,qaO hb (hcl 0 _ rfl),qaO hb (hcl 1 _ rfl)⟩)
   have HXA:Hid (Bx (wr.drew.alloc (.cells #[] 3)) wr.heap.size 3 []):=hid (Bx.new wr.drew _ []);have HCD:=hid (HCP.out.next qfV (qa0 wr));have HCA:=hid (HCD.out.next qfV ((Below.refl _ wr.drew).alloc (Nat.le_refl _) (.cells #[] 3)));have bA:=HCA.out.box.c 0 rfl;have bA2:(wr.alloc (.cells #[] 3)).cell? ⟨X,0,none⟩=some (.slice ar k cr):=bA;have hbA:Below wr.drew.heap.size wr.drew (wr.drew.alloc (.cells #[] 3)):=(Below.refl _ wr.drew).alloc (Nat.le_refl _) _;have HBA:=hid hbA;have HLK:=hid hlk;obtain⟨s0,hs0,hs1,hs2,hs3⟩:=qaN q6V;have HS:=hid (And.intro hs0 (And.intro hs1 (And.intro hs2 hs3)));clear hs0 hs1 hs2 hs3 hel hcl hvs hy0 hkl hlk hbA HCP ea;go_upto_region 5 with (fail);refine wp_region_held_drew (S:=fun W=>W.cell? ⟨w.heap.size,0,none⟩=some (.slice (some ⟨g1,0,none⟩) NT p1)∧W.cell? ⟨g1,k * 2,none⟩=some (.string y.nm)∧W.cell? ⟨g1,k * 2+1,none⟩=some (.slice ay y.tys.length py)) (by kernel_rfl) (HKK.out _ HCD.out.eff) (fun hHeld=>?_);refine wpAnyH_take (i:=0) (v:=?_) rfl (by kernel_rfl) (by kernel_rfl) (by kernel_rfl) (fun _ _ _ h=>h) (Or.inl ⟨by rfl,?_⟩) (by assumption) ?_
   rotate_left
   ·intro w hSw;(try dsimp only at hSw);go_simp;(try with_reducible rfl)
   try simp only[Act.put,List.setIfInBounds_toArray,List.set_cons_zero,List.set_cons_succ]
   refine wpAnyH_take (i:=2) (v:=?_) rfl (by kernel_rfl) (by kernel_rfl) (by kernel_rfl) (fun _ _ _ h=>h) (Or.inl ⟨by rfl,?_⟩) (by assumption) ?_
   rotate_left
   ·intro w hSw;(try dsimp only at hSw);go_simp;(try with_reducible rfl)
   try simp only[Act.put,List.setIfInBounds_toArray,List.set_cons_zero,List.set_cons_succ]
   refine wpAnyH_take (i:=3) (v:=?_) rfl (by kernel_rfl) (by kernel_rfl) (by kernel_rfl) (fun _ _ _ h=>h) (Or.inl ⟨by rfl,?_⟩) (by assumption) ?_
   rotate_left
   ·intro w hSw;(try dsimp only at hSw);go_simp;(try with_reducible rfl)
   try simp only[Act.put,List.setIfInBounds_toArray,List.set_cons_zero,List.set_cons_succ]
   refine wpAnyH_take (i:=4) (v:=?_) rfl (by kernel_rfl) (by kernel_rfl) (by kernel_rfl) (fun _ _ _ h=>h) (Or.inl ⟨by rfl,?_⟩) (by assumption) ?_
   rotate_left
   ·intro w hSw;(try dsimp only at hSw);go_simp;(try with_reducible rfl)
   try simp only[Act.put,List.setIfInBounds_toArray,List.set_cons_zero,List.set_cons_succ]
   refine wpAnyH_take (i:=5) (v:=?_) rfl (by kernel_rfl) (by kernel_rfl) (by kernel_rfl) (fun _ _ _ h=>h) (Or.inl ⟨by rfl,?_⟩) (by assumption) ?_
   rotate_left
   ·intro w hSw;(try dsimp only at hSw);go_simp;(try with_reducible rfl)
   try simp only[Act.put,List.setIfInBounds_toArray,List.set_cons_zero,List.set_cons_succ]
   refine wpAnyH_take (i:=6) (v:=?_) rfl (by kernel_rfl) (by kernel_rfl) (by kernel_rfl) (fun _ _ _ h=>h) (Or.inl ⟨by rfl,?_⟩) (by assumption) ?_
   rotate_left
   ·intro w hSw;(try dsimp only at hSw);go_simp;(try with_reducible rfl)
   try simp only[Act.put,List.setIfInBounds_toArray,List.set_cons_zero,List.set_cons_succ]
   refine wpAnyH_take (i:=7) (v:=?_) rfl (by kernel_rfl) (by kernel_rfl) (by kernel_rfl) (fun _ _ _ h=>h) (Or.inl ⟨by rfl,?_⟩) (by assumption) ?_
   rotate_left
   ·intro w hSw;(try dsimp only at hSw);go_simp;(try with_reducible rfl)
   try simp only[Act.put,List.setIfInBounds_toArray,List.set_cons_zero,List.set_cons_succ]
   refine wpAnyH_take (i:=9) (v:=?_) rfl (by kernel_rfl) (by kernel_rfl) (by kernel_rfl) (fun _ _ _ h=>h) (Or.inl ⟨by rfl,?_⟩) (by assumption) ?_
   rotate_left
   ·intro w hSw;(try dsimp only at hSw);go_simp;(try with_reducible rfl)
   try simp only[Act.put,List.setIfInBounds_toArray,List.set_cons_zero,List.set_cons_succ]
   refine wpAnyH_take (i:=10) (v:=?_) rfl (by kernel_rfl) (by kernel_rfl) (by kernel_rfl) (fun _ _ _ h=>h) (Or.inl ⟨by rfl,?_⟩) (by assumption) ?_
   rotate_left
   ·intro w hSw;(try dsimp only at hSw);go_simp;(try with_reducible rfl)
   try simp only[Act.put,List.setIfInBounds_toArray,List.set_cons_zero,List.set_cons_succ]
   refine wpAnyH_take (i:=11) (v:=?_) rfl (by kernel_rfl) (by kernel_rfl) (by kernel_rfl) (fun _ _ _ h=>h) (Or.inl ⟨by rfl,?_⟩) (by assumption) ?_
   rotate_left
   ·intro w hSw;(try dsimp only at hSw);go_simp;(try with_reducible rfl)
   try simp only[Act.put,List.setIfInBounds_toArray,List.set_cons_zero,List.set_cons_succ]
   refine wpAnyH_take (i:=12) (v:=?_) rfl (by kernel_rfl) (by kernel_rfl) (by kernel_rfl) (fun _ _ _ h=>h) (Or.inl ⟨by rfl,?_⟩) (by assumption) ?_
   rotate_left
   ·intro w hSw;(try dsimp only at hSw);go_simp;(try with_reducible rfl)
   try simp only[Act.put,List.setIfInBounds_toArray,List.set_cons_zero,List.set_cons_succ]
   refine wpAnyH_take (i:=13) (v:=?_) rfl (by kernel_rfl) (by kernel_rfl) (by kernel_rfl) (fun _ _ _ h=>h) (Or.inl ⟨by rfl,?_⟩) (by assumption) ?_
   rotate_left
   ·intro w hSw;(try dsimp only at hSw);go_simp;(try with_reducible rfl)
   try simp only[Act.put,List.setIfInBounds_toArray,List.set_cons_zero,List.set_cons_succ]
   refine wpAnyH_take (i:=14) (v:=?_) rfl (by kernel_rfl) (by kernel_rfl) (by kernel_rfl) (fun _ _ _ h=>h) (Or.inl ⟨by rfl,?_⟩) (by assumption) ?_
   rotate_left
   ·intro w hSw;(try dsimp only at hSw);go_simp;(try with_reducible rfl)
   try simp only[Act.put,List.setIfInBounds_toArray,List.set_cons_zero,List.set_cons_succ]
   refine wpAnyH_ready (rs:=[1,8]) (by kernel_rfl) (by simp) ?_;refine AllReadyH.cons rfl (fun K hK=>?_) ?_
   ·go_simp;refine hK.out _ _ ?_ (fun hHeld=>?_)
    ·first|exact HKK.out _ HCD.out.eff|exact HKK.out _ HCA.out.eff|exact HKK.out _ HC2.out.eff|exact HKK.out _ HCB.out.eff|exact HKK.out _ H7a.out.eff|exact HKK.out _ H7.out.eff
    clear hK K
    try simp only[Act.put,List.setIfInBounds_toArray,List.set_cons_zero,List.set_cons_succ]
    refine wpAnyH_ready (rs:=[8]) (by kernel_rfl) (by simp) ?_;refine AllReadyH.cons rfl (fun K hK=>?_) ?_
    ·go_simp;refine hK.out _ _ ?_ (fun hHeld=>?_)
     ·first|exact HKK.out _ HCD.out.eff|exact HKK.out _ HCA.out.eff|exact HKK.out _ HC2.out.eff|exact HKK.out _ HCB.out.eff|exact HKK.out _ H7a.out.eff|exact HKK.out _ H7.out.eff
     clear hK K
     try simp only[Act.put,List.setIfInBounds_toArray,List.set_cons_zero,List.set_cons_succ]
     refine wpAnyH_ready (rs:=[15]) (by kernel_rfl) (by simp) ?_;refine AllReadyH.cons rfl (fun K hK=>?_) ?_
     ·(try simp only[Act.put,List.getElem_toArray,List.getElem_cons_succ,List.getElem_cons_zero,List.setIfInBounds_toArray,List.set_cons_succ,List.set_cons_zero]);refine qcD (a:=⟨_,_⟩) rfl (.tmp 24) (.tmp 30) 53 rfl wr.heap.size 3 s0 _ 1 8 Tryz.underlying53 HS.out.1 HS.out.2 rfl (by decide) wr.heap.size HXA.out (Nat.le_refl _) (by rfl) (.slice ay y.tys.length py) y.tys.length (y.tys.map (Value.int .i64)) (by rfl) HRW.out (qt0 _) (by have:=HVL.out;omega) (by decide) ?_;intro v2 w2 ho2 hg2;obtain⟨a5,c5,rfl⟩:=qbN ho2;have hb2:Below wr.drew.heap.size wr.drew w2:=qfD hg2;have HB2:=hid hb2;have HIT5:Hid (Itm qk7 wr.drew.heap.size w2 [.string y.nm,.slice a5 y.tys.length c5] y):=hid (qpD (qhF (fun W=>qmA W _) ho2));have HC2:=hid (HCD.out.next qfV hb2);have HCB:=hid (HC2.out.next qfV ((Below.refl _ w2).alloc (Nat.le_refl _) (.cells [.string y.nm,.slice a5 y.tys.length c5].toArray 78)));have b2:=HC2.out.box.c 0 rfl;have b3:=HCB.out.box.c 0 rfl;clear ho2 hg2 hb2
      refine hK.out _ _ ?_ (fun hHeld=>?_)
      ·first|exact HKK.out _ HCD.out.eff|exact HKK.out _ HCA.out.eff|exact HKK.out _ HC2.out.eff|exact HKK.out _ HCB.out.eff|exact HKK.out _ H7a.out.eff|exact HKK.out _ H7.out.eff
      clear hK K
      try simp only[Act.put,List.setIfInBounds_toArray,List.set_cons_zero,List.set_cons_succ]
      refine wpAnyH_take (i:=16) (v:=?_) rfl (by kernel_rfl) (by kernel_rfl) (by kernel_rfl) (fun _ _ _ h=>h) (Or.inl ⟨by rfl,?_⟩) (by assumption) ?_
      rotate_left
      ·intro w hSw;(try dsimp only at hSw);go_simp;(try with_reducible rfl)
      try simp only[Act.put,List.setIfInBounds_toArray,List.set_cons_zero,List.set_cons_succ]
      refine wpAnyH_ready (rs:=[17]) (by kernel_rfl) (by simp) ?_;refine AllReadyH.cons rfl (fun K hK=>?_) ?_
      ·go_simp;refine hK.out _ _ ?_ (fun hHeld=>?_)
       ·first|exact HKK.out _ HCD.out.eff|exact HKK.out _ HCA.out.eff|exact HKK.out _ HC2.out.eff|exact HKK.out _ HCB.out.eff|exact HKK.out _ H7a.out.eff|exact HKK.out _ H7.out.eff
       clear hK K
       try simp only[Act.put,List.setIfInBounds_toArray,List.set_cons_zero,List.set_cons_succ]
       refine wpAnyH_ready (rs:=[18]) (by kernel_rfl) (by simp) ?_;refine AllReadyH.cons rfl (fun K hK=>?_) ?_
       ·(try simp only[Act.put,List.getElem_toArray,List.getElem_cons_succ,List.getElem_cons_zero,List.setIfInBounds_toArray,List.set_cons_succ,List.set_cons_zero]);refine qaL (a:=⟨_,_⟩) (w5:=w2) rfl (.tmp 17) (.tmp 33) 23 rfl qfV HCD.out k HLK.out.symm i0 _ 40 Tryz.underlying23 HI.out.1 HI.out.2 rfl (by decide) y [.string y.nm,.slice a5 y.tys.length c5] HB2.out HIT5.out 78 rfl (by rfl) 1 (by rfl) (by omega) (by decide) ?_;intro g7 p7 w7 h7;have H7a:=hid h7;have d7:=h7.box.c 0 rfl;have z7:=h7.box.fz 0;have H7:=hid (h7.put qfV 0 (.slice (some ⟨g7,0,none⟩) (k+1) p7));clear h7
        refine hK.out _ _ ?_ (fun hHeld=>?_)
        ·first|exact HKK.out _ HCD.out.eff|exact HKK.out _ HCA.out.eff|exact HKK.out _ HC2.out.eff|exact HKK.out _ HCB.out.eff|exact HKK.out _ H7a.out.eff|exact HKK.out _ H7.out.eff
        clear hK K
        try simp only[Act.put,List.setIfInBounds_toArray,List.set_cons_zero,List.set_cons_succ]
        refine wpAnyH_take (i:=19) (v:=?_) rfl (by kernel_rfl) (by kernel_rfl) (by kernel_rfl) (fun _ _ _ h=>h) (Or.inl ⟨by rfl,?_⟩) (by assumption) ?_
        rotate_left
        ·intro w hSw;(try dsimp only at hSw);go_simp;(try with_reducible rfl)
        try simp only[Act.put,List.setIfInBounds_toArray,List.set_cons_zero,List.set_cons_succ]
        refine wpAnyH_ready (rs:=[20]) (by kernel_rfl) (by simp) ?_;refine AllReadyH.cons rfl (fun K hK=>?_) ?_
        ·go_simp;refine hK.out _ _ ?_ (fun hHeld=>?_)
         ·first|exact HKK.out _ HCD.out.eff|exact HKK.out _ HCA.out.eff|exact HKK.out _ HC2.out.eff|exact HKK.out _ HCB.out.eff|exact HKK.out _ H7a.out.eff|exact HKK.out _ H7.out.eff
         clear hK K
         try simp only[Act.put,List.setIfInBounds_toArray,List.set_cons_zero,List.set_cons_succ]
         refine wpAnyH_done (by kernel_rfl) ?_ _;rw[← HTK.out] at H7;generalize w7.setCell ⟨X,0,none⟩ (.slice (some ⟨g7,0,none⟩) (k+1) p7)=w8 at *
         clear d7 z7 b2 b3 bA bA2 b1 e1 HIT5 HB2 HC2 HCB H7a HCD HCA HBA HKK HRW HXA;go_wp2;go_roundw
         case rel=>exact⟨k+1,_,_,by go_num,by omega,H7⟩
         case measure=>simp[intOf];omega
        exact AllReadyH.nil
       exact AllReadyH.nil
      exact AllReadyH.nil
     exact AllReadyH.nil
    exact AllReadyH.nil
   refine AllReadyH.cons rfl (fun K hK=>?_) ?_
   ·go_simp;refine hK.out _ _ ?_ (fun hHeld=>?_)
    ·first|exact HKK.out _ HCD.out.eff|exact HKK.out _ HCA.out.eff|exact HKK.out _ HC2.out.eff|exact HKK.out _ HCB.out.eff|exact HKK.out _ H7a.out.eff|exact HKK.out _ H7.out.eff
    clear hK K
    try simp only[Act.put,List.setIfInBounds_toArray,List.set_cons_zero,List.set_cons_succ]
    refine wpAnyH_ready (rs:=[1,15]) (by kernel_rfl) (by simp) ?_;refine AllReadyH.cons rfl (fun K hK=>?_) ?_
    ·go_simp;refine hK.out _ _ ?_ (fun hHeld=>?_)
     ·first|exact HKK.out _ HCD.out.eff|exact HKK.out _ HCA.out.eff|exact HKK.out _ HC2.out.eff|exact HKK.out _ HCB.out.eff|exact HKK.out _ H7a.out.eff|exact HKK.out _ H7.out.eff
     clear hK K
     try simp only[Act.put,List.setIfInBounds_toArray,List.set_cons_zero,List.set_cons_succ]
     refine wpAnyH_ready (rs:=[15]) (by kernel_rfl) (by simp) ?_;refine AllReadyH.cons rfl (fun K hK=>?_) ?_
     ·(try simp only[Act.put,List.getElem_toArray,List.getElem_cons_succ,List.getElem_cons_zero,List.setIfInBounds_toArray,List.set_cons_succ,List.set_cons_zero]);refine qcD (a:=⟨_,_⟩) rfl (.tmp 24) (.tmp 30) 53 rfl wr.heap.size 3 s0 _ 1 8 Tryz.underlying53 HS.out.1 HS.out.2 rfl (by decide) wr.heap.size HXA.out (Nat.le_refl _) (by rfl) (.slice ay y.tys.length py) y.tys.length (y.tys.map (Value.int .i64)) (by rfl) HRW.out (qt0 _) (by have:=HVL.out;omega) (by decide) ?_;intro v2 w2 ho2 hg2;obtain⟨a5,c5,rfl⟩:=qbN ho2;have hb2:Below wr.drew.heap.size wr.drew w2:=qfD hg2;have HB2:=hid hb2;have HIT5:Hid (Itm qk7 wr.drew.heap.size w2 [.string y.nm,.slice a5 y.tys.length c5] y):=hid (qpD (qhF (fun W=>qmA W _) ho2));have HC2:=hid (HCD.out.next qfV hb2);have HCB:=hid (HC2.out.next qfV ((Below.refl _ w2).alloc (Nat.le_refl _) (.cells [.string y.nm,.slice a5 y.tys.length c5].toArray 78)));have b2:=HC2.out.box.c 0 rfl;have b3:=HCB.out.box.c 0 rfl;clear ho2 hg2 hb2
      refine hK.out _ _ ?_ (fun hHeld=>?_)
      ·first|exact HKK.out _ HCD.out.eff|exact HKK.out _ HCA.out.eff|exact HKK.out _ HC2.out.eff|exact HKK.out _ HCB.out.eff|exact HKK.out _ H7a.out.eff|exact HKK.out _ H7.out.eff
      clear hK K
      try simp only[Act.put,List.setIfInBounds_toArray,List.set_cons_zero,List.set_cons_succ]
      refine wpAnyH_take (i:=16) (v:=?_) rfl (by kernel_rfl) (by kernel_rfl) (by kernel_rfl) (fun _ _ _ h=>h) (Or.inl ⟨by rfl,?_⟩) (by assumption) ?_
      rotate_left
      ·intro w hSw;(try dsimp only at hSw);go_simp;(try with_reducible rfl)
      try simp only[Act.put,List.setIfInBounds_toArray,List.set_cons_zero,List.set_cons_succ]
      refine wpAnyH_ready (rs:=[17]) (by kernel_rfl) (by simp) ?_;refine AllReadyH.cons rfl (fun K hK=>?_) ?_
      ·go_simp;refine hK.out _ _ ?_ (fun hHeld=>?_)
       ·first|exact HKK.out _ HCD.out.eff|exact HKK.out _ HCA.out.eff|exact HKK.out _ HC2.out.eff|exact HKK.out _ HCB.out.eff|exact HKK.out _ H7a.out.eff|exact HKK.out _ H7.out.eff
       clear hK K
       try simp only[Act.put,List.setIfInBounds_toArray,List.set_cons_zero,List.set_cons_succ]
       refine wpAnyH_ready (rs:=[18]) (by kernel_rfl) (by simp) ?_;refine AllReadyH.cons rfl (fun K hK=>?_) ?_
       ·(try simp only[Act.put,List.getElem_toArray,List.getElem_cons_succ,List.getElem_cons_zero,List.setIfInBounds_toArray,List.set_cons_succ,List.set_cons_zero]);refine qaL (a:=⟨_,_⟩) (w5:=w2) rfl (.tmp 17) (.tmp 33) 23 rfl qfV HCD.out k HLK.out.symm i0 _ 40 Tryz.underlying23 HI.out.1 HI.out.2 rfl (by decide) y [.string y.nm,.slice a5 y.tys.length c5] HB2.out HIT5.out 78 rfl (by rfl) 1 (by rfl) (by omega) (by decide) ?_;intro g7 p7 w7 h7;have H7a:=hid h7;have d7:=h7.box.c 0 rfl;have z7:=h7.box.fz 0;have H7:=hid (h7.put qfV 0 (.slice (some ⟨g7,0,none⟩) (k+1) p7));clear h7
        refine hK.out _ _ ?_ (fun hHeld=>?_)
        ·first|exact HKK.out _ HCD.out.eff|exact HKK.out _ HCA.out.eff|exact HKK.out _ HC2.out.eff|exact HKK.out _ HCB.out.eff|exact HKK.out _ H7a.out.eff|exact HKK.out _ H7.out.eff
        clear hK K
        try simp only[Act.put,List.setIfInBounds_toArray,List.set_cons_zero,List.set_cons_succ]
        refine wpAnyH_take (i:=19) (v:=?_) rfl (by kernel_rfl) (by kernel_rfl) (by kernel_rfl) (fun _ _ _ h=>h) (Or.inl ⟨by rfl,?_⟩) (by assumption) ?_
        rotate_left
        ·intro w hSw;(try dsimp only at hSw);go_simp;(try with_reducible rfl)
        try simp only[Act.put,List.setIfInBounds_toArray,List.set_cons_zero,List.set_cons_succ]
        refine wpAnyH_ready (rs:=[20]) (by kernel_rfl) (by simp) ?_;refine AllReadyH.cons rfl (fun K hK=>?_) ?_
        ·go_simp;refine hK.out _ _ ?_ (fun hHeld=>?_)
         ·first|exact HKK.out _ HCD.out.eff|exact HKK.out _ HCA.out.eff|exact HKK.out _ HC2.out.eff|exact HKK.out _ HCB.out.eff|exact HKK.out _ H7a.out.eff|exact HKK.out _ H7.out.eff
         clear hK K
         try simp only[Act.put,List.setIfInBounds_toArray,List.set_cons_zero,List.set_cons_succ]
         refine wpAnyH_done (by kernel_rfl) ?_ _;rw[← HTK.out] at H7;generalize w7.setCell ⟨X,0,none⟩ (.slice (some ⟨g7,0,none⟩) (k+1) p7)=w8 at *
         clear d7 z7 b2 b3 bA bA2 b1 e1 HIT5 HB2 HC2 HCB H7a HCD HCA HBA HKK HRW HXA;go_wp2;go_roundw
         case rel=>exact⟨k+1,_,_,by go_num,by omega,H7⟩
         case measure=>simp[intOf];omega
        exact AllReadyH.nil
       exact AllReadyH.nil
      exact AllReadyH.nil
     exact AllReadyH.nil
    refine AllReadyH.cons rfl (fun K hK=>?_) ?_
    ·(try simp only[Act.put,List.getElem_toArray,List.getElem_cons_succ,List.getElem_cons_zero,List.setIfInBounds_toArray,List.set_cons_succ,List.set_cons_zero]);refine qcD (a:=⟨_,_⟩) rfl (.tmp 24) (.tmp 30) 53 rfl wr.heap.size 3 s0 _ 1 8 Tryz.underlying53 HS.out.1 HS.out.2 rfl (by decide) wr.heap.size HXA.out (Nat.le_refl _) (by rfl) (.slice ay y.tys.length py) y.tys.length (y.tys.map (Value.int .i64)) (by rfl) HRW.out (qt0 _) (by have:=HVL.out;omega) (by decide) ?_;intro v2 w2 ho2 hg2;obtain⟨a5,c5,rfl⟩:=qbN ho2;have hb2:Below wr.drew.heap.size wr.drew w2:=qfD hg2;have HB2:=hid hb2;have HIT5:Hid (Itm qk7 wr.drew.heap.size w2 [.string y.nm,.slice a5 y.tys.length c5] y):=hid (qpD (qhF (fun W=>qmA W _) ho2));have HC2:=hid (HCD.out.next qfV hb2);have HCB:=hid (HC2.out.next qfV ((Below.refl _ w2).alloc (Nat.le_refl _) (.cells [.string y.nm,.slice a5 y.tys.length c5].toArray 78)));have b2:=HC2.out.box.c 0 rfl;have b3:=HCB.out.box.c 0 rfl;clear ho2 hg2 hb2
     refine hK.out _ _ ?_ (fun hHeld=>?_)
     ·first|exact HKK.out _ HCD.out.eff|exact HKK.out _ HCA.out.eff|exact HKK.out _ HC2.out.eff|exact HKK.out _ HCB.out.eff|exact HKK.out _ H7a.out.eff|exact HKK.out _ H7.out.eff
     clear hK K
     try simp only[Act.put,List.setIfInBounds_toArray,List.set_cons_zero,List.set_cons_succ]
     refine wpAnyH_take (i:=16) (v:=?_) rfl (by kernel_rfl) (by kernel_rfl) (by kernel_rfl) (fun _ _ _ h=>h) (Or.inl ⟨by rfl,?_⟩) (by assumption) ?_
     rotate_left
     ·intro w hSw;(try dsimp only at hSw);go_simp;(try with_reducible rfl)
     try simp only[Act.put,List.setIfInBounds_toArray,List.set_cons_zero,List.set_cons_succ]
     refine wpAnyH_ready (rs:=[1,17]) (by kernel_rfl) (by simp) ?_;refine AllReadyH.cons rfl (fun K hK=>?_) ?_
     ·go_simp;refine hK.out _ _ ?_ (fun hHeld=>?_)
      ·first|exact HKK.out _ HCD.out.eff|exact HKK.out _ HCA.out.eff|exact HKK.out _ HC2.out.eff|exact HKK.out _ HCB.out.eff|exact HKK.out _ H7a.out.eff|exact HKK.out _ H7.out.eff
      clear hK K
      try simp only[Act.put,List.setIfInBounds_toArray,List.set_cons_zero,List.set_cons_succ]
      refine wpAnyH_ready (rs:=[17]) (by kernel_rfl) (by simp) ?_;refine AllReadyH.cons rfl (fun K hK=>?_) ?_
      ·go_simp;refine hK.out _ _ ?_ (fun hHeld=>?_)
       ·first|exact HKK.out _ HCD.out.eff|exact HKK.out _ HCA.out.eff|exact HKK.out _ HC2.out.eff|exact HKK.out _ HCB.out.eff|exact HKK.out _ H7a.out.eff|exact HKK.out _ H7.out.eff
       clear hK K
       try simp only[Act.put,List.setIfInBounds_toArray,List.set_cons_zero,List.set_cons_succ]
       refine wpAnyH_ready (rs:=[18]) (by kernel_rfl) (by simp) ?_;refine AllReadyH.cons rfl (fun K hK=>?_) ?_
       ·(try simp only[Act.put,List.getElem_toArray,List.getElem_cons_succ,List.getElem_cons_zero,List.setIfInBounds_toArray,List.set_cons_succ,List.set_cons_zero]);refine qaL (a:=⟨_,_⟩) (w5:=w2) rfl (.tmp 17) (.tmp 33) 23 rfl qfV HCD.out k HLK.out.symm i0 _ 40 Tryz.underlying23 HI.out.1 HI.out.2 rfl (by decide) y [.string y.nm,.slice a5 y.tys.length c5] HB2.out HIT5.out 78 rfl (by rfl) 1 (by rfl) (by omega) (by decide) ?_;intro g7 p7 w7 h7;have H7a:=hid h7;have d7:=h7.box.c 0 rfl;have z7:=h7.box.fz 0;have H7:=hid (h7.put qfV 0 (.slice (some ⟨g7,0,none⟩) (k+1) p7));clear h7
        refine hK.out _ _ ?_ (fun hHeld=>?_)
        ·first|exact HKK.out _ HCD.out.eff|exact HKK.out _ HCA.out.eff|exact HKK.out _ HC2.out.eff|exact HKK.out _ HCB.out.eff|exact HKK.out _ H7a.out.eff|exact HKK.out _ H7.out.eff
        clear hK K
        try simp only[Act.put,List.setIfInBounds_toArray,List.set_cons_zero,List.set_cons_succ]
        refine wpAnyH_take (i:=19) (v:=?_) rfl (by kernel_rfl) (by kernel_rfl) (by kernel_rfl) (fun _ _ _ h=>h) (Or.inl ⟨by rfl,?_⟩) (by assumption) ?_
        rotate_left
        ·intro w hSw;(try dsimp only at hSw);go_simp;(try with_reducible rfl)
        try simp only[Act.put,List.setIfInBounds_toArray,List.set_cons_zero,List.set_cons_succ]
        refine wpAnyH_ready (rs:=[20]) (by kernel_rfl) (by simp) ?_;refine AllReadyH.cons rfl (fun K hK=>?_) ?_
        ·go_simp;refine hK.out _ _ ?_ (fun hHeld=>?_)
         ·first|exact HKK.out _ HCD.out.eff|exact HKK.out _ HCA.out.eff|exact HKK.out _ HC2.out.eff|exact HKK.out _ HCB.out.eff|exact HKK.out _ H7a.out.eff|exact HKK.out _ H7.out.eff
         clear hK K
         try simp only[Act.put,List.setIfInBounds_toArray,List.set_cons_zero,List.set_cons_succ]
         refine wpAnyH_done (by kernel_rfl) ?_ _;rw[← HTK.out] at H7;generalize w7.setCell ⟨X,0,none⟩ (.slice (some ⟨g7,0,none⟩) (k+1) p7)=w8 at *
         clear d7 z7 b2 b3 bA bA2 b1 e1 HIT5 HB2 HC2 HCB H7a HCD HCA HBA HKK HRW HXA;go_wp2;go_roundw
         case rel=>exact⟨k+1,_,_,by go_num,by omega,H7⟩
         case measure=>simp[intOf];omega
        exact AllReadyH.nil
       exact AllReadyH.nil
      exact AllReadyH.nil
     refine AllReadyH.cons rfl (fun K hK=>?_) ?_
     ·go_simp;refine hK.out _ _ ?_ (fun hHeld=>?_)
      ·first|exact HKK.out _ HCD.out.eff|exact HKK.out _ HCA.out.eff|exact HKK.out _ HC2.out.eff|exact HKK.out _ HCB.out.eff|exact HKK.out _ H7a.out.eff|exact HKK.out _ H7.out.eff
      clear hK K
      try simp only[Act.put,List.setIfInBounds_toArray,List.set_cons_zero,List.set_cons_succ]
      refine wpAnyH_ready (rs:=[1]) (by kernel_rfl) (by simp) ?_;refine AllReadyH.cons rfl (fun K hK=>?_) ?_
      ·go_simp;refine hK.out _ _ ?_ (fun hHeld=>?_)
       ·first|exact HKK.out _ HCD.out.eff|exact HKK.out _ HCA.out.eff|exact HKK.out _ HC2.out.eff|exact HKK.out _ HCB.out.eff|exact HKK.out _ H7a.out.eff|exact HKK.out _ H7.out.eff
       clear hK K
       try simp only[Act.put,List.setIfInBounds_toArray,List.set_cons_zero,List.set_cons_succ]
       refine wpAnyH_ready (rs:=[18]) (by kernel_rfl) (by simp) ?_;refine AllReadyH.cons rfl (fun K hK=>?_) ?_
       ·(try simp only[Act.put,List.getElem_toArray,List.getElem_cons_succ,List.getElem_cons_zero,List.setIfInBounds_toArray,List.set_cons_succ,List.set_cons_zero]);refine qaL (a:=⟨_,_⟩) (w5:=w2) rfl (.tmp 17) (.tmp 33) 23 rfl qfV HCD.out k HLK.out.symm i0 _ 40 Tryz.underlying23 HI.out.1 HI.out.2 rfl (by decide) y [.string y.nm,.slice a5 y.tys.length c5] HB2.out HIT5.out 78 rfl (by rfl) 1 (by rfl) (by omega) (by decide) ?_;intro g7 p7 w7 h7;have H7a:=hid h7;have d7:=h7.box.c 0 rfl;have z7:=h7.box.fz 0;have H7:=hid (h7.put qfV 0 (.slice (some ⟨g7,0,none⟩) (k+1) p7));clear h7
        refine hK.out _ _ ?_ (fun hHeld=>?_)
        ·first|exact HKK.out _ HCD.out.eff|exact HKK.out _ HCA.out.eff|exact HKK.out _ HC2.out.eff|exact HKK.out _ HCB.out.eff|exact HKK.out _ H7a.out.eff|exact HKK.out _ H7.out.eff
        clear hK K
        try simp only[Act.put,List.setIfInBounds_toArray,List.set_cons_zero,List.set_cons_succ]
        refine wpAnyH_take (i:=19) (v:=?_) rfl (by kernel_rfl) (by kernel_rfl) (by kernel_rfl) (fun _ _ _ h=>h) (Or.inl ⟨by rfl,?_⟩) (by assumption) ?_
        rotate_left
        ·intro w hSw;(try dsimp only at hSw);go_simp;(try with_reducible rfl)
        try simp only[Act.put,List.setIfInBounds_toArray,List.set_cons_zero,List.set_cons_succ]
        refine wpAnyH_ready (rs:=[20]) (by kernel_rfl) (by simp) ?_;refine AllReadyH.cons rfl (fun K hK=>?_) ?_
        ·go_simp;refine hK.out _ _ ?_ (fun hHeld=>?_)
         ·first|exact HKK.out _ HCD.out.eff|exact HKK.out _ HCA.out.eff|exact HKK.out _ HC2.out.eff|exact HKK.out _ HCB.out.eff|exact HKK.out _ H7a.out.eff|exact HKK.out _ H7.out.eff
         clear hK K
         try simp only[Act.put,List.setIfInBounds_toArray,List.set_cons_zero,List.set_cons_succ]
         refine wpAnyH_done (by kernel_rfl) ?_ _;rw[← HTK.out] at H7;generalize w7.setCell ⟨X,0,none⟩ (.slice (some ⟨g7,0,none⟩) (k+1) p7)=w8 at *
         clear d7 z7 b2 b3 bA bA2 b1 e1 HIT5 HB2 HC2 HCB H7a HCD HCA HBA HKK HRW HXA;go_wp2;go_roundw
         case rel=>exact⟨k+1,_,_,by go_num,by omega,H7⟩
         case measure=>simp[intOf];omega
        exact AllReadyH.nil
       exact AllReadyH.nil
      exact AllReadyH.nil
     exact AllReadyH.nil
    exact AllReadyH.nil
   exact AllReadyH.nil
  ·obtain rfl:k=NT:=by omega
   have hfull:tags.take k=tags:=List.take_of_length_le (by rw[HNT.out];exact Nat.le_refl _);rw[hfull] at HCP b1;have HP4:=hid HCP.out.lst;have HE4:=hid HCP.out.eff;have HXC:=hid HCP.out.lt;have HA4:=hid ea;have HR4:=hid (HCP.out.other HR3.out (by omega));have HC4:=hid (Cp.start (E:=qfI) (T:=69) (s:=2) HCP.out.box (Nat.zero_le _));rw[HNT.out] at HC4;go_wp2;generalize wr=W4 at *
   clear HCP HA3 HR3 HC3 b1 e1 ea hge hk;rename_i hclear
   go_loopw [5] (fun i wr=>∃ (j:Nat) (v:Value) (d:List Value),i=.int .i64 j∧j≤NK∧Hid (Cp qfI 69 2 W4 X 26 wr [.slice ar k cr,v] v (kinds.take j) d)) (fun i _=>NK-(intOf i).toNat)
   case atStart=>exact⟨0,_,_,rfl,Nat.zero_le _,HC4⟩
   case round =>
    obtain⟨j,v,d2,rfl,hj,HCP⟩:=hrel;obtain⟨ar2,cr2,hvr⟩:=HCP.out.form;subst hvr;have HWQ:=hid (HCP.out.bel HWR.out (by omega));have ea:=HCP.out.other HA4.out (by omega);have b3:=HCP.out.box.c 1 rfl;have e3:=ea.c 1 rfl;rcases Nat.lt_or_ge j NK with hltj|hgej
    ·have hjl:j<kinds.length:=by rw[HNK.out];exact hltj
     obtain⟨y,hy0⟩:∃ y,kinds[j]?=some y:=⟨_,List.getElem?_eq_getElem hjl⟩
     have HTK:Hid (kinds.take (j+1)=kinds.take j++[y]):=hid (qf8 hy0);have hlk:(kinds.take j).length=j:=by rw[List.length_take];omega
     rw[hlk] at b3 HCP;obtain⟨g1,d1,rfl,hel,hcl⟩:=HKL.out.at qdY j y hy0;have HKC:Hid (∀ c ∈ y.chords,okC c):=hid (HOK.out y (qbW hy0));have HKF:Hid (y.chords.length≤900000∧∀ c ∈ y.chords,q52 900000 c):=hid (HFW.out.2.2.2 y (qbW hy0));obtain⟨ay,py,rfl,hcs⟩:=qe0 hel;have HCL:=hid hcl;have HCS:=hid hcs;have HLK:=hid hlk;have y0:wr.cell? ⟨g1,j * 2,none⟩=some (.string y.nm):=qaO HWQ.out (hcl 0 _ rfl);have HEA:=hid ea;clear hel hcl hcs hy0 hjl hlk;obtain⟨W5,hW5⟩:∃ W5,W5=wr.alloc (.cells #[.string y.nm,.slice none 0 0] 69):=⟨_,rfl⟩
     have hb5:Below wr.heap.size wr W5:=by rw[hW5];exact(Below.refl _ wr).alloc (Nat.le_refl _) _
     have hx5:Bx W5 wr.heap.size 69 [.string y.nm,.slice none 0 0]:=by rw[hW5];exact Bx.new wr _ _
     have HW5:=hid hW5;have HB5:=hid hb5;have HC5:=hid (Cp.start (E:=qbB) (T:=44) (s:=4) hx5 (Nat.zero_le _));have HP5:=hid (HCP.out.next qdY hb5);have HA5:=hid (ea.keep hb5 ea.lt);have HWS:Hid (Below w.heap.size w W5):=hid (HWQ.out.trans (hb5.mono HWQ.out.size));have hXY:X<wr.heap.size:=HCP.out.box.lt;have hYE:w.heap.size<wr.heap.size:=by omega
     clear hW5 hb5 hx5 ea;generalize hNC:y.chords.length=NC at *
     have HNC:=hid hNC;have hNC9:NC≤900000:=HKF.out.1;go_upto_region 10 with (fail);rw[← HW5.out];generalize hY:wr.heap.size=Y at *
     have HCQ:=hid HCP.out;clear HW5 HEA b3 e3 y0 HCP;generalize wr=Wq at *
     go_wp2;rename_i hclear1 hclear2 hclear3
     go_loopw [7] (fun i wr=>∃ (m:Nat) (v:Value) (d:List Value),i=.int .i64 m∧m≤NC∧Hid (Cp qbB 44 4 W5 Y 69 wr [.string y.nm,v] v (y.chords.take m) d)) (fun i _=>NC-(intOf i).toNat)
     case atStart=>exact⟨0,_,_,rfl,Nat.zero_le _,HC5⟩
     case round =>
      obtain⟨m,v3,d3,rfl,hm,HCP⟩:=hrel;obtain⟨ar3,cr3,hvr3⟩:=HCP.out.form;subst hvr3;have HWM:=hid (HCP.out.bel HWS.out (by omega));have e3:=(HCP.out.other HA5.out (by omega)).c 1 rfl;have z1:wr.cell? ⟨g1,j * 2+1,none⟩=some (.slice ay NC py):=qaO HWM.out (HCL.out 1 _ rfl);have b3:=HCP.out.box.c 1 rfl;rcases Nat.lt_or_ge m NC with hltm|hgem
      ·have hml:m<y.chords.length:=by rw[HNC.out];exact hltm
       obtain⟨c,hc0⟩:∃ c,y.chords[m]?=some c:=⟨_,List.getElem?_eq_getElem hml⟩
       have HTM:Hid (y.chords.take (m+1)=y.chords.take m++[c]):=hid (qf8 hc0);have hlm:(y.chords.take m).length=m:=by rw[List.length_take];omega
       rw[hlm] at b3 HCP;obtain⟨g3,d4,rfl,hel,hcl⟩:=qeP qaM HCS.out hc0 HWM.out;have hcall:=qnX c (HKC.out c (qbW hc0)) (HKF.out.2 c (qbW hc0)) d4 wr.drew (hel.keep qaM (HWM.out.trans ((qa0 wr).mono HWM.out.size)) (Nat.le_refl _));obtain⟨ca1,cp1,ca2,cm2,cp2,ca3,cp3,rfl,_,_,_⟩:=qb4 hel;have y0:wr.cell? ⟨g3,m * 4,none⟩=some (.string c.nm):=hcl 0 _ rfl;have y1:wr.cell? ⟨g3,m * 4+1,none⟩=some (.slice ca1 c.parts.length cp1):=hcl 1 _ rfl;have y2:wr.cell? ⟨g3,m * 4+2,none⟩=some (.slice ca2 cm2 cp2):=hcl 2 _ rfl;have y3:wr.cell? ⟨g3,m * 4+3,none⟩=some (.slice ca3 c.body.length cp3):=hcl 3 _ rfl;unfold qh5 at hcall;have HC:=hid hcall;have HLM:=hid hlm;have HCD:=hid (HCP.out.next qaM (qa0 wr));clear hel hcl hcall hc0 hml hlm;go_upto_region 13 with (fail)
       go_region_law (first
        | (go_simp;go_at_call 30;refine HC.out.mono ?_;rintro e w5 ⟨cv,rfl,hit,hb5⟩;obtain⟨ad5,m5,c5,ad6,m6,c6,ad8,m8,c8,rfl⟩:=qtI hit;have HIT5:=hid hit;have HB9:=hid hb5;have HX5:=hid (HCD.out.next qaM hb5);have b5:=HX5.out.box.c 1 rfl;have b6:=(HX5.out.next qaM ((Below.refl w5.heap.size w5).alloc (Nat.le_refl _) (.cells [.string c.nm,.slice ad5 m5 c5,.slice ad6 m6 c6,.slice ad8 m8 c8].toArray 44))).box.c 1 rfl;clear hit hb5)
        | ((try simp only[Act.put,List.getElem_toArray,List.getElem_cons_succ,List.getElem_cons_zero,List.setIfInBounds_toArray,List.set_cons_succ,List.set_cons_zero]);refine qaL (a:=⟨_,_⟩) (w5:=w5) rfl (.tmp 62) (.tmp 73) 67 rfl qaM HCD.out m HLM.out.symm q0 _ 88 Tryz.underlying67 HQ.out.1 HQ.out.2 rfl (by decide) c [.string c.nm,.slice ad5 m5 c5,.slice ad6 m6 c6,.slice ad8 m8 c8] HB9.out HIT5.out 44 rfl (by rfl) 1 (by rfl) (by omega) (by decide) ?_;intro g7 p7 w7 h7;have d7:=h7.box.c 1 rfl;have z7:=h7.box.fz 1;have H7:=hid (h7.put qaM 1 (.slice (some ⟨g7,0,none⟩) (m+1) p7));clear h7))
       all_goals
        rw[← HTM.out] at H7;generalize w7.setCell ⟨Y,1,none⟩ (.slice (some ⟨g7,0,none⟩) (m+1) p7)=w8 at H7 ⊢;clear d7 z7 b5 b6 b3 e3 y0 y1 y2 y3 z1 HIT5 HB9 HX5 HCD HC HCP;go_wp2;go_roundw
        case rel=>exact⟨m+1,_,_,by go_num,by omega,H7⟩
        case measure=>simp[intOf];omega
      ·obtain rfl:m=NC:=by omega
       have hfullm:y.chords.take m=y.chords:=List.take_of_length_le (by rw[HNC.out];exact Nat.le_refl _);rw[hfullm] at HCP b3;have HITK:=hid ((qvD (nm:=y.nm) HCP.out.lst).wide (lo':=Y) (by have:=HB5.out.size;omega));have hbq:Below Y Wq wr:=HB5.out.trans HCP.out.eff.1;rw[HNC.out] at b3 HITK;have HBQ:=hid hbq;have x1:=(HCP.out.other HP5.out.box (by omega)).c 1 rfl;have k0:=HCP.out.box.c 0 rfl;subst hY;clear hbq;go_wp2_with (at_builtin;refine qiF (w5:=wr) rfl (.tmp 77) (.tmp 79) 24 rfl qdY HCQ.out j HLK.out.symm j0 _ 40 Tryz.underlying24 HJ.out.1 HJ.out.2 rfl (by decide) y [.string y.nm,.slice ar3 m cr3] HBQ.out HITK.out 69 rfl rfl 1 rfl (by omega) (by decide) ?_;intro g7 p7 w7 h7;have d7:=h7.box.c 1 rfl;have z7:=h7.box.fz 1;have H7:=hid (h7.put qdY 1 (.slice (some ⟨g7,0,none⟩) (j+1) p7));clear h7);rw[← HTK.out] at H7;go_roundw
       case rel=>exact⟨j+1,_,_,by go_num,by omega,H7⟩
       case measure=>simp[intOf];omega
    ·obtain rfl:j=NK:=by omega
     have hfullk:kinds.take j=kinds:=List.take_of_length_le (by rw[HNK.out];exact Nat.le_refl _);rw[hfullk] at HCP b3;have er:=HCP.out.other HR4.out (by omega);have q1:=HCP.out.box.c 0 rfl;have r0:=er.c 0 rfl;have r1:=er.c 1 rfl;have z0:=er.fz 0;have z1:=er.fz 1;have hit:=q47 HP4.out HCP.out.lst HE4.out HCP.out.eff HXC.out (Nat.le_refl _);have h99:=q0H hit (by have:=HXC.out;omega) HWQ.out;rw[HNT.out,HNK.out] at h99;rw[HNK.out] at b3;have H99:=hid h99;have HER:=hid er;clear er hit ea h99;go_wp2;exact bodyPost_ret (quP rfl rfl ((HER.out.set 0 _).set 1 _)) rfl H99.out
theorem qlV {w:World} {g s n:Nat} {T:TypeId} {cs:List Value} (h:Bx w g T cs) (hl:cs.length=n * s) (hm:n≤maxLen):w.ownsRow 0 T s (.slice (some ⟨g,0,none⟩) n n) n cs :=
 ⟨hl,.inr ⟨g,n,cs.toArray,rfl,Nat.zero_le _,h,Nat.le_refl _,hm,by simpa using hl,by simp[← hl]⟩⟩
def P0:ProgE:=⟨[⟨⟨#[105,110,99]⟩,[1,4]⟩],[⟨⟨#[107]⟩,[]⟩]⟩
theorem jd8:okP9 P0:=by
 have h1:wd8 ⟨#[105,110,99]⟩:=⟨by decide,by decide⟩
 have h2:wd8 ⟨#[107]⟩:=⟨by decide,by decide⟩
 refine⟨fun t ht=>?_,fun k hk=>?_⟩
 ·simp only[P0,List.mem_cons,List.not_mem_nil,or_false] at ht;subst ht;refine⟨h1,fun x hx=>?_⟩;simp only[List.mem_cons,List.not_mem_nil,or_false] at hx;rcases hx with rfl|rfl
  ·exact .inl rfl
  ·exact .inr (.inr (.inr rfl))
 ·simp only[P0,List.mem_cons,List.not_mem_nil,or_false] at hk;subst hk;exact⟨h2,fun _ h=>by cases h⟩
theorem q9P:wP P0=[116,97,103,32,105,110,99,40,105,110,116,44,32,116,101,120,116,41,59,10,107,105,110,100,32,107,32,123,10,125,10]:=by decide
theorem q9Q {w W1 W2 W3:World} (h1:W1=w.alloc (.cells #[.int .i64 1,.int .i64 4] 3)) (h2:W2=W1.alloc (.cells #[.string ⟨#[105,110,99]⟩,.slice (some ⟨w.heap.size,0,none⟩) 2 2] 78)) (h3:W3=W2.alloc (.cells #[.string ⟨#[107]⟩,.slice none 0 0] 69)) :
  qd7 qfR W3 [.slice (some ⟨W1.heap.size,0,none⟩) 1 1,.slice (some ⟨W2.heap.size,0,none⟩) 1 1] P0∧Below w.heap.size w W3:=by
 have b1:Below w.heap.size w W1:=by rw[h1];exact(Below.refl _ w).alloc (Nat.le_refl _) _
 have b2:Below W1.heap.size W1 W2:=by rw[h2];exact(Below.refl _ W1).alloc (Nat.le_refl _) _
 have b3:Below W2.heap.size W2 W3:=by rw[h3];exact(Below.refl _ W2).alloc (Nat.le_refl _) _
 have x1:Bx W1 w.heap.size 3 [.int .i64 1,.int .i64 4]:=by rw[h1];exact Bx.new w _ _
 have x2:Bx W2 W1.heap.size 78 [.string ⟨#[105,110,99]⟩,.slice (some ⟨w.heap.size,0,none⟩) 2 2]:=by rw[h2];exact Bx.new W1 _ _
 have x3:Bx W3 W2.heap.size 69 [.string ⟨#[107]⟩,.slice none 0 0]:=by rw[h3];exact Bx.new W2 _ _
 have y1:=(x1.keep b2 x1.lt)
 have y2:=(y1.keep b3 y1.lt)
 have z2:=(x2.keep b3 x2.lt)
 have l1:=y2.lt;have l2:=z2.lt;have l3:=x3.lt;have r1:ListV qrM 3 1 W3 [w.heap.size] (.slice (some ⟨w.heap.size,0,none⟩) 2 2) [1,4] [.int .i64 1,.int .i64 4]:=⟨qlV y2 rfl (by decide),[],rfl,qmA W3 [1,4]⟩
 have r2:ListV qk7 78 2 W3 [W1.heap.size,w.heap.size] (.slice (some ⟨W1.heap.size,0,none⟩) 1 1) [⟨⟨#[105,110,99]⟩,[1,4]⟩] [.string ⟨#[105,110,99]⟩,.slice (some ⟨w.heap.size,0,none⟩) 2 2] :=
  ⟨qlV z2 rfl (by decide),[w.heap.size],rfl,[w.heap.size],[],_,[],rfl,rfl,⟨_,_,rfl,r1⟩,rfl,rfl⟩
 have r3:ListV qfI 69 2 W3 [W2.heap.size] (.slice (some ⟨W2.heap.size,0,none⟩) 1 1) [⟨⟨#[107]⟩,[]⟩] [.string ⟨#[107]⟩,.slice none 0 0] :=
  ⟨qlV x3 rfl (by decide),[],rfl,[],[],_,[],rfl,rfl,⟨_,_,rfl,ListV.nil _ _ _ _⟩,rfl,rfl⟩
 refine⟨⟨[W1.heap.size,w.heap.size]++[W2.heap.size],⟨_,_,_,_,_,_,rfl,rfl,r2,r3⟩,fun b hb=>?_⟩,b1.trans ((b2.mono b1.size).trans (b3.mono (Nat.le_trans b1.size b2.size)))⟩;simp at hb;rcases hb with rfl|rfl|rfl <;> assumption
theorem qyC (w:World) (hE:Env9 w):Calls Tryz.prog 26 #[] w (fun e w'=>e=.returned (.bool true)∧Below w.heap.size w w'):=by
 obtain⟨W1,hW1⟩:∃ W1,W1=w.alloc (.cells #[.int .i64 1,.int .i64 4] 3):=⟨_,rfl⟩
 obtain⟨W2,hW2⟩:∃ W2,W2=W1.alloc (.cells #[.string ⟨#[105,110,99]⟩,.slice (some ⟨w.heap.size,0,none⟩) 2 2] 78):=⟨_,rfl⟩
 obtain⟨W3,hW3⟩:∃ W3,W3=W2.alloc (.cells #[.string ⟨#[107]⟩,.slice none 0 0] 69):=⟨_,rfl⟩
 obtain⟨hH,hb⟩:=q9Q hW1 hW2 hW3;have hs1:W1.heap.size=w.heap.size+1:=by rw[hW1,World.size_alloc]
 have hs2:W2.heap.size=w.heap.size+1+1:=by rw[hW2,World.size_alloc,hs1]
 rw[hs2,hs1] at hH;have hcall:=qjJ W3 P0 _ hH jd8 (hE.next hb);unfold qmJ at hcall;rw[q9P,if_pos (by decide)] at hcall;have HC:=hid hcall;have HB:=hid hb;clear hH hcall hb hs1 hs2;subst hW3 hW2 hW1;go_enter Tryz.func26,Tryz.ntmps26;go_wp2_with (go_at_call 27;refine HC.out.mono ?_;rintro e w4 ⟨rfl,hb4⟩;have HB4:=hid (HB.out.trans (hb4.mono HB.out.size));clear hb4);go_ret;exact⟨rfl,HB4.out⟩
theorem qyA (l:List UInt8):∀ u ∈ u8s l,u.oneCell'=true:=by
 intro u hu;obtain⟨x,_,rfl⟩:=List.mem_map.1 hu;rfl
theorem qn2 (s:ByteArray) (w:World) (h:s.size≤maxLen):∃ c w',(convert 9 22 (.string s)).run Tryz.prog w=.ok (.slice (some ⟨w.heap.size,0,none⟩) s.size c) w'∧Txt w' (some ⟨w.heap.size,0,none⟩) s.size c s.data.toList∧Below w.heap.size w w':=by
 refine⟨_,_,run_bytes_of_string w 9 22 5 s Tryz.underlying9 Tryz.underlying22 Tryz.underlying5,?_,((Below.refl _ w).drew).alloc (Nat.le_refl _) _⟩;refine⟨Array.length_toList,grownCap_ge _ _ _ _,grownCap_le_maxLen _ _ _ _ h,.inr ⟨_,rfl,fun i hi=>?_⟩⟩;have hi':i<s.data.size:=by simpa using hi
 have e1:(⟨w.heap.size,0,none⟩:Addr).add i=⟨w.heap.size,i,none⟩:=by unfold Addr.add;simp;intro h;exact h.symm
 have e2:=bytesRow_at s (grownCap w s.size 0 5) i hi';rw[e1];have e3:=heap_alloc_new w.drew (.cells (bytesRow s (grownCap w s.size 0 5)) 5 ((bytesRow s (grownCap w s.size 0 5)).size,(bytesRow s (grownCap w s.size 0 5)).size+1));unfold World.cell?;rw[show w.heap.size=w.drew.heap.size from rfl];simp only[e3];rw[e2];simp
theorem qmP (w:World) (t ty:TypeId) (ht:Tryz.prog.underlying t=some (.slice 5)) (g:Nat) (hg:Bx w g 5 []) (a:Option Addr) (n cap:Nat) (l:List UInt8) (hT:Txt w a n cap l) (hr:n≤140737488351232) :
  ∃ a' c' w',(Builtin.append_ #[t,t] ty #[.slice (some ⟨g,0,none⟩) 0 0,.slice a n cap]).run Tryz.prog w=.ok (.slice a' n c') w'∧Txt w' a' n c' l∧w.grownBy w' (some g):=by
 obtain⟨i0,hi,hz0,hz1,hz2⟩:=info_parts q6W;have hown:=qr3 (sz:=1) (B:=g) hg (Nat.le_refl _);have hBw:g≤w.heap.size:=Nat.le_of_lt hg.lt;obtain⟨hl,hnc,hm,h4⟩:=hT;rcases h4 with ⟨rfl,rfl,rfl⟩|⟨x,rfl,hx⟩
 ·obtain rfl:l=[]:=List.eq_nil_of_length_eq_zero hl;refine⟨_,_,w,run_append_owned_none (P:=Tryz.prog) (w:=w) g t ty 5 i0 1 ht hi _ 0 [] hown,qd0 (l:=[]) hown,⟨rfl,rfl,rfl,Nat.le_refl _,fun _ _ _=>rfl⟩⟩
 ·obtain⟨v',w',hr,h2,h3,_,_⟩:=run_append_own_at (P:=Tryz.prog) w g t ty 5 i0 (.int .u8 0) 1 1 ht hi hz0 hz1 hz2 rfl (by decide) _ 0 [] hown x n cap (u8s l) (by simp[qf1,hl]) hx.cells (qyA l) (by unfold maxLen;omega) (by omega) hBw;rw[Nat.zero_add,List.nil_append] at h2;obtain⟨a',c',rfl⟩:=qbN h2;exact⟨a',c',w',hr,qd0 h2,h3⟩
theorem qjC {w:World} {ops:Array Oper} {rest:List Oper} {o:Oper} {a:Act} {Q:Exit→Act→World→Prop} (hgd:o.guard=none) (s x:Operand) (t:TypeId) (ho:o.op=.call { callee:=.builtin .append,args:=#[s,x],argTypes:=#[t,t] })
  (ht:Tryz.prog.underlying t=some (.slice 5)) (g:Nat) (hg:Bx w g 5 []) (hs:a.eval s=.slice (some ⟨g,0,none⟩) 0 0) (b:Option Addr) (n cap:Nat) (l:List UInt8) (hx:a.eval x=.slice b n cap) (hT:Txt w b n cap l) (hr:n≤140737488351232)
  (h:∀ a' c' w',Txt w' a' n c' l→w.grownBy w' (some g)→wpList Tryz.prog ops Q rest (a.put o.dst (.slice a' n c')) w'):wpList Tryz.prog ops Q (o :: rest) a w :=
 wpList_plain hgd fun _ hK=>by
  obtain⟨a',c',w',hr,h2,h3⟩:=qmP w t o.type ht g hg b n cap l hT hr;unfold Oper.wp execOp;simp only[ho,resolve,invoke,builtin,Sem.run_bind,Sem.run_pure,Result.andThen_ok,List.map_toArray,List.map_cons,List.map_nil,hs,hx,hr];exact hK _ _ (h a' c' w' h2 h3)
theorem q7K {X:ProgE} {y:KindE} {c:ChordE} (hok:okP9 X) (hy:y ∈ X.kinds) (hc:c ∈ y.chords):(wC c).length≤(wP X).length:=by
 have h1:=qy5 hy hc;rw[qtY ((hok.kd y hy).ch c hc).one,qo9 hok,List.length_append];omega
theorem qoQ (a:Option Addr) (n cap:Nat) (l:List UInt8) (w:World) (hE:Env9 w) (ht:Txt w a n cap l) (hr:n≤140737488351232) :
  Calls Tryz.prog 8 #[.slice a n cap] w (qaT w):=by
 have hG:qq3 w:=hE.glob.1;have HT:=hid ht;have HE:=hid hE;have hln:l.length=n:=ht.1;obtain⟨R,hR⟩:∃ R,R=qgO l n:=⟨_,rfl⟩
 have HR:=hid hR;obtain⟨X,pl,fl⟩:=R;have HP:=hid (fun a' c' w2 (hT2:Txt w2 a' n c' l) (hb:Below w.heap.size w w2)=>by
  have h1:=qjL a' n c' l w2 hT2 (hG.below hb (Nat.le_refl _)) (hE.next hb).tab (hE.next hb).gp;unfold qiA at h1;rw[← hR] at h1;exact h1)
 simp only at HP;clear ht hE hG hR;unfold qaT;go_enter Tryz.func8,Tryz.ntmps8;go_upto_region 3 with (go_at_call 26;refine(qyC w HE.out).mono ?_;rintro e w1 ⟨rfl,hb1⟩;have HB1:=hid hb1;clear hb1);have hxA:Bx (w1.alloc (.cells #[] 5)) w1.heap.size 5 []:=Bx.new w1 _ [];have hbA:Below w.heap.size w (w1.alloc (.cells #[] 5)):=HB1.out.trans (((Below.refl _ w1).alloc (Nat.le_refl _) _).mono HB1.out.size);have HXA:=hid hxA;have HTA:=hid (HT.out.below hbA (Nat.le_refl _));clear hxA hbA;go_upto_region 4 with (first
  | (go_at_call 11;(with_reducible refine(HP.out _ _ w2 HT2.out HB2.out).mono ?_);rintro e w3 ⟨tv,kv,rfl,hit,hb⟩;obtain⟨⟨u1a,m1a,k1a,rfl⟩,⟨u1b,m1b,k1b,rfl⟩⟩:=qgV hit;have HI3:=hid (qfT hit);have HB3:=hid (HB2.out.trans (hb.mono HB2.out.size));clear hit hb)
  | (at_builtin;refine qjC rfl (.tmp 23) (.tmp 24) 22 rfl Tryz.underlying22 w1.heap.size HXA.out rfl a n cap l rfl HTA.out hr ?_;intro a2 c2 w2 hT2 hg2;have HT2:=hid hT2;have HB2:=hid (HB1.out.trans ((qfD hg2).mono HB1.out.size));clear hT2 hg2))
 obtain⟨W3,hW3⟩:∃ W3,W3=w3.alloc (.cells #[.slice u1a m1a k1a,.slice u1b m1b k1b] 26):=⟨_,rfl⟩
 have hb3:Below w3.heap.size w3 W3:=by rw[hW3];exact(Below.refl _ w3).alloc (Nat.le_refl _) _
 have HX3:=hid (show Bx W3 w3.heap.size 26 [.slice u1a m1a k1a,.slice u1b m1b k1b] by rw[hW3];exact Bx.new w3 _ _);have HH3:=hid (HI3.out.keep qhM hb3 (Nat.le_refl _));have HBW:Hid (Below w.heap.size w W3):=hid (HB3.out.trans (hb3.mono HB3.out.size));rw[← hW3];generalize w3.heap.size=E3 at HX3 ⊢;clear hW3 hb3 HI3 HB3 HB2 HT2 HTA HXA HB1 HP HT;by_cases hfl:fl=0
 ·subst hfl;have hok:=qnC HR.out.symm;have hfw:=q0J HR.out.symm;have hlong:=qnB HR.out.symm;rw[← qo9 hok] at hlong;have HP3:=hid (qqW X (q0X hok) hfw _ W3 HH3.out);unfold qh5 at HP3;have HOK:=hid hok;have HFW:=hid hfw;clear hok hfw;have x0:=HX3.out.c 0 rfl;have x1:=HX3.out.c 1 rfl;go_upto_region 7 with (first
   | (go_at_call 27;(with_reducible refine(qjJ w4 X _ HH4.out HOK.out (HE.out.next HB4.out)).mono ?_);rintro e w5 ⟨rfl,hb⟩;have HB5:=hid (HB4.out.trans (hb.mono HB4.out.size));have HB35:=hid (HB34.out.trans (hb.mono HB34.out.size));clear hb)
   | (go_at_call 28;(with_reducible refine HP3.out.mono ?_);rintro e w4 ⟨cv,rfl,hit,hb⟩;have HH4:=hid (qfT hit);have HB34:=hid hb;have HB4:=hid (HBW.out.trans (hb.mono HBW.out.size));clear hit hb))
  rotate_left
  ·have h16:2048<n:=by omega
   have d:decide ((2048:Int)<(n:Int))=true:=decide_eq_true (by omega);go_wp2;go_ret;exact⟨rfl,HB5.out⟩
  have HPQ:Hid (qgO (wP X) (⟨(wP X).toArray⟩:ByteArray).size=(X,0,0)):=hid (qqX HOK.out h _);have hsd:(⟨(wP X).toArray⟩:ByteArray).data.toList=wP X:=by simp
  have hsz:(⟨(wP X).toArray⟩:ByteArray).size≤32768:=h;have HPR:=hid (fun W (c:List Value) (hH:qd7 qfR W c X) (hE:Env9 W)=>by
   have h1:=qjJ W X c hH HOK.out hE;unfold qmJ at h1;rw[if_pos h] at h1;exact h1)
  generalize (⟨(wP X).toArray⟩:ByteArray)=sx at *
  have HSD:=hid hsd;obtain⟨c6,w6,hcv,hT6,hb6⟩:=qn2 sx w5 (by unfold maxLen;omega);have HT6:=hid hT6;have HB56:Hid (Below w.heap.size w w6):=hid (HB5.out.trans (hb6.mono HB5.out.size));have HB36:Hid (Below W3.heap.size W3 w6):=hid (HB35.out.trans (hb6.mono HB35.out.size));have hp6:=qjL (some ⟨w5.heap.size,0,none⟩) sx.size c6 sx.data.toList w6 hT6 (HE.out.next HB56.out).glob.1 (HE.out.next HB56.out).tab (HE.out.next HB56.out).gp;unfold qiA at hp6;rw[hsd,HPQ.out] at hp6;simp only at hp6;have HP6:=hid hp6;clear hT6 hb6 hp6 hsd h HPQ;go_upto_region 10 with (go_at_call 11;(with_reducible refine HP6.out.mono ?_);rintro e w7 ⟨tv,kv,rfl,hit,hb⟩;obtain⟨⟨u2a,m2a,k2a,rfl⟩,⟨u2b,m2b,k2b,rfl⟩⟩:=qgV hit;have HI7:=hid (qfT hit);have HB7:=hid (HB56.out.trans (hb.mono HB56.out.size));have HB37:=hid (HB36.out.trans (hb.mono HB36.out.size));clear hit hb);obtain⟨W7,hW7⟩:∃ W7,W7=w7.alloc (.cells #[.slice u2a m2a k2a,.slice u2b m2b k2b] 26):=⟨_,rfl⟩
  have hb7:Below w7.heap.size w7 W7:=by rw[hW7];exact(Below.refl _ w7).alloc (Nat.le_refl _) _
  have HX7:=hid (show Bx W7 w7.heap.size 26 [.slice u2a m2a k2a,.slice u2b m2b k2b] by rw[hW7];exact Bx.new w7 _ _);have HH7:=hid (HI7.out.keep qhM hb7 (Nat.le_refl _));have HBW7:Hid (Below w.heap.size w W7):=hid (HB7.out.trans (hb7.mono HB7.out.size));have HBW37:Hid (Below W3.heap.size W3 W7):=hid (HB37.out.trans (hb7.mono HB37.out.size));rw[← hW7];generalize w7.heap.size=E7 at HX7 ⊢;clear hW7 hb7 HI7 HB7 HB37 HT6 HP6 HB56 HB36 HB5 HB35 HH4 HB34 HB4 HP3 hcv;have y0:=HX7.out.c 0 rfl;have y1:=HX7.out.c 1 rfl;go_upto_region 11 with (go_at_call 27;(with_reducible refine(HPR.out W7 _ HH7.out (HE.out.next HBW7.out)).mono ?_);rintro e w8 ⟨rfl,hb⟩;have HB8:=hid (HBW7.out.trans (hb.mono HBW7.out.size));have HB38:=hid (HBW37.out.trans (hb.mono HBW37.out.size));have HB78:=hid hb;clear hb);have hx8:=HX3.out.keep HB38.out HX3.out.lt;have hy8:=HX7.out.keep HB78.out HX7.out.lt;have HX8:=hid hx8;have HPG:=hid (qq6 (q0X HOK.out) (HH3.out.keep qhM HB38.out (Nat.le_refl _)) (HH7.out.keep qhM HB78.out (Nat.le_refl _)));unfold qaT at HPG;have z0:=hx8.c 0 rfl;have z1:=hx8.c 1 rfl;have z2:=hy8.c 0 rfl;have z3:=hy8.c 1 rfl;clear x0 x1 y0 y1 hx8 hy8;go_upto_region 13 with (go_at_call 15;(with_reducible refine HPG.out.mono ?_);rintro e w9 ⟨rfl,hb⟩;have HB9:=hid (HB8.out.trans (hb.mono HB8.out.size));have HB39:=hid (HB38.out.trans (hb.mono HB38.out.size));clear hb);have hx9:=HX3.out.keep HB39.out HX3.out.lt;have hh9:=HH3.out.keep qhM HB39.out (Nat.le_refl _);obtain⟨at9,pt9,ak9,pk9,hcs,_,hkl⟩:=qdZ hh9;simp only[List.cons.injEq,Value.slice.injEq,and_true] at hcs;obtain⟨⟨rfl,rfl,rfl⟩,rfl,rfl,rfl⟩:=hcs;have HX9:=hid hx9;have HKL:=hid hkl;have hwp9:(wP X).length≤32768:=by
   have hsx:sx.size=(wP X).length:=by rw[← HSD.out];exact Array.length_toList.symm
   omega
  generalize hNT:X.tags.length=NT at *
  generalize hNK:X.kinds.length=NK at *
  have hNK9:NK≤900000:=by rw[← hNK];exact HFW.out.2.2.1
  have HNK:=hid hNK;clear z0 z1 z2 z3 hx9 hh9 hkl HPG HX7 HX8 HX3 HH3 HH7 HB8 HB38 HB78 HBW7 HBW37 HPR HR HBW HB39;go_wp2
  go_loopw [13] (fun i wr=>∃ (j:Nat),i=.int .i64 j∧j≤NK∧Hid (Below w9.heap.size w9 wr)) (fun i _=>NK-(intOf i).toNat)
  case atStart=>exact⟨0,rfl,Nat.zero_le _,hid (Below.refl _ _)⟩
  case round =>
   obtain⟨j,rfl,hj,HBR⟩:=hrel;have e1:=(HX9.out.keep HBR.out HX9.out.lt).c 1 rfl;rcases Nat.lt_or_ge j NK with hltj|hgej
   ·have hjl:j<X.kinds.length:=by rw[HNK.out];exact hltj
    obtain⟨y,hy0⟩:∃ y,X.kinds[j]?=some y:=⟨_,List.getElem?_eq_getElem hjl⟩
    have hym:=qbW hy0;obtain⟨g1,d1,rfl,hel,hcl⟩:=HKL.out.at qdY j y hy0;obtain⟨ay,py,rfl,hcs⟩:=qe0 hel;have HCL:=hid (hcl 1 _ rfl);have HCS:=hid hcs;have HYO:Hid (∀ c ∈ y.chords,okC8 c):=hid (HOK.out.kd y hym).ch;have HYF:Hid (∀ c ∈ y.chords,q52 900000 c):=hid (HFW.out.2.2.2 y hym).2;have HYL:Hid (∀ c ∈ y.chords,(wC c).length≤32768):=hid (fun c hc=>Nat.le_trans (q7K HOK.out hym hc) (by omega));have hNC9:y.chords.length≤900000:=(HFW.out.2.2.2 y hym).1;clear hel hcl hcs hy0 hjl hym;generalize hNC:y.chords.length=NC at *
    have HNC:=hid hNC;have HBQ:=HBR;go_wp2;clear e1;generalize wr=Wq at *
    go_loopw [14] (fun i wr=>∃ (m:Nat),i=.int .i64 m∧m≤NC∧Hid (Below w9.heap.size w9 wr)) (fun i _=>NC-(intOf i).toNat)
    case atStart=>exact⟨0,rfl,Nat.zero_le _,HBQ⟩
    case round =>
     clear HBQ;obtain⟨m,rfl,hm,HBR⟩:=hrel;have e1:=(HX9.out.keep HBR.out HX9.out.lt).c 1 rfl;have z1:wr.cell? ⟨g1,j * 2+1,none⟩=some (.slice ay NC py):=qaO HBR.out HCL.out;rcases Nat.lt_or_ge m NC with hltm|hgem
     ·have hml:m<y.chords.length:=by rw[HNC.out];exact hltm
      obtain⟨c,hc0⟩:∃ c,y.chords[m]?=some c:=⟨_,List.getElem?_eq_getElem hml⟩
      have hcm:=qbW hc0;obtain⟨g3,d4,rfl,hel,hcl⟩:=HCS.out.at qaM m c hc0;have hoc:=HYO.out c hcm;have hcl9:=HYL.out c hcm;have hcall:=qnX c (qv0 hoc) (HYF.out c hcm) d4 wr (hel.keep qaM HBR.out (Nat.le_refl _));have HHE:=hid hel;obtain⟨ca1,cp1,ca2,cm2,cp2,ca3,cp3,rfl,_,_,_⟩:=qb4 hel;have k0:=hcl 0 _ rfl;have k1:=hcl 1 _ rfl;have k2:=hcl 2 _ rfl;have k3:=hcl 3 _ rfl;have HK4:=hid (And.intro k0 (And.intro k1 (And.intro k2 k3)));have y0:wr.cell? ⟨g3,m * 4,none⟩=some (.string c.nm):=qaO HBR.out k0;have y1:wr.cell? ⟨g3,m * 4+1,none⟩=some (.slice ca1 c.parts.length cp1):=qaO HBR.out k1;have y2:wr.cell? ⟨g3,m * 4+2,none⟩=some (.slice ca2 cm2 cp2):=qaO HBR.out k2;have y3:wr.cell? ⟨g3,m * 4+3,none⟩=some (.slice ca3 c.body.length cp3):=qaO HBR.out k3;unfold qh5 at hcall;have HC:=hid hcall;have HOC:=hid hoc;have HPC:Hid (qh2 (wC c) (⟨(wC c).toArray⟩:ByteArray).size=(c,0,0)):=hid (qnV hoc hcl9 _);have hsd2:(⟨(wC c).toArray⟩:ByteArray).data.toList=wC c:=by simp
      have hsz2:(⟨(wC c).toArray⟩:ByteArray).size≤32768:=hcl9;have HPT:=hid (fun W (cs:List Value) (hH:qd7 qbB W cs c) (hE:Env9 W)=>by
       have h1:=qsT W c cs hH hoc hE;unfold qmJ at h1;rw[if_pos hcl9] at h1;exact h1)
      generalize (⟨(wC c).toArray⟩:ByteArray)=sc at *
      have HSD2:=hid hsd2;have HWW:Hid (Below w.heap.size w wr):=hid (HB9.out.trans (HBR.out.mono HB9.out.size));clear hel hcl hcall hc0 hml hcm hoc hcl9 k0 k1 k2 k3 hsd2;go_upto_region 20 with (first
       | (go_at_call 29;(with_reducible refine(HPT.out w4 _ HH4.out (HE.out.next HW4.out)).mono ?_);rintro e w5 ⟨rfl,hb⟩;have HB5:=hid (HB4.out.trans (hb.mono HB4.out.size));clear hb)
       | (go_at_call 30;(with_reducible refine HC.out.mono ?_);rintro e w4 ⟨cv,rfl,hit,hb⟩;have HH4:=hid (qfT hit);have HB4:=hid (HBR.out.trans (hb.mono HBR.out.size));have HW4:=hid (HWW.out.trans (hb.mono HWW.out.size));clear hit hb))
      obtain⟨c6b,w6b,hcv,hT6,hb6⟩:=qn2 sc w5 (by unfold maxLen;omega);have HB6:Hid (Below w9.heap.size w9 w6b):=hid (HB5.out.trans (hb6.mono HB5.out.size));have HW6:Hid (Below w.heap.size w w6b):=hid (HB9.out.trans (HB6.out.mono HB9.out.size));have hp6:=qnK (some ⟨w5.heap.size,0,none⟩) sc.size c6b sc.data.toList w6b hT6 (HE.out.next HW6.out).glob.1 (HE.out.next HW6.out).tab (HE.out.next HW6.out).gp;unfold qk2 at hp6;rw[HSD2.out,HPC.out] at hp6;simp only at hp6;have HP6:=hid hp6;clear hT6 hb6 hp6 HPC HPT HC HH4 HB4 HW4 y0 y1 y2 y3 e1 z1;go_upto_region 21 with (go_at_call 17;(with_reducible refine HP6.out.mono ?_);rintro e w7b ⟨pv,gv,bv,rfl,hit,hb⟩;obtain⟨b1,q1,b2,r2,q2,b3,q3,hcv2,_⟩:=qb4 (qfT hit);simp only[List.cons.injEq,true_and,and_true] at hcv2;obtain⟨rfl,rfl,rfl⟩:=hcv2;have HI7:=hid (qfT hit);have HB7:=hid (HB6.out.trans (hb.mono HB6.out.size));clear hit hb);obtain⟨W7b,hW7⟩:∃ W7b,W7b=w7b.alloc (.cells #[.string c.nm,.slice b1 c.parts.length q1,.slice b2 r2 q2,.slice b3 c.body.length q3] 44):=⟨_,rfl⟩
      have hb7:Below w7b.heap.size w7b W7b:=by rw[hW7];exact(Below.refl _ w7b).alloc (Nat.le_refl _) _
      have HX7:=hid (show Bx W7b w7b.heap.size 44 [.string c.nm,.slice b1 c.parts.length q1,.slice b2 r2 q2,.slice b3 c.body.length q3] by rw[hW7];exact Bx.new w7b _ _);have HH7:=hid (HI7.out.keep qaM hb7 (Nat.le_refl _));have HB8:Hid (Below w9.heap.size w9 W7b):=hid (HB7.out.trans (hb7.mono HB7.out.size));rw[← hW7];generalize w7b.heap.size=E8 at HX7 ⊢;clear hW7 hb7 HI7 HB7 HP6 hcv;have hbD:=HB8.out.trans ((qa0 W7b).mono HB8.out.size);have HCS2:=hid (qwI (w:=W7b.drew) (qv0 HOC.out) (HH7.out.keep qaM (qa0 W7b) (Nat.le_refl _)) (HHE.out.keep qaM hbD (Nat.le_refl _)));unfold qaT at HCS2;have HBD:=hid hbD;have x0:=HX7.out.c 0 rfl;have x1:=HX7.out.c 1 rfl;have x2:=HX7.out.c 2 rfl;have x3:=HX7.out.c 3 rfl;have e1:=(HX9.out.keep HB8.out HX9.out.lt).c 1 rfl;have z1:W7b.cell? ⟨g1,j * 2+1,none⟩=some (.slice (some ⟨g3,0,none⟩) NC py):=qaO HB8.out HCL.out;have y0:W7b.cell? ⟨g3,m * 4,none⟩=some (.string c.nm):=qaO HB8.out HK4.out.1;have y1:W7b.cell? ⟨g3,m * 4+1,none⟩=some (.slice ca1 c.parts.length cp1):=qaO HB8.out HK4.out.2.1;have y2:W7b.cell? ⟨g3,m * 4+2,none⟩=some (.slice ca2 cm2 cp2):=qaO HB8.out HK4.out.2.2.1;have y3:W7b.cell? ⟨g3,m * 4+3,none⟩=some (.slice ca3 c.body.length cp3):=qaO HB8.out HK4.out.2.2.2;clear hbD;have HKK:Hid (∀ W,Below W7b.heap.size W7b W→W.cell? ⟨E8,0,none⟩=some (.string c.nm)∧W.cell? ⟨E8,1,none⟩=some (.slice b1 c.parts.length q1)∧W.cell? ⟨E8,2,none⟩=some (.slice b2 r2 q2)∧W.cell? ⟨E8,3,none⟩=some (.slice b3 c.body.length q3)∧W.cell? ⟨E3,1,none⟩=some (.slice (some ⟨g1,0,none⟩) NK k1b)∧W.cell? ⟨g1,j * 2+1,none⟩=some (.slice (some ⟨g3,0,none⟩) NC py)∧W.cell? ⟨g3,m * 4,none⟩=some (.string c.nm)∧W.cell? ⟨g3,m * 4+1,none⟩=some (.slice ca1 c.parts.length cp1)∧W.cell? ⟨g3,m * 4+2,none⟩=some (.slice ca2 cm2 cp2)∧W.cell? ⟨g3,m * 4+3,none⟩=some (.slice ca3 c.body.length cp3)):=hid (fun W hW=>⟨qaO hW x0,qaO hW x1,qaO hW x2,qaO hW x3,qaO hW e1,qaO hW z1,qaO hW y0,qaO hW y1,qaO hW y2,qaO hW y3⟩);clear x0 x1 x2 x3 e1 z1 y0 y1 y2 y3
      go_region_held3 (fun W=>W.cell? ⟨E8,0,none⟩=some (.string c.nm)∧W.cell? ⟨E8,1,none⟩=some (.slice b1 c.parts.length q1)∧W.cell? ⟨E8,2,none⟩=some (.slice b2 r2 q2)∧W.cell? ⟨E8,3,none⟩=some (.slice b3 c.body.length q3)∧W.cell? ⟨E3,1,none⟩=some (.slice (some ⟨g1,0,none⟩) NK k1b)∧W.cell? ⟨g1,j * 2+1,none⟩=some (.slice (some ⟨g3,0,none⟩) NC py)∧W.cell? ⟨g3,m * 4,none⟩=some (.string c.nm)∧W.cell? ⟨g3,m * 4+1,none⟩=some (.slice ca1 c.parts.length cp1)∧W.cell? ⟨g3,m * 4+2,none⟩=some (.slice ca2 cm2 cp2)∧W.cell? ⟨g3,m * 4+3,none⟩=some (.slice ca3 c.body.length cp3))
       (first|exact HKK.out _ (qa0 W7b)|exact HKK.out _ HBE.out)
       (first
        | (go_at_call 18;(with_reducible refine HCS2.out.mono ?_);rintro e w8b ⟨rfl,hb⟩;have HB9b:=hid (HBD.out.trans (hb.mono HBD.out.size));have HBE:=hid ((qa0 W7b).trans hb);clear hb))
      all_goals
       rename_i hHeld;clear hHeld;go_wp2;go_roundw
       case rel=>exact⟨m+1,by go_num,by omega,HB9b⟩
       case measure=>simp[intOf];omega
     ·obtain rfl:m=NC:=by omega
      go_wp2;go_roundw
      case rel=>exact⟨j+1,by go_num,by omega,HBR⟩
      case measure=>simp[intOf];omega
   ·obtain rfl:j=NK:=by omega
    go_wp2;go_ret;exact⟨rfl,HB9.out.trans (HBR.out.mono HB9.out.size)⟩
 ·have d:=beq_eq_false_iff_ne.2 hfl;go_wp2;go_ret;exact⟨rfl,HBW.out⟩
end Go.Proofs.YtenlhcgpajphhaaGreatDoor
