import Derived.Test.YtenlhcgpajphhaaGreatDoorMPpProg
import Derived.Test.YtenlhcgpajphhaaGreatDoorMDpTag
import Derived.Test.YtenlhcgpajphhaaGreatDoorMPoLong
namespace Go.Proofs.YtenlhcgpajphhaaGreatDoor
open Go.RowKit Go.Shelf
set_option maxRecDepth 100000
open Lib(hid)
set_option linter.all false
set_option maxHeartbeats 16000000
def Gd (lo X:Nat) (w:World) (gv:Value) (g:Option Ex):Prop:=∃ F,exE w F [gv] g∧Good F lo w∧X ∉ F
theorem q2H {W3 W4 wr:World} {X lo:Nat} {nm:ByteArray} {pv gv bv:Value} {g:Option Ex} {ps:List PartE} {l:List ActE} {dp d:List Value} (hg:Gd lo X W3 gv g) (hp:Lst qdS 95 2 W3.heap.size W4 pv ps dp) (h34:Eff X W3 W4)
  (hb:Lst qgN 100 5 W4.heap.size wr bv l d) (h4:Eff X W4 wr) (hX:X<W3.heap.size) (hlo:lo≤W3.heap.size):Itm qbB lo wr [.string nm,pv,gv,bv] ⟨nm,ps,g,l⟩:=by
 obtain⟨F2,g1,g2,g3⟩:=hg;obtain⟨F1,p1,p2⟩:=hp;obtain⟨F3,b1,b2⟩:=hb;have s34:=h34.size;have s4:=h4.size;have k1:qg8 F1 W4 wr:=fun b hb=>by
  have:=p2.lies b hb;exact h4.2.2 b this.2 (by omega)
 have k2:qg8 F2 W3 wr:=fun b hb=>by
  have h1:=g2.lies b hb;have hne:b≠X:=fun e=>g3 (e ▸ hb);exact(h4.2.2 b (by omega) hne).trans (h34.2.2 b h1.2 hne)
 refine⟨F1++(F2++F3),⟨pv,gv,bv,dp,d,F1,F2,F3,rfl,rfl,p1.keep qbK k1,exK.keep g1 k2,b1⟩,List.nodup_append.2 ⟨p2.uniq,List.nodup_append.2 ⟨g2.uniq,b2.uniq,fun a ha b hb e=>?_⟩,fun a ha b hb e=>?_⟩,fun b hb=>?_⟩
 ·subst e;have:=g2.lies a ha;have:=b2.lies a hb;omega
 ·subst e;have:=p2.lies a ha;rcases List.mem_append.1 hb with hb|hb
  ·have:=g2.lies a hb;omega
  ·have:=b2.lies a hb;omega
 ·rcases List.mem_append.1 hb with hb|hb
  ·have:=p2.lies b hb;omega
  ·rcases List.mem_append.1 hb with hb|hb
   ·have:=g2.lies b hb;omega
   ·have:=b2.lies b hb;omega
theorem gd_a {w5:World} {lo lo':Nat} {gv:Value} {g:Option Ex} {o:Obj} (h:Itm exE lo w5 [gv] g) (hl:lo'≤lo):Gd lo' w5.heap.size (w5.alloc o) gv g:=by
 obtain⟨F,h1,h2⟩:=h;have hb:Below w5.heap.size w5 (w5.alloc o):=(Below.refl _ w5).alloc (Nat.le_refl _) _;exact⟨F,exK.keep h1 (fun b hb1=>hb.block b (h2.lies b hb1).2),h2.wide hl hb.size,fun hm=>by have:=h2.lies _ hm;omega⟩
theorem qrN {W:World} {g b i1 i2 i3 i4:Nat} {u1 u2 u3 u4:Value} (h:b≠g):((((W.setCell ⟨g,i1,none⟩ u1).setCell ⟨g,i2,none⟩ u2).setCell ⟨g,i3,none⟩ u3).setCell ⟨g,i4,none⟩ u4).heap[b]?=W.heap[b]? :=
 (Below.heap_setCell _ _ _ _ h).trans ((Below.heap_setCell _ _ _ _ h).trans ((Below.heap_setCell _ _ _ _ h).trans (Below.heap_setCell _ _ _ _ h)))
theorem gd_b {w5:World} {lo lo' X i1 i2 i3 i4:Nat} {u1 u2 u3 u4:Value} {gv:Value} {g:Option Ex} (h:Itm exE lo w5 [gv] g) (hX:X<lo) (hl:lo'≤lo):Gd lo' X ((((w5.setCell ⟨X,i1,none⟩ u1).setCell ⟨X,i2,none⟩ u2).setCell ⟨X,i3,none⟩ u3).setCell ⟨X,i4,none⟩ u4) gv g:=by
 obtain⟨F,h1,h2⟩:=h;exact⟨F,exK.keep h1 (fun b hb1=>qrN (by have:=h2.lies b hb1;omega)),h2.wide hl (by simp),fun hm=>by have:=h2.lies _ hm;omega⟩
theorem q2Z {lo:Nat} {w:World} {cv:List Value} {x:ActE} (h:Itm qgN lo w cv x):∃ ad m c ad' m' c',cv=[.int .i64 x.kd,.slice ad m c,.string x.nm,.string x.vr,.slice ad' m' c']:=by
 obtain⟨a,m,cp,a2,cp2,h1,_⟩:=qdO (qfT h);exact⟨_,_,_,_,_,_,h1⟩
theorem qsZ (xs:List ByteArray):∀ u ∈ xs.map Value.string,u.oneCell'=true:=by
 intro u hu;obtain⟨x,_,rfl⟩:=List.mem_map.1 hu;rfl
theorem qfD {w w2:World} {o:Obj} (h:(w.alloc o).grownBy w2 (some w.heap.size)):Below w.heap.size w w2 :=
 ⟨h.os,h.tape,h.output,Nat.le_trans (by simp) h.size,fun b hb=>(h.block b (by rw[World.size_alloc];omega) (by simp;omega)).trans (((Below.refl _ w).alloc (Nat.le_refl _) _).block b hb)⟩
theorem qy7 {w wr:World} {X:Nat} {nm:ByteArray} {pv gv bv:Value} {x:ChordE} (hi:Itm qbB X wr [.string nm,pv,gv,bv] x) (hX:w.heap.size+1<X) (hw:Below w.heap.size w wr) :
  qh5 qbB w x (.returned (.agg #[.string nm,pv,gv,bv])) ((((wr.setCell ⟨w.heap.size+1,0,none⟩ (.string nm)).setCell ⟨w.heap.size+1,1,none⟩ pv).setCell ⟨w.heap.size+1,2,none⟩ gv).setCell ⟨w.heap.size+1,3,none⟩ bv):=by
 have hl:w.heap.size≤w.heap.size+1:=Nat.le_succ _;refine⟨_,rfl,?_,(((hw.setCell hl _).setCell hl _).setCell hl _).setCell hl _⟩;obtain⟨F,h1,h2⟩:=hi;refine⟨F,qaM.keep h1 (fun b hb=>qrN (by have:=h2.lies b hb;omega)),h2.wide (by omega) (by simp)⟩
theorem qnX (x:ChordE) (hok:okC x) (hf:q52 900000 x) (c:List Value) (w:World) (h:qd7 qbB w c x):Calls Tryz.prog 30 #[.agg c.toArray] w (qh5 qbB w x):=by
 obtain⟨a1,p1,a2,m2,p2,a3,p3,rfl,hparts,hgd,hbody⟩:=qb4 h;obtain⟨nm,parts,guard,body⟩:=x;obtain⟨W0,hW0,ha,hb,hB,hsz⟩:=qm0 w 44 [.string nm,.slice a1 parts.length p1,.slice a2 m2 p2,.slice a3 body.length p3] [.string ⟨#[]⟩,.slice none 0 0,.slice none 0 0,.slice none 0 0];obtain⟨i0,hi,hz0,hz1,hz2⟩:=qaN q1R;obtain⟨j0,hj,hy0,hy1,hy2⟩:=qaN q1U;have HW0:=hid hW0;have HA:=hid ha;have HB:=hid hb;have HB0:=hid hB;have HSZ:=hid hsz;have HPL:=hid hparts;have HGN:=hid (fun W (hW:Below w.heap.size w W)=>qjO guard hok.1 (.slice a2 m2 p2) W (hgd.keep exK hW (Nat.le_refl _)));unfold qh5 at HGN;have HBL:=hid hbody;have HOK:Hid (∀ a ∈ body,okA a):=hid hok.2;have HFW:=hid hf;have HI:=hid (And.intro hi (And.intro hz0 (And.intro hz1 hz2)));have HJ:=hid (And.intro hj (And.intro hy0 (And.intro hy1 hy2)));have c0:=ha.c 0 rfl;have c2:=ha.c 2 rfl;clear hW0 ha hb hB hsz h hparts hgd hbody hok hf hi hz0 hz1 hz2 hj hy0 hy1 hy2;unfold qh5;go_enter Tryz.func30,Tryz.ntmps30;go_upto_region 1 with (fail);rw[← HW0.out]
 go_cut [3] (fun s3 wx=>∃ (X:Nat) (ag:Option Addr) (mg cg:Nat),s3=.pointer (some ⟨X,0,none⟩)∧Hid (w.heap.size+2≤X)∧Hid (Bx wx X 44 [.string nm,.slice none 0 0,.slice ag mg cg,.slice none 0 0])∧Hid (Gd (w.heap.size+2) X wx (.slice ag mg cg) guard)∧Hid (Below W0.heap.size W0 wx))
 case first =>
  have hbD:=qa0 W0;have hbA:Below W0.heap.size W0 (W0.drew.alloc (.cells #[.string ⟨#[]⟩,.slice none 0 0,.slice none 0 0,.slice none 0 0] 44)):=hbD.trans (((Below.refl _ W0.drew).alloc (Nat.le_refl _) _));have hxA:Bx (W0.drew.alloc (.cells #[.string ⟨#[]⟩,.slice none 0 0,.slice none 0 0,.slice none 0 0] 44)) W0.heap.size 44 [.string ⟨#[]⟩,.slice none 0 0,.slice none 0 0,.slice none 0 0]:=Bx.new W0.drew _ _;have HBD:Hid (Below w.heap.size w W0.drew):=hid (HB0.out.trans (hbD.mono HB0.out.size));have HBA:=hid (HB0.out.trans (hbA.mono HB0.out.size));have HKK:=hid (fun W (hW:Below W0.heap.size W0 W)=>And.intro (qaO hW c0) (qaO hW c2))
  go_region_held3 (fun W=>W.cell? ⟨w.heap.size,0,none⟩=some (.string nm)∧W.cell? ⟨w.heap.size,2,none⟩=some (.slice a2 m2 p2))
   (first|exact HKK.out _ hbD|exact HKK.out _ hbA|exact HKK.out _ hb5|exact HKK.out _ (hb5.trans (((Below.refl _ w5).alloc (Nat.le_refl _) _).mono hb5.size))|exact HKK.out _ ((((hb5.setCell (Nat.le_refl _) _).setCell (Nat.le_refl _) _).setCell (Nat.le_refl _) _).setCell (Nat.le_refl _) _)|go_keep)
   (first
    | (go_at_call 57;refine(HGN.out _ HBD.out).mono ?_;rintro e w5 ⟨cv,rfl,hit,hb5⟩;obtain⟨v5,rfl⟩:=qvP hit;obtain⟨ad5,m5,c5,rfl⟩:=qf0 hit;have HIT5:=hid hit;have HB5:=hid hb5;replace hb5:=hbD.trans hb5;clear hit)
    | (go_at_call 57;refine(HGN.out _ HBA.out).mono ?_;rintro e w5 ⟨cv,rfl,hit,hb5⟩;obtain⟨v5,rfl⟩:=qvP hit;obtain⟨ad5,m5,c5,rfl⟩:=qf0 hit;have HIT5:=hid hit;have HB5:=hid hb5;have hx5:=hxA.keep hb5 hxA.lt;have x0:=hx5.c 0 rfl;have x1:=hx5.c 1 rfl;have x2:=hx5.c 2 rfl;have x3:=hx5.c 3 rfl;have f0:=hx5.fz 0;have f1:=hx5.fz 1;have f2:=hx5.fz 2;have f3:=hx5.fz 3;replace hb5:=hbA.trans (hb5.mono hbA.size);clear hit))
  ·go_wp2_with fail;go_meet;exact⟨_,_,_,_,rfl,hid (by have:=hb5.size;have:=HSZ.out;omega),hid (Bx.new w5 _ _),hid (gd_a HIT5.out (by have:=HSZ.out;show w.heap.size+2≤W0.heap.size;omega)),hid (hb5.trans (((Below.refl _ w5).alloc (Nat.le_refl _) _).mono hb5.size))⟩
  ·go_wp2_with fail;go_meet;exact⟨_,_,_,_,rfl,hid (by have:=HSZ.out;show w.heap.size+2≤W0.heap.size;omega),hid (qi6 hx5),hid (gd_b HIT5.out (by rw[World.size_alloc];exact Nat.lt_succ_self _) (by have:=HSZ.out;rw[World.size_alloc];show w.heap.size+2≤W0.heap.size+1;omega)),hid ((((hb5.setCell (Nat.le_refl _) _).setCell (Nat.le_refl _) _).setCell (Nat.le_refl _) _).setCell (Nat.le_refl _) _)⟩
 case rest =>
  obtain⟨X,ag,mg,cg,rfl,HEX,HBX,HGD,HWC⟩:=hcut;have HA3:=hid (HA.out.keep HWC.out (by have:=HSZ.out;omega));have HR3:=hid (HB.out.keep HWC.out (by have:=HSZ.out;omega));have HW3:Hid (Below w.heap.size w wc):=hid (HB0.out.trans (HWC.out.mono HB0.out.size));have HC3:=hid (Cp.start (E:=qdS) (T:=95) (s:=2) HBX.out (Nat.zero_le _));have hEX:=HEX.out;clear HBX HWC HA HB HB0 HSZ HW0 HGN c0 c2 W0;generalize hNP:parts.length=NP at *
  generalize hNQ:body.length=NQ at *
  have hNP9:NP≤900000:=by have:=HFW.out.1;simp only at this;omega
  have hNQ9:NQ≤900000:=by have:=HFW.out.2.2.1;simp only at this;omega
  have HNP:=hid hNP;have HNQ:=hid hNQ;go_wp2
  go_loopw [4] (fun i wr=>∃ (k:Nat) (v:Value) (d:List Value),i=.int .i64 k∧k≤NP∧Hid (Cp qdS 95 2 wc X 44 wr [.string nm,v,.slice ag mg cg,.slice none 0 0] v (parts.take k) d)) (fun i _=>NP-(intOf i).toNat)
  case atStart=>exact⟨0,_,_,rfl,Nat.zero_le _,HC3⟩
  case round =>
   obtain⟨k,v,d,rfl,hk,HCP⟩:=hrel;obtain⟨ar,cr,hvr⟩:=HCP.out.form;subst hvr;have HWR:=hid (HCP.out.bel HW3.out (by omega));have ea:=HCP.out.other HA3.out (by omega);have b1:=HCP.out.box.c 1 rfl;have e1:=ea.c 1 rfl;rcases Nat.lt_or_ge k NP with hlt|hge
   ·have hkl:k<parts.length:=by rw[HNP.out];exact hlt
    obtain⟨y,hy0⟩:∃ y,parts[k]?=some y:=⟨_,List.getElem?_eq_getElem hkl⟩
    have HTK:Hid (parts.take (k+1)=parts.take k++[y]):=hid (qf8 hy0);have hlk:(parts.take k).length=k:=by rw[List.length_take];omega
    rw[hlk] at b1 HCP;obtain⟨g1,d1,rfl,hel,hcl⟩:=HPL.out.at qbK k y hy0;have HVL:Hid (y.vs.length≤900000):=hid (HFW.out.2.1 y (qbW hy0));obtain⟨ay,py,rfl,hvs⟩:=qeK hel;have HRW:=hid (q7Y (hvs.keep qlH (HWR.out.trans (((qa0 wr).trans ((Below.refl _ wr.drew).alloc (Nat.le_refl _) (.cells #[] 9))).mono HWR.out.size)) (Nat.le_refl _)));have HKK:Hid (∀ W,Eff X wc W→W.cell? ⟨w.heap.size,1,none⟩=some (.slice (some ⟨g1,0,none⟩) NP p1)∧W.cell? ⟨g1,k * 2,none⟩=some (.string y.tg)∧W.cell? ⟨g1,k * 2+1,none⟩=some (.slice ay y.vs.length py)):=hid (fun W hW=>by
     have hb:=HW3.out.trans (hW.1.mono (by omega));exact⟨(HA3.out.oth hW.2 (by omega)).c 1 rfl,qaO hb (hcl 0 _ rfl),qaO hb (hcl 1 _ rfl)⟩)
    have HXA:Hid (Bx (wr.drew.alloc (.cells #[] 9)) wr.heap.size 9 []):=hid (Bx.new wr.drew _ []);have HCD:=hid (HCP.out.next qbK (qa0 wr));have HCA:=hid (HCD.out.next qbK ((Below.refl _ wr.drew).alloc (Nat.le_refl _) (.cells #[] 9)));have bA:=HCA.out.box.c 1 rfl;have bA2:(wr.alloc (.cells #[] 9)).cell? ⟨X,1,none⟩=some (.slice ar k cr):=bA;have hbA:Below wr.drew.heap.size wr.drew (wr.drew.alloc (.cells #[] 9)):=(Below.refl _ wr.drew).alloc (Nat.le_refl _) _;have HBA:=hid hbA;have HLK:=hid hlk;obtain⟨s0,hs0,hs1,hs2,hs3⟩:=qaN jbC;have HS:=hid (And.intro hs0 (And.intro hs1 (And.intro hs2 hs3)));clear hs0 hs1 hs2 hs3 hel hcl hvs hy0 hkl hlk hbA HCP ea;go_upto_region 5 with (fail);refine wp_region_held_drew (S:=fun W=>W.cell? ⟨w.heap.size,1,none⟩=some (.slice (some ⟨g1,0,none⟩) NP p1)∧W.cell? ⟨g1,k * 2,none⟩=some (.string y.tg)∧W.cell? ⟨g1,k * 2+1,none⟩=some (.slice ay y.vs.length py)) (by kernel_rfl) (HKK.out _ HCD.out.eff) (fun hHeld=>?_);refine wpAnyH_take (i:=0) (v:=?_) rfl (by kernel_rfl) (by kernel_rfl) (by kernel_rfl) (fun _ _ _ h=>h) (Or.inl ⟨by rfl,?_⟩) (by assumption) ?_
    rotate_left
    ·intro w hSw;(try dsimp only at hSw);go_simp;(try with_reducible rfl)
    try simp only[Act.put,List.setIfInBounds_toArray,List.set_cons_zero,List.set_cons_succ]
    refine wpAnyH_take (i:=2) (v:=?_) rfl (by kernel_rfl) (by kernel_rfl) (by kernel_rfl) (fun _ _ _ h=>h) (Or.inl ⟨by rfl,?_⟩) (by assumption) ?_
    rotate_left
    ·intro w hSw;(try dsimp only at hSw);go_simp;(try with_reducible rfl)
    try simp only[Act.put,List.setIfInBounds_toArray,List.set_cons_zero,List.set_cons_succ]
    refine wpAnyH_take (i:=3) (v:=?_) rfl (by kernel_rfl) (by kernel_rfl) (by kernel_rfl) (fun _ _ _ h=>h) (Or.inl ⟨by rfl,?_⟩) (by assumption) ?_
    rotate_left
    ·intro w hSw;(try dsimp only at hSw);go_simp;(try with_reducible rfl)
    try simp only[Act.put,List.setIfInBounds_toArray,List.set_cons_zero,List.set_cons_succ]
    refine wpAnyH_take (i:=4) (v:=?_) rfl (by kernel_rfl) (by kernel_rfl) (by kernel_rfl) (fun _ _ _ h=>h) (Or.inl ⟨by rfl,?_⟩) (by assumption) ?_
    rotate_left
    ·intro w hSw;(try dsimp only at hSw);go_simp;(try with_reducible rfl)
    try simp only[Act.put,List.setIfInBounds_toArray,List.set_cons_zero,List.set_cons_succ]
    refine wpAnyH_take (i:=5) (v:=?_) rfl (by kernel_rfl) (by kernel_rfl) (by kernel_rfl) (fun _ _ _ h=>h) (Or.inl ⟨by rfl,?_⟩) (by assumption) ?_
    rotate_left
    ·intro w hSw;(try dsimp only at hSw);go_simp;(try with_reducible rfl)
    try simp only[Act.put,List.setIfInBounds_toArray,List.set_cons_zero,List.set_cons_succ]
    refine wpAnyH_take (i:=6) (v:=?_) rfl (by kernel_rfl) (by kernel_rfl) (by kernel_rfl) (fun _ _ _ h=>h) (Or.inl ⟨by rfl,?_⟩) (by assumption) ?_
    rotate_left
    ·intro w hSw;(try dsimp only at hSw);go_simp;(try with_reducible rfl)
    try simp only[Act.put,List.setIfInBounds_toArray,List.set_cons_zero,List.set_cons_succ]
    refine wpAnyH_take (i:=7) (v:=?_) rfl (by kernel_rfl) (by kernel_rfl) (by kernel_rfl) (fun _ _ _ h=>h) (Or.inl ⟨by rfl,?_⟩) (by assumption) ?_
    rotate_left
    ·intro w hSw;(try dsimp only at hSw);go_simp;(try with_reducible rfl)
    try simp only[Act.put,List.setIfInBounds_toArray,List.set_cons_zero,List.set_cons_succ]
    refine wpAnyH_take (i:=9) (v:=?_) rfl (by kernel_rfl) (by kernel_rfl) (by kernel_rfl) (fun _ _ _ h=>h) (Or.inl ⟨by rfl,?_⟩) (by assumption) ?_
    rotate_left
    ·intro w hSw;(try dsimp only at hSw);go_simp;(try with_reducible rfl)
    try simp only[Act.put,List.setIfInBounds_toArray,List.set_cons_zero,List.set_cons_succ]
    refine wpAnyH_take (i:=10) (v:=?_) rfl (by kernel_rfl) (by kernel_rfl) (by kernel_rfl) (fun _ _ _ h=>h) (Or.inl ⟨by rfl,?_⟩) (by assumption) ?_
    rotate_left
    ·intro w hSw;(try dsimp only at hSw);go_simp;(try with_reducible rfl)
    try simp only[Act.put,List.setIfInBounds_toArray,List.set_cons_zero,List.set_cons_succ]
    refine wpAnyH_take (i:=11) (v:=?_) rfl (by kernel_rfl) (by kernel_rfl) (by kernel_rfl) (fun _ _ _ h=>h) (Or.inl ⟨by rfl,?_⟩) (by assumption) ?_
    rotate_left
    ·intro w hSw;(try dsimp only at hSw);go_simp;(try with_reducible rfl)
    try simp only[Act.put,List.setIfInBounds_toArray,List.set_cons_zero,List.set_cons_succ]
    refine wpAnyH_take (i:=12) (v:=?_) rfl (by kernel_rfl) (by kernel_rfl) (by kernel_rfl) (fun _ _ _ h=>h) (Or.inl ⟨by rfl,?_⟩) (by assumption) ?_
    rotate_left
    ·intro w hSw;(try dsimp only at hSw);go_simp;(try with_reducible rfl)
    try simp only[Act.put,List.setIfInBounds_toArray,List.set_cons_zero,List.set_cons_succ]
    refine wpAnyH_take (i:=13) (v:=?_) rfl (by kernel_rfl) (by kernel_rfl) (by kernel_rfl) (fun _ _ _ h=>h) (Or.inl ⟨by rfl,?_⟩) (by assumption) ?_
    rotate_left
    ·intro w hSw;(try dsimp only at hSw);go_simp;(try with_reducible rfl)
    try simp only[Act.put,List.setIfInBounds_toArray,List.set_cons_zero,List.set_cons_succ]
    refine wpAnyH_take (i:=14) (v:=?_) rfl (by kernel_rfl) (by kernel_rfl) (by kernel_rfl) (fun _ _ _ h=>h) (Or.inl ⟨by rfl,?_⟩) (by assumption) ?_
    rotate_left
    ·intro w hSw;(try dsimp only at hSw);go_simp;(try with_reducible rfl)
    try simp only[Act.put,List.setIfInBounds_toArray,List.set_cons_zero,List.set_cons_succ]
    refine wpAnyH_ready (rs:=[1,8]) (by kernel_rfl) (by simp) ?_;refine AllReadyH.cons rfl (fun K hK=>?_) ?_
    ·go_simp;refine hK.out _ _ ?_ (fun hHeld=>?_)
     ·first|exact HKK.out _ HCD.out.eff|exact HKK.out _ HCA.out.eff|exact HKK.out _ HC2.out.eff|exact HKK.out _ HCB.out.eff|exact HKK.out _ H7a.out.eff|exact HKK.out _ H7.out.eff
     clear hK K
     try simp only[Act.put,List.setIfInBounds_toArray,List.set_cons_zero,List.set_cons_succ]
     refine wpAnyH_ready (rs:=[8]) (by kernel_rfl) (by simp) ?_;refine AllReadyH.cons rfl (fun K hK=>?_) ?_
     ·go_simp;refine hK.out _ _ ?_ (fun hHeld=>?_)
      ·first|exact HKK.out _ HCD.out.eff|exact HKK.out _ HCA.out.eff|exact HKK.out _ HC2.out.eff|exact HKK.out _ HCB.out.eff|exact HKK.out _ H7a.out.eff|exact HKK.out _ H7.out.eff
      clear hK K
      try simp only[Act.put,List.setIfInBounds_toArray,List.set_cons_zero,List.set_cons_succ]
      refine wpAnyH_ready (rs:=[15]) (by kernel_rfl) (by simp) ?_;refine AllReadyH.cons rfl (fun K hK=>?_) ?_
      ·(try simp only[Act.put,List.getElem_toArray,List.getElem_cons_succ,List.getElem_cons_zero,List.setIfInBounds_toArray,List.set_cons_succ,List.set_cons_zero]);refine qcD (a:=⟨_,_⟩) rfl (.tmp 27) (.tmp 33) 93 rfl wr.heap.size 9 s0 _ 1 16 Tryz.underlying93 HS.out.1 HS.out.2 rfl (by decide) wr.heap.size HXA.out (Nat.le_refl _) (by rfl) (.slice ay y.vs.length py) y.vs.length (y.vs.map Value.string) (by rfl) HRW.out (qsZ _) (by have:=HVL.out;omega) (by decide) ?_;intro v2 w2 ho2 hg2;obtain⟨a5,c5,rfl⟩:=qbN ho2;have hb2:Below wr.drew.heap.size wr.drew w2:=qfD hg2;have HB2:=hid hb2;have HIT5:Hid (Itm qdS wr.drew.heap.size w2 [.string y.tg,.slice a5 y.vs.length c5] y):=hid (ql0 (qhF (fun W=>qoG W _) ho2));have HC2:=hid (HCD.out.next qbK hb2);have HCB:=hid (HC2.out.next qbK ((Below.refl _ w2).alloc (Nat.le_refl _) (.cells [.string y.tg,.slice a5 y.vs.length c5].toArray 95)));have b2:=HC2.out.box.c 1 rfl;have b3:=HCB.out.box.c 1 rfl;clear ho2 hg2 hb2
       refine hK.out _ _ ?_ (fun hHeld=>?_)
       ·first|exact HKK.out _ HCD.out.eff|exact HKK.out _ HCA.out.eff|exact HKK.out _ HC2.out.eff|exact HKK.out _ HCB.out.eff|exact HKK.out _ H7a.out.eff|exact HKK.out _ H7.out.eff
       clear hK K
       try simp only[Act.put,List.setIfInBounds_toArray,List.set_cons_zero,List.set_cons_succ]
       refine wpAnyH_take (i:=16) (v:=?_) rfl (by kernel_rfl) (by kernel_rfl) (by kernel_rfl) (fun _ _ _ h=>h) (Or.inl ⟨by rfl,?_⟩) (by assumption) ?_
       rotate_left
       ·intro w hSw;(try dsimp only at hSw);go_simp;(try with_reducible rfl)
       try simp only[Act.put,List.setIfInBounds_toArray,List.set_cons_zero,List.set_cons_succ]
       refine wpAnyH_ready (rs:=[17]) (by kernel_rfl) (by simp) ?_;refine AllReadyH.cons rfl (fun K hK=>?_) ?_
       ·go_simp;refine hK.out _ _ ?_ (fun hHeld=>?_)
        ·first|exact HKK.out _ HCD.out.eff|exact HKK.out _ HCA.out.eff|exact HKK.out _ HC2.out.eff|exact HKK.out _ HCB.out.eff|exact HKK.out _ H7a.out.eff|exact HKK.out _ H7.out.eff
        clear hK K
        try simp only[Act.put,List.setIfInBounds_toArray,List.set_cons_zero,List.set_cons_succ]
        refine wpAnyH_ready (rs:=[18]) (by kernel_rfl) (by simp) ?_;refine AllReadyH.cons rfl (fun K hK=>?_) ?_
        ·(try simp only[Act.put,List.getElem_toArray,List.getElem_cons_succ,List.getElem_cons_zero,List.setIfInBounds_toArray,List.set_cons_succ,List.set_cons_zero]);refine qaL (a:=⟨_,_⟩) (w5:=w2) rfl (.tmp 20) (.tmp 36) 38 rfl qbK HCD.out k HLK.out.symm i0 _ 40 Tryz.underlying38 HI.out.1 HI.out.2 rfl (by decide) y [.string y.tg,.slice a5 y.vs.length c5] HB2.out HIT5.out 95 rfl (by rfl) 1 (by rfl) (by have:=HFW.out.1;simp only at this;omega) (by decide) ?_;intro g7 p7 w7 h7;have H7a:=hid h7;have d7:=h7.box.c 1 rfl;have z7:=h7.box.fz 1;have H7:=hid (h7.put qbK 1 (.slice (some ⟨g7,0,none⟩) (k+1) p7));clear h7
         refine hK.out _ _ ?_ (fun hHeld=>?_)
         ·first|exact HKK.out _ HCD.out.eff|exact HKK.out _ HCA.out.eff|exact HKK.out _ HC2.out.eff|exact HKK.out _ HCB.out.eff|exact HKK.out _ H7a.out.eff|exact HKK.out _ H7.out.eff
         clear hK K
         try simp only[Act.put,List.setIfInBounds_toArray,List.set_cons_zero,List.set_cons_succ]
         refine wpAnyH_take (i:=19) (v:=?_) rfl (by kernel_rfl) (by kernel_rfl) (by kernel_rfl) (fun _ _ _ h=>h) (Or.inl ⟨by rfl,?_⟩) (by assumption) ?_
         rotate_left
         ·intro w hSw;(try dsimp only at hSw);go_simp;(try with_reducible rfl)
         try simp only[Act.put,List.setIfInBounds_toArray,List.set_cons_zero,List.set_cons_succ]
         refine wpAnyH_ready (rs:=[20]) (by kernel_rfl) (by simp) ?_;refine AllReadyH.cons rfl (fun K hK=>?_) ?_
         ·go_simp;refine hK.out _ _ ?_ (fun hHeld=>?_)
          ·first|exact HKK.out _ HCD.out.eff|exact HKK.out _ HCA.out.eff|exact HKK.out _ HC2.out.eff|exact HKK.out _ HCB.out.eff|exact HKK.out _ H7a.out.eff|exact HKK.out _ H7.out.eff
          clear hK K
          try simp only[Act.put,List.setIfInBounds_toArray,List.set_cons_zero,List.set_cons_succ]
          refine wpAnyH_done (by kernel_rfl) ?_ _;rw[← HTK.out] at H7;generalize w7.setCell ⟨X,1,none⟩ (.slice (some ⟨g7,0,none⟩) (k+1) p7)=w8 at *
          clear d7 z7 b2 b3 bA bA2 b1 e1 HIT5 HB2 HC2 HCB H7a HCD HCA HBA HKK HRW HXA;go_wp2;go_roundw
          case rel=>exact⟨k+1,_,_,by go_num,by omega,H7⟩
          case measure=>simp[intOf];omega
         exact AllReadyH.nil
        exact AllReadyH.nil
       exact AllReadyH.nil
      exact AllReadyH.nil
     exact AllReadyH.nil
    refine AllReadyH.cons rfl (fun K hK=>?_) ?_
    ·go_simp;refine hK.out _ _ ?_ (fun hHeld=>?_)
     ·first|exact HKK.out _ HCD.out.eff|exact HKK.out _ HCA.out.eff|exact HKK.out _ HC2.out.eff|exact HKK.out _ HCB.out.eff|exact HKK.out _ H7a.out.eff|exact HKK.out _ H7.out.eff
     clear hK K
     try simp only[Act.put,List.setIfInBounds_toArray,List.set_cons_zero,List.set_cons_succ]
     refine wpAnyH_ready (rs:=[1,15]) (by kernel_rfl) (by simp) ?_;refine AllReadyH.cons rfl (fun K hK=>?_) ?_
     ·go_simp;refine hK.out _ _ ?_ (fun hHeld=>?_)
      ·first|exact HKK.out _ HCD.out.eff|exact HKK.out _ HCA.out.eff|exact HKK.out _ HC2.out.eff|exact HKK.out _ HCB.out.eff|exact HKK.out _ H7a.out.eff|exact HKK.out _ H7.out.eff
      clear hK K
      try simp only[Act.put,List.setIfInBounds_toArray,List.set_cons_zero,List.set_cons_succ]
      refine wpAnyH_ready (rs:=[15]) (by kernel_rfl) (by simp) ?_;refine AllReadyH.cons rfl (fun K hK=>?_) ?_
      ·(try simp only[Act.put,List.getElem_toArray,List.getElem_cons_succ,List.getElem_cons_zero,List.setIfInBounds_toArray,List.set_cons_succ,List.set_cons_zero]);refine qcD (a:=⟨_,_⟩) rfl (.tmp 27) (.tmp 33) 93 rfl wr.heap.size 9 s0 _ 1 16 Tryz.underlying93 HS.out.1 HS.out.2 rfl (by decide) wr.heap.size HXA.out (Nat.le_refl _) (by rfl) (.slice ay y.vs.length py) y.vs.length (y.vs.map Value.string) (by rfl) HRW.out (qsZ _) (by have:=HVL.out;omega) (by decide) ?_;intro v2 w2 ho2 hg2;obtain⟨a5,c5,rfl⟩:=qbN ho2;have hb2:Below wr.drew.heap.size wr.drew w2:=qfD hg2;have HB2:=hid hb2;have HIT5:Hid (Itm qdS wr.drew.heap.size w2 [.string y.tg,.slice a5 y.vs.length c5] y):=hid (ql0 (qhF (fun W=>qoG W _) ho2));have HC2:=hid (HCD.out.next qbK hb2);have HCB:=hid (HC2.out.next qbK ((Below.refl _ w2).alloc (Nat.le_refl _) (.cells [.string y.tg,.slice a5 y.vs.length c5].toArray 95)));have b2:=HC2.out.box.c 1 rfl;have b3:=HCB.out.box.c 1 rfl;clear ho2 hg2 hb2
       refine hK.out _ _ ?_ (fun hHeld=>?_)
       ·first|exact HKK.out _ HCD.out.eff|exact HKK.out _ HCA.out.eff|exact HKK.out _ HC2.out.eff|exact HKK.out _ HCB.out.eff|exact HKK.out _ H7a.out.eff|exact HKK.out _ H7.out.eff
       clear hK K
       try simp only[Act.put,List.setIfInBounds_toArray,List.set_cons_zero,List.set_cons_succ]
       refine wpAnyH_take (i:=16) (v:=?_) rfl (by kernel_rfl) (by kernel_rfl) (by kernel_rfl) (fun _ _ _ h=>h) (Or.inl ⟨by rfl,?_⟩) (by assumption) ?_
       rotate_left
       ·intro w hSw;(try dsimp only at hSw);go_simp;(try with_reducible rfl)
       try simp only[Act.put,List.setIfInBounds_toArray,List.set_cons_zero,List.set_cons_succ]
       refine wpAnyH_ready (rs:=[17]) (by kernel_rfl) (by simp) ?_;refine AllReadyH.cons rfl (fun K hK=>?_) ?_
       ·go_simp;refine hK.out _ _ ?_ (fun hHeld=>?_)
        ·first|exact HKK.out _ HCD.out.eff|exact HKK.out _ HCA.out.eff|exact HKK.out _ HC2.out.eff|exact HKK.out _ HCB.out.eff|exact HKK.out _ H7a.out.eff|exact HKK.out _ H7.out.eff
        clear hK K
        try simp only[Act.put,List.setIfInBounds_toArray,List.set_cons_zero,List.set_cons_succ]
        refine wpAnyH_ready (rs:=[18]) (by kernel_rfl) (by simp) ?_;refine AllReadyH.cons rfl (fun K hK=>?_) ?_
        ·(try simp only[Act.put,List.getElem_toArray,List.getElem_cons_succ,List.getElem_cons_zero,List.setIfInBounds_toArray,List.set_cons_succ,List.set_cons_zero]);refine qaL (a:=⟨_,_⟩) (w5:=w2) rfl (.tmp 20) (.tmp 36) 38 rfl qbK HCD.out k HLK.out.symm i0 _ 40 Tryz.underlying38 HI.out.1 HI.out.2 rfl (by decide) y [.string y.tg,.slice a5 y.vs.length c5] HB2.out HIT5.out 95 rfl (by rfl) 1 (by rfl) (by have:=HFW.out.1;simp only at this;omega) (by decide) ?_;intro g7 p7 w7 h7;have H7a:=hid h7;have d7:=h7.box.c 1 rfl;have z7:=h7.box.fz 1;have H7:=hid (h7.put qbK 1 (.slice (some ⟨g7,0,none⟩) (k+1) p7));clear h7
         refine hK.out _ _ ?_ (fun hHeld=>?_)
         ·first|exact HKK.out _ HCD.out.eff|exact HKK.out _ HCA.out.eff|exact HKK.out _ HC2.out.eff|exact HKK.out _ HCB.out.eff|exact HKK.out _ H7a.out.eff|exact HKK.out _ H7.out.eff
         clear hK K
         try simp only[Act.put,List.setIfInBounds_toArray,List.set_cons_zero,List.set_cons_succ]
         refine wpAnyH_take (i:=19) (v:=?_) rfl (by kernel_rfl) (by kernel_rfl) (by kernel_rfl) (fun _ _ _ h=>h) (Or.inl ⟨by rfl,?_⟩) (by assumption) ?_
         rotate_left
         ·intro w hSw;(try dsimp only at hSw);go_simp;(try with_reducible rfl)
         try simp only[Act.put,List.setIfInBounds_toArray,List.set_cons_zero,List.set_cons_succ]
         refine wpAnyH_ready (rs:=[20]) (by kernel_rfl) (by simp) ?_;refine AllReadyH.cons rfl (fun K hK=>?_) ?_
         ·go_simp;refine hK.out _ _ ?_ (fun hHeld=>?_)
          ·first|exact HKK.out _ HCD.out.eff|exact HKK.out _ HCA.out.eff|exact HKK.out _ HC2.out.eff|exact HKK.out _ HCB.out.eff|exact HKK.out _ H7a.out.eff|exact HKK.out _ H7.out.eff
          clear hK K
          try simp only[Act.put,List.setIfInBounds_toArray,List.set_cons_zero,List.set_cons_succ]
          refine wpAnyH_done (by kernel_rfl) ?_ _;rw[← HTK.out] at H7;generalize w7.setCell ⟨X,1,none⟩ (.slice (some ⟨g7,0,none⟩) (k+1) p7)=w8 at *
          clear d7 z7 b2 b3 bA bA2 b1 e1 HIT5 HB2 HC2 HCB H7a HCD HCA HBA HKK HRW HXA;go_wp2;go_roundw
          case rel=>exact⟨k+1,_,_,by go_num,by omega,H7⟩
          case measure=>simp[intOf];omega
         exact AllReadyH.nil
        exact AllReadyH.nil
       exact AllReadyH.nil
      exact AllReadyH.nil
     refine AllReadyH.cons rfl (fun K hK=>?_) ?_
     ·(try simp only[Act.put,List.getElem_toArray,List.getElem_cons_succ,List.getElem_cons_zero,List.setIfInBounds_toArray,List.set_cons_succ,List.set_cons_zero]);refine qcD (a:=⟨_,_⟩) rfl (.tmp 27) (.tmp 33) 93 rfl wr.heap.size 9 s0 _ 1 16 Tryz.underlying93 HS.out.1 HS.out.2 rfl (by decide) wr.heap.size HXA.out (Nat.le_refl _) (by rfl) (.slice ay y.vs.length py) y.vs.length (y.vs.map Value.string) (by rfl) HRW.out (qsZ _) (by have:=HVL.out;omega) (by decide) ?_;intro v2 w2 ho2 hg2;obtain⟨a5,c5,rfl⟩:=qbN ho2;have hb2:Below wr.drew.heap.size wr.drew w2:=qfD hg2;have HB2:=hid hb2;have HIT5:Hid (Itm qdS wr.drew.heap.size w2 [.string y.tg,.slice a5 y.vs.length c5] y):=hid (ql0 (qhF (fun W=>qoG W _) ho2));have HC2:=hid (HCD.out.next qbK hb2);have HCB:=hid (HC2.out.next qbK ((Below.refl _ w2).alloc (Nat.le_refl _) (.cells [.string y.tg,.slice a5 y.vs.length c5].toArray 95)));have b2:=HC2.out.box.c 1 rfl;have b3:=HCB.out.box.c 1 rfl;clear ho2 hg2 hb2
      refine hK.out _ _ ?_ (fun hHeld=>?_)
      ·first|exact HKK.out _ HCD.out.eff|exact HKK.out _ HCA.out.eff|exact HKK.out _ HC2.out.eff|exact HKK.out _ HCB.out.eff|exact HKK.out _ H7a.out.eff|exact HKK.out _ H7.out.eff
      clear hK K
      try simp only[Act.put,List.setIfInBounds_toArray,List.set_cons_zero,List.set_cons_succ]
      refine wpAnyH_take (i:=16) (v:=?_) rfl (by kernel_rfl) (by kernel_rfl) (by kernel_rfl) (fun _ _ _ h=>h) (Or.inl ⟨by rfl,?_⟩) (by assumption) ?_
      rotate_left
      ·intro w hSw;(try dsimp only at hSw);go_simp;(try with_reducible rfl)
      try simp only[Act.put,List.setIfInBounds_toArray,List.set_cons_zero,List.set_cons_succ]
      refine wpAnyH_ready (rs:=[1,17]) (by kernel_rfl) (by simp) ?_;refine AllReadyH.cons rfl (fun K hK=>?_) ?_
      ·go_simp;refine hK.out _ _ ?_ (fun hHeld=>?_)
       ·first|exact HKK.out _ HCD.out.eff|exact HKK.out _ HCA.out.eff|exact HKK.out _ HC2.out.eff|exact HKK.out _ HCB.out.eff|exact HKK.out _ H7a.out.eff|exact HKK.out _ H7.out.eff
       clear hK K
       try simp only[Act.put,List.setIfInBounds_toArray,List.set_cons_zero,List.set_cons_succ]
       refine wpAnyH_ready (rs:=[17]) (by kernel_rfl) (by simp) ?_;refine AllReadyH.cons rfl (fun K hK=>?_) ?_
       ·go_simp;refine hK.out _ _ ?_ (fun hHeld=>?_)
        ·first|exact HKK.out _ HCD.out.eff|exact HKK.out _ HCA.out.eff|exact HKK.out _ HC2.out.eff|exact HKK.out _ HCB.out.eff|exact HKK.out _ H7a.out.eff|exact HKK.out _ H7.out.eff
        clear hK K
        try simp only[Act.put,List.setIfInBounds_toArray,List.set_cons_zero,List.set_cons_succ]
        refine wpAnyH_ready (rs:=[18]) (by kernel_rfl) (by simp) ?_;refine AllReadyH.cons rfl (fun K hK=>?_) ?_
        ·(try simp only[Act.put,List.getElem_toArray,List.getElem_cons_succ,List.getElem_cons_zero,List.setIfInBounds_toArray,List.set_cons_succ,List.set_cons_zero]);refine qaL (a:=⟨_,_⟩) (w5:=w2) rfl (.tmp 20) (.tmp 36) 38 rfl qbK HCD.out k HLK.out.symm i0 _ 40 Tryz.underlying38 HI.out.1 HI.out.2 rfl (by decide) y [.string y.tg,.slice a5 y.vs.length c5] HB2.out HIT5.out 95 rfl (by rfl) 1 (by rfl) (by have:=HFW.out.1;simp only at this;omega) (by decide) ?_;intro g7 p7 w7 h7;have H7a:=hid h7;have d7:=h7.box.c 1 rfl;have z7:=h7.box.fz 1;have H7:=hid (h7.put qbK 1 (.slice (some ⟨g7,0,none⟩) (k+1) p7));clear h7
         refine hK.out _ _ ?_ (fun hHeld=>?_)
         ·first|exact HKK.out _ HCD.out.eff|exact HKK.out _ HCA.out.eff|exact HKK.out _ HC2.out.eff|exact HKK.out _ HCB.out.eff|exact HKK.out _ H7a.out.eff|exact HKK.out _ H7.out.eff
         clear hK K
         try simp only[Act.put,List.setIfInBounds_toArray,List.set_cons_zero,List.set_cons_succ]
         refine wpAnyH_take (i:=19) (v:=?_) rfl (by kernel_rfl) (by kernel_rfl) (by kernel_rfl) (fun _ _ _ h=>h) (Or.inl ⟨by rfl,?_⟩) (by assumption) ?_
         rotate_left
         ·intro w hSw;(try dsimp only at hSw);go_simp;(try with_reducible rfl)
         try simp only[Act.put,List.setIfInBounds_toArray,List.set_cons_zero,List.set_cons_succ]
         refine wpAnyH_ready (rs:=[20]) (by kernel_rfl) (by simp) ?_;refine AllReadyH.cons rfl (fun K hK=>?_) ?_
         ·go_simp;refine hK.out _ _ ?_ (fun hHeld=>?_)
          ·first|exact HKK.out _ HCD.out.eff|exact HKK.out _ HCA.out.eff|exact HKK.out _ HC2.out.eff|exact HKK.out _ HCB.out.eff|exact HKK.out _ H7a.out.eff|exact HKK.out _ H7.out.eff
          clear hK K
          try simp only[Act.put,List.setIfInBounds_toArray,List.set_cons_zero,List.set_cons_succ]
          refine wpAnyH_done (by kernel_rfl) ?_ _;rw[← HTK.out] at H7;generalize w7.setCell ⟨X,1,none⟩ (.slice (some ⟨g7,0,none⟩) (k+1) p7)=w8 at *
          clear d7 z7 b2 b3 bA bA2 b1 e1 HIT5 HB2 HC2 HCB H7a HCD HCA HBA HKK HRW HXA;go_wp2;go_roundw
          case rel=>exact⟨k+1,_,_,by go_num,by omega,H7⟩
          case measure=>simp[intOf];omega
         exact AllReadyH.nil
        exact AllReadyH.nil
       exact AllReadyH.nil
      refine AllReadyH.cons rfl (fun K hK=>?_) ?_
      ·go_simp;refine hK.out _ _ ?_ (fun hHeld=>?_)
       ·first|exact HKK.out _ HCD.out.eff|exact HKK.out _ HCA.out.eff|exact HKK.out _ HC2.out.eff|exact HKK.out _ HCB.out.eff|exact HKK.out _ H7a.out.eff|exact HKK.out _ H7.out.eff
       clear hK K
       try simp only[Act.put,List.setIfInBounds_toArray,List.set_cons_zero,List.set_cons_succ]
       refine wpAnyH_ready (rs:=[1]) (by kernel_rfl) (by simp) ?_;refine AllReadyH.cons rfl (fun K hK=>?_) ?_
       ·go_simp;refine hK.out _ _ ?_ (fun hHeld=>?_)
        ·first|exact HKK.out _ HCD.out.eff|exact HKK.out _ HCA.out.eff|exact HKK.out _ HC2.out.eff|exact HKK.out _ HCB.out.eff|exact HKK.out _ H7a.out.eff|exact HKK.out _ H7.out.eff
        clear hK K
        try simp only[Act.put,List.setIfInBounds_toArray,List.set_cons_zero,List.set_cons_succ]
        refine wpAnyH_ready (rs:=[18]) (by kernel_rfl) (by simp) ?_;refine AllReadyH.cons rfl (fun K hK=>?_) ?_
        ·(try simp only[Act.put,List.getElem_toArray,List.getElem_cons_succ,List.getElem_cons_zero,List.setIfInBounds_toArray,List.set_cons_succ,List.set_cons_zero]);refine qaL (a:=⟨_,_⟩) (w5:=w2) rfl (.tmp 20) (.tmp 36) 38 rfl qbK HCD.out k HLK.out.symm i0 _ 40 Tryz.underlying38 HI.out.1 HI.out.2 rfl (by decide) y [.string y.tg,.slice a5 y.vs.length c5] HB2.out HIT5.out 95 rfl (by rfl) 1 (by rfl) (by have:=HFW.out.1;simp only at this;omega) (by decide) ?_;intro g7 p7 w7 h7;have H7a:=hid h7;have d7:=h7.box.c 1 rfl;have z7:=h7.box.fz 1;have H7:=hid (h7.put qbK 1 (.slice (some ⟨g7,0,none⟩) (k+1) p7));clear h7
         refine hK.out _ _ ?_ (fun hHeld=>?_)
         ·first|exact HKK.out _ HCD.out.eff|exact HKK.out _ HCA.out.eff|exact HKK.out _ HC2.out.eff|exact HKK.out _ HCB.out.eff|exact HKK.out _ H7a.out.eff|exact HKK.out _ H7.out.eff
         clear hK K
         try simp only[Act.put,List.setIfInBounds_toArray,List.set_cons_zero,List.set_cons_succ]
         refine wpAnyH_take (i:=19) (v:=?_) rfl (by kernel_rfl) (by kernel_rfl) (by kernel_rfl) (fun _ _ _ h=>h) (Or.inl ⟨by rfl,?_⟩) (by assumption) ?_
         rotate_left
         ·intro w hSw;(try dsimp only at hSw);go_simp;(try with_reducible rfl)
         try simp only[Act.put,List.setIfInBounds_toArray,List.set_cons_zero,List.set_cons_succ]
         refine wpAnyH_ready (rs:=[20]) (by kernel_rfl) (by simp) ?_;refine AllReadyH.cons rfl (fun K hK=>?_) ?_
         ·go_simp;refine hK.out _ _ ?_ (fun hHeld=>?_)
          ·first|exact HKK.out _ HCD.out.eff|exact HKK.out _ HCA.out.eff|exact HKK.out _ HC2.out.eff|exact HKK.out _ HCB.out.eff|exact HKK.out _ H7a.out.eff|exact HKK.out _ H7.out.eff
          clear hK K
          try simp only[Act.put,List.setIfInBounds_toArray,List.set_cons_zero,List.set_cons_succ]
          refine wpAnyH_done (by kernel_rfl) ?_ _;rw[← HTK.out] at H7;generalize w7.setCell ⟨X,1,none⟩ (.slice (some ⟨g7,0,none⟩) (k+1) p7)=w8 at *
          clear d7 z7 b2 b3 bA bA2 b1 e1 HIT5 HB2 HC2 HCB H7a HCD HCA HBA HKK HRW HXA;go_wp2;go_roundw
          case rel=>exact⟨k+1,_,_,by go_num,by omega,H7⟩
          case measure=>simp[intOf];omega
         exact AllReadyH.nil
        exact AllReadyH.nil
       exact AllReadyH.nil
      exact AllReadyH.nil
     exact AllReadyH.nil
    exact AllReadyH.nil
   ·obtain rfl:k=NP:=by omega
    have hfull:parts.take k=parts:=List.take_of_length_le (by rw[HNP.out];exact Nat.le_refl _);rw[hfull] at HCP b1;have HP4:=hid HCP.out.lst;have HE4:=hid HCP.out.eff;have HXC:=hid HCP.out.lt;have HA4:=hid ea;have HR4:=hid (HCP.out.other HR3.out (by omega));have HC4:=hid (Cp.start (E:=qgN) (T:=100) (s:=5) HCP.out.box (Nat.zero_le _));rw[HNP.out] at HC4;go_wp2;generalize wr=W4 at *
    clear HCP HA3 HR3 HC3 b1 e1 ea hge hk;rename_i hclear
    go_loopw [5] (fun i wr=>∃ (j:Nat) (v:Value) (d:List Value),i=.int .i64 j∧j≤NQ∧Hid (Cp qgN 100 5 W4 X 44 wr [.string nm,.slice ar k cr,.slice ag mg cg,v] v (body.take j) d)) (fun i _=>NQ-(intOf i).toNat)
    case atStart=>exact⟨0,_,_,rfl,Nat.zero_le _,HC4⟩
    case round =>
     obtain⟨j,v,d2,rfl,hj,HCP⟩:=hrel;obtain⟨ar2,cr2,hvr⟩:=HCP.out.form;subst hvr;have HWQ:=hid (HCP.out.bel HWR.out (by omega));have ea:=HCP.out.other HA4.out (by omega);have b3:=HCP.out.box.c 3 rfl;have e3:=ea.c 3 rfl;rcases Nat.lt_or_ge j NQ with hltj|hgej
     ·have hjl:j<body.length:=by rw[HNQ.out];exact hltj
      obtain⟨y,hy0⟩:∃ y,body[j]?=some y:=⟨_,List.getElem?_eq_getElem hjl⟩
      have HTK:Hid (body.take (j+1)=body.take j++[y]):=hid (qf8 hy0);have hlk:(body.take j).length=j:=by rw[List.length_take];omega
      rw[hlk] at b3 HCP;obtain⟨g1,d1,rfl,hel,hcl⟩:=qeP qeO HBL.out hy0 HWQ.out;have hcall:=q5Y y (HOK.out y (qbW hy0)) (HFW.out.2.2.2 y (qbW hy0)) d1 wr.drew (hel.keep qeO (HWQ.out.trans ((qa0 wr).mono HWQ.out.size)) (Nat.le_refl _));obtain⟨ax,mx,px,ay,py,rfl,_,_⟩:=qdO hel;have y0:wr.cell? ⟨g1,j * 5,none⟩=some (.int .i64 y.kd):=hcl 0 _ rfl;have y1:wr.cell? ⟨g1,j * 5+1,none⟩=some (.slice ax mx px):=hcl 1 _ rfl;have y2:wr.cell? ⟨g1,j * 5+2,none⟩=some (.string y.nm):=hcl 2 _ rfl;have y3:wr.cell? ⟨g1,j * 5+3,none⟩=some (.string y.vr):=hcl 3 _ rfl;have y4:wr.cell? ⟨g1,j * 5+4,none⟩=some (.slice ay y.args.length py):=hcl 4 _ rfl;unfold qh5 at hcall;have HC:=hid hcall;have HLK:=hid hlk;have HCD:=hid (HCP.out.next qeO (qa0 wr));clear hel hcl hcall hy0 hjl ea hlk;go_upto_region 9 with (fail)
      go_region_law (first
       | (go_simp;go_at_call 58;refine HC.out.mono ?_;rintro e w5 ⟨cv,rfl,hit,hb5⟩;obtain⟨ad5,m5,c5,ad6,m6,c6,rfl⟩:=q2Z hit;have HIT5:=hid hit;have HB5:=hid hb5;have HX5:=hid (HCD.out.next qeO hb5);have b5:=HX5.out.box.c 3 rfl;have b6:=(HX5.out.next qeO ((Below.refl w5.heap.size w5).alloc (Nat.le_refl _) (.cells [.int .i64 y.kd,.slice ad5 m5 c5,.string y.nm,.string y.vr,.slice ad6 m6 c6].toArray 100))).box.c 3 rfl;clear hit hb5)
       | ((try simp only[Act.put,List.getElem_toArray,List.getElem_cons_succ,List.getElem_cons_zero,List.setIfInBounds_toArray,List.set_cons_succ,List.set_cons_zero]);refine qaL (a:=⟨_,_⟩) (w5:=w5) rfl (.tmp 47) (.tmp 54) 42 rfl qeO HCD.out j HLK.out.symm j0 _ 88 Tryz.underlying42 HJ.out.1 HJ.out.2 rfl (by decide) y [.int .i64 y.kd,.slice ad5 m5 c5,.string y.nm,.string y.vr,.slice ad6 m6 c6] HB5.out HIT5.out 100 rfl (by rfl) 1 (by rfl) (by omega) (by decide) ?_;intro g7 p7 w7 h7;have d7:=h7.box.c 3 rfl;have z7:=h7.box.fz 3;have H7:=hid (h7.put qeO 3 (.slice (some ⟨g7,0,none⟩) (j+1) p7));clear h7))
      all_goals
       rw[← HTK.out] at H7;generalize w7.setCell ⟨X,3,none⟩ (.slice (some ⟨g7,0,none⟩) (j+1) p7)=w8 at H7 ⊢;clear d7 z7 b5 b6 b3 e3 y0 y1 y2 y3 y4 HIT5 HB5 HX5 HCD HC HCP;go_wp2;go_roundw
       case rel=>exact⟨j+1,_,_,by go_num,by omega,H7⟩
       case measure=>simp[intOf];omega
     ·obtain rfl:j=NQ:=by omega
      have hfullb:body.take j=body:=List.take_of_length_le (by rw[HNQ.out];exact Nat.le_refl _);rw[hfullb] at HCP b3;have er:=HCP.out.other HR4.out (by omega);have q0:=HCP.out.box.c 0 rfl;have q1:=HCP.out.box.c 1 rfl;have q2:=HCP.out.box.c 2 rfl;have r0:=er.c 0 rfl;have r1:=er.c 1 rfl;have r2:=er.c 2 rfl;have r3:=er.c 3 rfl;have z0:=er.fz 0;have z1:=er.fz 1;have z2:=er.fz 2;have z3:=er.fz 3;have hit:=q2H (nm:=nm) HGD.out HP4.out HE4.out HCP.out.lst HCP.out.eff HXC.out (by have:=HXC.out;omega);have h99:=qy7 hit (by omega) HWQ.out;rw[HNP.out,HNQ.out] at h99;rw[HNQ.out] at b3;have H99:=hid h99;have HER:=hid er;clear er hit ea h99;go_wp2;exact bodyPost_ret (qmG rfl rfl (qi6 HER.out)) rfl H99.out
end Go.Proofs.YtenlhcgpajphhaaGreatDoor
