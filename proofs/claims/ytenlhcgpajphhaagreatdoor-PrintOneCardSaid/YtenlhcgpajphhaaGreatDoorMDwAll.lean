import Derived.Test.YtenlhcgpajphhaaGreatDoorMEpScan
import Derived.Test.YtenlhcgpajphhaaGreatDoorMDrKeyword
import Derived.Deep.RegionLaw
import Derived.Deep.QuietTactic
import Derived.BigQuiet
namespace Go.Proofs.YtenlhcgpajphhaaGreatDoor
open Go.RowKit Go.Shelf
open Lib(hid)
set_option maxRecDepth 100000
set_option linter.all false
set_option maxHeartbeats 16000000
def qd7 {α:Type} (E:Shp α) (w:World) (c:List Value) (x:α):Prop:=∃ F,E w F c x∧∀ b ∈ F,b<w.heap.size
def qbE {α:Type} (E:Shp α) (T:TypeId) (s:Nat) (w:World) (v:Value) (xs:List α):Prop:=∃ F c,ListV E T s w F v xs c∧∀ b ∈ F,b<w.heap.size
section
variable {α:Type} {E:Shp α} {T:TypeId} {s:Nat} {w w':World}
theorem qd7.keep {c:List Value} {x:α} (ke:KE E s) (h:qd7 E w c x) {B:Nat} (hb:Below B w w') (hB:w.heap.size≤B):qd7 E w' c x:=by
 obtain⟨F,h1,h2⟩:=h;exact⟨F,ke.keep h1 (fun b hb1=>hb.block b (by have:=h2 b hb1;omega)),fun b hb1=>by have:=h2 b hb1;have:=hb.size;omega⟩
theorem qbE.keep {v:Value} {xs:List α} (ke:KE E s) (h:qbE E T s w v xs) {B:Nat} (hb:Below B w w') (hB:w.heap.size≤B):qbE E T s w' v xs:=by
 obtain⟨F,c,h1,h2⟩:=h;exact⟨F,c,h1.keep ke (fun b hb1=>hb.block b (by have:=h2 b hb1;omega)),fun b hb1=>by have:=h2 b hb1;have:=hb.size;omega⟩
theorem qbE.form {v:Value} {xs:List α} (h:qbE E T s w v xs):∃ a c,v=.slice a xs.length c:=by
 obtain⟨F,c,h1,_⟩:=h;rcases h1.row.2 with ⟨rfl,hn⟩|⟨g,cap,cur,rfl,_⟩
 ·exact⟨none,0,by rw[hn]⟩
 ·exact⟨_,_,rfl⟩
theorem qbE.few {v:Value} {xs:List α} (h:qbE E T s w v xs):xs.length≤9223372036854775807:=by
 obtain⟨F,c,h1,_⟩:=h;rcases h1.row.2 with ⟨_,hn⟩|⟨g,cap,cur,_,_,_,h3,h4,_⟩
 ·omega
 ·unfold maxLen at h4;omega
theorem qbE.at {a:Option Addr} {n c:Nat} {xs:List α} (ke:KE E s) (h:qbE E T s w (.slice a n c) xs) (i:Nat) (x:α) (hx:xs[i]?=some x) :
  ∃ g c1,a=some ⟨g,0,none⟩∧qd7 E w c1 x∧∀ j u,c1[j]?=some u→w.cell? ⟨g,i * s+j,none⟩=some u:=by
 obtain⟨F,cs,h1,h2⟩:=h;have hi:i<xs.length:=by
  rcases Nat.lt_or_ge i xs.length with h|h
  ·exact h
  ·rw[List.getElem?_eq_none h] at hx;cases hx
 obtain⟨F2,rfl,he⟩:=h1.els;obtain⟨F1,c1,h3,h4,h5⟩:=he.get ke i x hx;rcases h1.row.2 with ⟨_,hn⟩|⟨g,cap,cur,hv,_⟩
 ·omega
 ·cases hv;refine⟨g,c1,rfl,⟨F1,h3,fun b hb=>h2 b (List.mem_append_right _ (h4 b hb))⟩,fun j u hu=>?_⟩;have hl:=ke.len h3;have hj:j<s:=by
   rcases Nat.lt_or_ge j c1.length with h|h
   ·omega
   ·rw[List.getElem?_eq_none h] at hu;cases hu
  have hm:(i+1) * s≤xs.length * s:=Nat.mul_le_mul_right s hi;rw[Nat.add_mul,Nat.one_mul] at hm;rw[h1.row.cellAt (i * s+j) (by omega),h5 j hj];exact hu
theorem qfT {lo:Nat} {c:List Value} {x:α} (h:Itm E lo w c x):qd7 E w c x:=by
 obtain⟨F,h1,h2⟩:=h;exact⟨F,h1,fun b hb=>(h2.lies b hb).2⟩
end
theorem qfP {α:Type} {E:Shp α} {T:TypeId} {s:Nat} {w:World} {v:Value} {xs:List α} {F G:List Nat} {d:List Value} (h:ListV E T s w F v xs d) (hs:∀ b ∈ G,b<w.heap.size) (hF:∀ b ∈ F,b ∈ G):qbE E T s w v xs:=⟨F,d,h,fun b hb=>hs b (hF b hb)⟩
theorem qfO {w:World} {c:List Value} {x:TagE} (h:qd7 qk7 w c x):∃ a cp,c=[.string x.nm,.slice a x.tys.length cp]∧qbE qrM 3 1 w (.slice a x.tys.length cp) x.tys:=by
 obtain⟨F,⟨v,d,rfl,hl⟩,hs⟩:=h;have hh:=qfP hl hs (fun b hb=>hb);obtain⟨a,cp,rfl⟩:=hh.form;exact⟨a,cp,rfl,hh⟩
theorem qeK {w:World} {c:List Value} {x:PartE} (h:qd7 qdS w c x):∃ a cp,c=[.string x.tg,.slice a x.vs.length cp]∧qbE qs7 9 1 w (.slice a x.vs.length cp) x.vs:=by
 obtain⟨F,⟨v,d,rfl,hl⟩,hs⟩:=h;have hh:=qfP hl hs (fun b hb=>hb);obtain⟨a,cp,rfl⟩:=hh.form;exact⟨a,cp,rfl,hh⟩
theorem qeQ {w:World} {c:List Value} {x:Option Ex} (h:qd7 exE w c x):∃ a m cp,c=[.slice a m cp]:=by
 obtain⟨F,⟨v,rfl,_,hr⟩,_⟩:=h;rcases hr.2 with ⟨rfl,_⟩|⟨g,cap,cur,rfl,_⟩
 ·exact⟨_,_,_,rfl⟩
 ·exact⟨_,_,_,rfl⟩
theorem qdO {w:World} {c:List Value} {x:ActE} (h:qd7 qgN w c x):∃ a m cp a2 cp2,c=[.int .i64 x.kd,.slice a m cp,.string x.nm,.string x.vr,.slice a2 x.args.length cp2]∧qd7 exE w [.slice a m cp] x.to∧qbE exE 41 1 w (.slice a2 x.args.length cp2) x.args:=by
 obtain⟨F,⟨tv,av,d,F1,F2,rfl,rfl,h1,h2⟩,hs⟩:=h;have hh:=qfP h2 hs (fun b hb=>List.mem_append_right _ hb);have he:qd7 exE w [tv] x.to:=⟨F1,h1,fun b hb=>hs b (List.mem_append_left _ hb)⟩
 obtain⟨a2,cp2,rfl⟩:=hh.form;obtain⟨a,m,cp,hc⟩:=qeQ he;cases hc;exact⟨a,m,cp,a2,cp2,rfl,he,hh⟩
theorem qb4 {w:World} {c:List Value} {x:ChordE} (h:qd7 qbB w c x):∃ a1 p1 a2 m2 p2 a3 p3,c=[.string x.nm,.slice a1 x.parts.length p1,.slice a2 m2 p2,.slice a3 x.body.length p3]∧qbE qdS 95 2 w (.slice a1 x.parts.length p1) x.parts∧qd7 exE w [.slice a2 m2 p2] x.guard∧qbE qgN 100 5 w (.slice a3 x.body.length p3) x.body:=by
 obtain⟨F,⟨pv,gv,bv,dp,db,F1,F2,F3,rfl,rfl,h1,h2,h3⟩,hs⟩:=h;have hp:=qfP h1 hs (fun b hb=>List.mem_append_left _ hb);have hb:=qfP h3 hs (fun b hb=>List.mem_append_right _ (List.mem_append_right _ hb));have he:qd7 exE w [gv] x.guard:=⟨F2,h2,fun b hb=>hs b (List.mem_append_right _ (List.mem_append_left _ hb))⟩
 obtain⟨a1,p1,rfl⟩:=hp.form;obtain⟨a3,p3,rfl⟩:=hb.form;obtain⟨a2,m2,p2,hc⟩:=qeQ he;cases hc;exact⟨a1,p1,a2,m2,p2,a3,p3,rfl,hp,he,hb⟩
theorem qe0 {w:World} {c:List Value} {x:KindE} (h:qd7 qfI w c x):∃ a cp,c=[.string x.nm,.slice a x.chords.length cp]∧qbE qbB 44 4 w (.slice a x.chords.length cp) x.chords:=by
 obtain⟨F,⟨v,d,rfl,hl⟩,hs⟩:=h;have hh:=qfP hl hs (fun b hb=>hb);obtain⟨a,cp,rfl⟩:=hh.form;exact⟨a,cp,rfl,hh⟩
theorem qdZ {w:World} {c:List Value} {x:ProgE} (h:qd7 qfR w c x):∃ a1 p1 a2 p2,c=[.slice a1 x.tags.length p1,.slice a2 x.kinds.length p2]∧qbE qk7 78 2 w (.slice a1 x.tags.length p1) x.tags∧qbE qfI 69 2 w (.slice a2 x.kinds.length p2) x.kinds:=by
 obtain⟨F,⟨tv,kv,dt,dk,F1,F2,rfl,rfl,h1,h2⟩,hs⟩:=h;have ht:=qfP h1 hs (fun b hb=>List.mem_append_left _ hb);have hk:=qfP h2 hs (fun b hb=>List.mem_append_right _ hb);obtain⟨a1,p1,rfl⟩:=ht.form;obtain⟨a2,p2,rfl⟩:=hk.form;exact⟨a1,p1,a2,p2,rfl,ht,hk⟩
def okA (a:ActE):Prop:=okE a.to∧∀ o ∈ a.args,okE o
def okC (c:ChordE):Prop:=okE c.guard∧∀ a ∈ c.body,okA a
def okK (k:KindE):Prop:=∀ c ∈ k.chords,okC c
def okP (p:ProgE):Prop:=∀ k ∈ p.kinds,okK k
theorem qbW {α:Type} {xs:List α} {k:Nat} {x:α} (h:xs[k]?=some x):x ∈ xs:=by
 rcases Nat.lt_or_ge k xs.length with hk|hk
 ·rw[List.getElem?_eq_getElem hk] at h;cases h;exact List.getElem_mem hk
 ·rw[List.getElem?_eq_none hk] at h;cases h
def qaT (w:World) (e:Ending) (w':World):Prop:=e=.returned (.bool true)∧Below w.heap.size w w'
theorem qwB (xs:List ByteArray) (v1 v2:Value) (w:World) (h1:qbE qs7 9 1 w v1 xs) (h2:qbE qs7 9 1 w v2 xs):Calls Tryz.prog 46 #[v1,v2] w (qaT w):=by
 obtain⟨a1,c1,rfl⟩:=h1.form;obtain⟨a2,c2,rfl⟩:=h2.form;have hfew:=h1.few;have H1:=hid h1;have H2:=hid h2;have tk:((xs.length:Int)==(xs.length:Int))=true:=beq_self_eq_true _;generalize hN:xs.length=N at *
 have HN:=hid hN;clear h1 h2 hN;unfold qaT;go_enter Tryz.func46,Tryz.ntmps46;go_wp2
 go_loopw [5] (fun i wr=>∃ k:Nat,i=.int .i64 k∧k≤N∧Hid (Below w.heap.size w wr)) (fun i _=>N-(intOf i).toNat)
 case atStart=>exact⟨0,rfl,Nat.zero_le _,hid (Below.refl _ _)⟩
 case round =>
  obtain⟨k,rfl,hk,HBR⟩:=hrel;rcases Nat.lt_or_ge k N with hlt|hge
  ·have hkl:k<xs.length:=by rw[HN.out];exact hlt
   obtain⟨g1,d1,rfl,he1,hc1⟩:=(H1.out.keep qlH HBR.out (Nat.le_refl _)).at qlH k (xs[k]'hkl) (List.getElem?_eq_getElem hkl);obtain⟨g2,d2,rfl,he2,hc2⟩:=(H2.out.keep qlH HBR.out (Nat.le_refl _)).at qlH k (xs[k]'hkl) (List.getElem?_eq_getElem hkl);generalize xs[k]'hkl=x at *
   obtain⟨_,⟨_,rfl⟩,_⟩:=he1;obtain⟨_,⟨_,rfl⟩,_⟩:=he2;have y1:wr.cell? ⟨g1,k,none⟩=some (.string x):=by have:=hc1 0 _ rfl;rw[Nat.mul_one] at this;exact this
   have y2:wr.cell? ⟨g2,k,none⟩=some (.string x):=by have:=hc2 0 _ rfl;rw[Nat.mul_one] at this;exact this
   have e2:(0:Int)≤(k:Int):=by omega
   have e3:(k:Int)<(N:Int):=by omega
   have e4:decide ((k:Int)<(N:Int))=true:=decide_eq_true e3;clear hc1 hc2 hkl;go_upto_region 6 with (fail);go_quiet (fail);have HB2:=hid (qgJ HBR.out nq);generalize wr.drewN nq=w2 at HB2 ⊢;clear y1 y2;go_wp2;go_roundw
   case rel=>exact⟨k+1,by go_num,by omega,HB2⟩
   case measure=>simp[intOf];omega
  ·obtain rfl:k=N:=by omega
   have d1:decide ((k:Int)<(k:Int))=false:=decide_eq_false (by omega);clear hk hge;go_wp2;go_ret;exact⟨rfl,HBR.out⟩
theorem qyM (nm:ByteArray) (xs:List Int) (a1 a2:Option Addr) (c1 c2:Nat) (w:World) (hT1:qbE qrM 3 1 w (.slice a1 xs.length c1) xs) (hT2:qbE qrM 3 1 w (.slice a2 xs.length c2) xs) :
  Calls Tryz.prog 40 #[.agg #[.string nm,.slice a1 xs.length c1],.agg #[.string nm,.slice a2 xs.length c2]] w (qaT w):=by
 obtain⟨W0,hW0,ha,hb,hB,hsz⟩:=qm0 w 78 [.string nm,.slice a1 xs.length c1] [.string nm,.slice a2 xs.length c2];have HW0:=hid hW0;have HA:=hid ha;have HB:=hid hb;have HBW:=hid hB;have p0:=ha.c 0 rfl;have q0:=hb.c 0 rfl;have p1:=ha.c 1 rfl;have q1:=hb.c 1 rfl;have tkT:((xs.length:Int)==(xs.length:Int))=true:=beq_self_eq_true _;have fewT:=hT1.few;have T1:=hid (hT1.keep qkB hB (Nat.le_refl _));have T2:=hid (hT2.keep qkB hB (Nat.le_refl _));generalize hNT:xs.length=NT at *
 have TN:=hid hNT;clear hNT hT1 hT2;clear hW0 ha hb hB hsz;unfold qaT;go_enter Tryz.func40,Tryz.ntmps40;go_upto_region 1 with (fail);rw[← HW0.out];have HST:Hid (Below W0.heap.size W0 W0):=hid (Below.refl _ _);go_wp2
 go_loopw [5] (fun i wr=>∃ k:Nat,i=.int .i64 k∧k≤NT∧Hid (Below W0.heap.size W0 wr)) (fun i _=>NT-(intOf i).toNat)
 case atStart=>exact⟨0,rfl,Nat.zero_le _,HST⟩
 case round =>
  obtain⟨k,rfl,hk,HBR⟩:=hrel;have p0:=(HA.out.keep HBR.out HA.out.lt).c 0 rfl;have q0:=(HB.out.keep HBR.out HB.out.lt).c 0 rfl;have p1:=(HA.out.keep HBR.out HA.out.lt).c 1 rfl;have q1:=(HB.out.keep HBR.out HB.out.lt).c 1 rfl;rcases Nat.lt_or_ge k NT with hlt|hge
  ·have hkl:k<xs.length:=by rw[TN.out];exact hlt
   obtain⟨g1,d1,rfl,he1,hc1⟩:=(T1.out.keep qkB HBR.out (Nat.le_refl _)).at qkB k (xs[k]'hkl) (List.getElem?_eq_getElem hkl);obtain⟨g2,d2,rfl,he2,hc2⟩:=(T2.out.keep qkB HBR.out (Nat.le_refl _)).at qkB k (xs[k]'hkl) (List.getElem?_eq_getElem hkl);have hmem:=qbW (List.getElem?_eq_getElem hkl);generalize xs[k]'hkl=x at *
   obtain⟨_,⟨_,rfl⟩,_⟩:=he1;obtain⟨_,⟨_,rfl⟩,_⟩:=he2;have y10:wr.cell? ⟨g1,k,none⟩=some (.int .i64 x):=by have:=hc1 0 _ rfl;rw[Nat.mul_one] at this;exact this
   have y20:wr.cell? ⟨g2,k,none⟩=some (.int .i64 x):=by have:=hc2 0 _ rfl;rw[Nat.mul_one] at this;exact this
   have e2:(0:Int)≤(k:Int):=by omega
   have e3:(k:Int)<(NT:Int):=by omega
   have e4:decide ((k:Int)<(NT:Int))=true:=decide_eq_true e3;clear hc1 hc2 hkl hmem;go_upto_region 6 with (fail);go_quiet (fail);have HB8:=hid (qgJ HBR.out nq);generalize wr.drewN nq=w8 at HB8 ⊢;clear y10 y20 p0 q0 p1 q1;go_wp2;go_roundw
   case rel=>exact⟨k+1,by go_num,by omega,HB8⟩
   case measure=>simp[intOf];omega
  ·obtain rfl:k=NT:=by omega
   have dd:decide ((k:Int)<(k:Int))=false:=decide_eq_false (by omega);clear hk hge;have HST:=HBR;go_wp2;go_ret;exact⟨rfl,HBW.out.trans (HBR.out.mono HBW.out.size)⟩
theorem qyU (kd:Int) (to:Option Ex) (hto:okE to) (nm vr:ByteArray) (xs:List (Option Ex)) (hok:∀ o ∈ xs,okE o) (a1 a2 t1 t2:Option Addr) (c1 c2 m1 m2 r1 r2:Nat) (w:World) (hX1:qd7 exE w [.slice t1 m1 r1] to) (hX2:qd7 exE w [.slice t2 m2 r2] to) (hT1:qbE exE 41 1 w (.slice a1 xs.length c1) xs) (hT2:qbE exE 41 1 w (.slice a2 xs.length c2) xs) :
  Calls Tryz.prog 47 #[.agg #[.int .i64 kd,.slice t1 m1 r1,.string nm,.string vr,.slice a1 xs.length c1],.agg #[.int .i64 kd,.slice t2 m2 r2,.string nm,.string vr,.slice a2 xs.length c2]] w (qaT w):=by
 obtain⟨W0,hW0,ha,hb,hB,hsz⟩:=qm0 w 100 [.int .i64 kd,.slice t1 m1 r1,.string nm,.string vr,.slice a1 xs.length c1] [.int .i64 kd,.slice t2 m2 r2,.string nm,.string vr,.slice a2 xs.length c2];have HW0:=hid hW0;have HA:=hid ha;have HB:=hid hb;have HBW:=hid hB;have p0:=ha.c 0 rfl;have q0:=hb.c 0 rfl;have p1:=ha.c 1 rfl;have q1:=hb.c 1 rfl;have p2:=ha.c 2 rfl;have q2:=hb.c 2 rfl;have p3:=ha.c 3 rfl;have q3:=hb.c 3 rfl;have p4:=ha.c 4 rfl;have q4:=hb.c 4 rfl;have tkd:(kd==kd)=true:=beq_self_eq_true _;have HEX:Hid (∀ W,Below W0.heap.size W0 W→Calls Tryz.prog 45 #[.agg #[.slice t1 m1 r1],.agg #[.slice t2 m2 r2]] W fun e w'=>e=.returned (.bool true)∧Below W.heap.size W w'):=hid (fun W hW=>by
  obtain⟨F1,e1,_⟩:=(hX1.keep exK hB (Nat.le_refl _)).keep exK hW (Nat.le_refl _);obtain⟨F2,e2,_⟩:=(hX2.keep exK hB (Nat.le_refl _)).keep exK hW (Nat.le_refl _);exact qjE to hto _ _ _ e1 e2)
 clear hX1 hX2 hto;have tkT:((xs.length:Int)==(xs.length:Int))=true:=beq_self_eq_true _;have fewT:=hT1.few;have T1:=hid (hT1.keep exK hB (Nat.le_refl _));have T2:=hid (hT2.keep exK hB (Nat.le_refl _));generalize hNT:xs.length=NT at *
 have TN:=hid hNT;clear hNT hT1 hT2;clear hW0 ha hb hB hsz;unfold qaT;go_enter Tryz.func47,Tryz.ntmps47;go_upto_region 1 with (fail);rw[← HW0.out];go_wp2_with (go_at_call 45;(with_reducible refine(HEX.out _ (by first|exact Below.refl _ _|exact qa0 _)).mono ?_);rintro e w1 ⟨rfl,hb1⟩;have HST:=hid (show Below W0.heap.size W0 w1 from hb1);have p0:=(HA.out.keep HST.out HA.out.lt).c 0 rfl;have p1:=(HA.out.keep HST.out HA.out.lt).c 1 rfl;have p2:=(HA.out.keep HST.out HA.out.lt).c 2 rfl;have p3:=(HA.out.keep HST.out HA.out.lt).c 3 rfl;have p4:=(HA.out.keep HST.out HA.out.lt).c 4 rfl;have q0:=(HB.out.keep HST.out HB.out.lt).c 0 rfl;have q1:=(HB.out.keep HST.out HB.out.lt).c 1 rfl;have q2:=(HB.out.keep HST.out HB.out.lt).c 2 rfl;have q3:=(HB.out.keep HST.out HB.out.lt).c 3 rfl;have q4:=(HB.out.keep HST.out HB.out.lt).c 4 rfl;clear hb1)
 go_loopw [5] (fun i wr=>∃ k:Nat,i=.int .i64 k∧k≤NT∧Hid (Below W0.heap.size W0 wr)) (fun i _=>NT-(intOf i).toNat)
 case atStart=>exact⟨0,rfl,Nat.zero_le _,HST⟩
 case round =>
  obtain⟨k,rfl,hk,HBR⟩:=hrel;have p0:=(HA.out.keep HBR.out HA.out.lt).c 0 rfl;have q0:=(HB.out.keep HBR.out HB.out.lt).c 0 rfl;have p1:=(HA.out.keep HBR.out HA.out.lt).c 1 rfl;have q1:=(HB.out.keep HBR.out HB.out.lt).c 1 rfl;have p2:=(HA.out.keep HBR.out HA.out.lt).c 2 rfl;have q2:=(HB.out.keep HBR.out HB.out.lt).c 2 rfl;have p3:=(HA.out.keep HBR.out HA.out.lt).c 3 rfl;have q3:=(HB.out.keep HBR.out HB.out.lt).c 3 rfl;have p4:=(HA.out.keep HBR.out HA.out.lt).c 4 rfl;have q4:=(HB.out.keep HBR.out HB.out.lt).c 4 rfl;rcases Nat.lt_or_ge k NT with hlt|hge
  ·have hkl:k<xs.length:=by rw[TN.out];exact hlt
   obtain⟨g1,d1,rfl,he1,hc1⟩:=(T1.out.keep exK HBR.out (Nat.le_refl _)).at exK k (xs[k]'hkl) (List.getElem?_eq_getElem hkl);obtain⟨g2,d2,rfl,he2,hc2⟩:=(T2.out.keep exK HBR.out (Nat.le_refl _)).at exK k (xs[k]'hkl) (List.getElem?_eq_getElem hkl);have hmem:=qbW (List.getElem?_eq_getElem hkl);generalize xs[k]'hkl=x at *
   obtain⟨ax,mx,px,rfl⟩:=qeQ he1;obtain⟨ay,my,py,rfl⟩:=qeQ he2;have he1:=he1.keep exK (qa0 wr) (Nat.le_refl _);have he2:=he2.keep exK (qa0 wr) (Nat.le_refl _);have y10:wr.cell? ⟨g1,k,none⟩=some (.slice ax mx px):=by have:=hc1 0 _ rfl;rw[Nat.mul_one] at this;exact this
   have y20:wr.cell? ⟨g2,k,none⟩=some (.slice ay my py):=by have:=hc2 0 _ rfl;rw[Nat.mul_one] at this;exact this
   have e2:(0:Int)≤(k:Int):=by omega
   have e3:(k:Int)<(NT:Int):=by omega
   have e4:decide ((k:Int)<(NT:Int))=true:=decide_eq_true e3;have HCL:Hid (∀ W,W=wr.drew→Calls Tryz.prog 45 #[.agg #[.slice ax mx px],.agg #[.slice ay my py]] W fun e w'=>e=.returned (.bool true)∧Below W.heap.size W w'):=hid (fun W hW=>by
    subst hW;obtain⟨F1,e1,_⟩:=he1;obtain⟨F2,e2,_⟩:=he2;exact qjE x (hok x hmem) _ _ _ e1 e2)
   clear he1 he2;clear hc1 hc2 hkl hmem;go_upto_region 6 with (fail)
   go_region_law (go_simp;go_at_call 45;(with_reducible refine(HCL.out _ rfl).mono ?_);rintro e w8 ⟨rfl,hb8⟩;have HB8:=hid (HBR.out.trans (((qa0 wr).trans (hb8.mono (Nat.le_refl _))).mono HBR.out.size));clear hb8)
   all_goals
    clear y10 y20 p0 q0 p1 q1 p2 q2 p3 q3 p4 q4;go_wp2;go_roundw
    case rel=>exact⟨k+1,by go_num,by omega,HB8⟩
    case measure=>simp[intOf];omega
  ·obtain rfl:k=NT:=by omega
   have dd:decide ((k:Int)<(k:Int))=false:=decide_eq_false (by omega);clear hk hge;have HST:=HBR;go_wp2;go_ret;exact⟨rfl,HBW.out.trans (HBR.out.mono HBW.out.size)⟩
theorem qlF (nm:ByteArray) (ps:List PartE) (to:Option Ex) (hto:okE to) (xs:List ActE) (hoa:∀ a ∈ xs,okA a) (a1 a2 t1 t2 b1 b2:Option Addr) (c1 c2 m1 m2 r1 r2 d1 d2:Nat) (w:World) (hP1:qbE qdS 95 2 w (.slice a1 ps.length c1) ps) (hP2:qbE qdS 95 2 w (.slice a2 ps.length c2) ps) (hX1:qd7 exE w [.slice t1 m1 r1] to) (hX2:qd7 exE w [.slice t2 m2 r2] to) (hT1:qbE qgN 100 5 w (.slice b1 xs.length d1) xs) (hT2:qbE qgN 100 5 w (.slice b2 xs.length d2) xs) :
  Calls Tryz.prog 18 #[.agg #[.string nm,.slice a1 ps.length c1,.slice t1 m1 r1,.slice b1 xs.length d1],.agg #[.string nm,.slice a2 ps.length c2,.slice t2 m2 r2,.slice b2 xs.length d2]] w (qaT w):=by
 obtain⟨W0,hW0,ha,hb,hB,hsz⟩:=qm0 w 44 [.string nm,.slice a1 ps.length c1,.slice t1 m1 r1,.slice b1 xs.length d1] [.string nm,.slice a2 ps.length c2,.slice t2 m2 r2,.slice b2 xs.length d2];have HW0:=hid hW0;have HA:=hid ha;have HB:=hid hb;have HBW:=hid hB;have p0:=ha.c 0 rfl;have q0:=hb.c 0 rfl;have p1:=ha.c 1 rfl;have q1:=hb.c 1 rfl;have p2:=ha.c 2 rfl;have q2:=hb.c 2 rfl;have p3:=ha.c 3 rfl;have q3:=hb.c 3 rfl;have HEX:Hid (∀ W,Below W0.heap.size W0 W→Calls Tryz.prog 45 #[.agg #[.slice t1 m1 r1],.agg #[.slice t2 m2 r2]] W fun e w'=>e=.returned (.bool true)∧Below W.heap.size W w'):=hid (fun W hW=>by
  obtain⟨F1,e1,_⟩:=(hX1.keep exK hB (Nat.le_refl _)).keep exK hW (Nat.le_refl _);obtain⟨F2,e2,_⟩:=(hX2.keep exK hB (Nat.le_refl _)).keep exK hW (Nat.le_refl _);exact qjE to hto _ _ _ e1 e2)
 clear hX1 hX2 hto;have tkP:((ps.length:Int)==(ps.length:Int))=true:=beq_self_eq_true _;have fewP:=hP1.few;have P1:=hid (hP1.keep qbK hB (Nat.le_refl _));have P2:=hid (hP2.keep qbK hB (Nat.le_refl _));generalize hNP:ps.length=NP at *
 have PN:=hid hNP;clear hNP hP1 hP2;have tkT:((xs.length:Int)==(xs.length:Int))=true:=beq_self_eq_true _;have fewT:=hT1.few;have T1:=hid (hT1.keep qeO hB (Nat.le_refl _));have T2:=hid (hT2.keep qeO hB (Nat.le_refl _));generalize hNT:xs.length=NT at *
 have TN:=hid hNT;clear hNT hT1 hT2;clear hW0 ha hb hB hsz;unfold qaT;go_enter Tryz.func18,Tryz.ntmps18;go_upto_region 1 with (fail);rw[← HW0.out];go_wp2_with (go_at_call 45;(with_reducible refine(HEX.out _ (by first|exact Below.refl _ _|exact qa0 _)).mono ?_);rintro e w1 ⟨rfl,hb1⟩;have HST:=hid (show Below W0.heap.size W0 w1 from hb1);have p0:=(HA.out.keep HST.out HA.out.lt).c 0 rfl;have p1:=(HA.out.keep HST.out HA.out.lt).c 1 rfl;have p2:=(HA.out.keep HST.out HA.out.lt).c 2 rfl;have p3:=(HA.out.keep HST.out HA.out.lt).c 3 rfl;have q0:=(HB.out.keep HST.out HB.out.lt).c 0 rfl;have q1:=(HB.out.keep HST.out HB.out.lt).c 1 rfl;have q2:=(HB.out.keep HST.out HB.out.lt).c 2 rfl;have q3:=(HB.out.keep HST.out HB.out.lt).c 3 rfl;clear hb1)
 go_loopw [5] (fun i wr=>∃ k:Nat,i=.int .i64 k∧k≤NP∧Hid (Below W0.heap.size W0 wr)) (fun i _=>NP-(intOf i).toNat)
 case atStart=>exact⟨0,rfl,Nat.zero_le _,HST⟩
 case round =>
  obtain⟨k,rfl,hk,HBR⟩:=hrel;have p0:=(HA.out.keep HBR.out HA.out.lt).c 0 rfl;have q0:=(HB.out.keep HBR.out HB.out.lt).c 0 rfl;have p1:=(HA.out.keep HBR.out HA.out.lt).c 1 rfl;have q1:=(HB.out.keep HBR.out HB.out.lt).c 1 rfl;have p2:=(HA.out.keep HBR.out HA.out.lt).c 2 rfl;have q2:=(HB.out.keep HBR.out HB.out.lt).c 2 rfl;have p3:=(HA.out.keep HBR.out HA.out.lt).c 3 rfl;have q3:=(HB.out.keep HBR.out HB.out.lt).c 3 rfl;rcases Nat.lt_or_ge k NP with hlt|hge
  ·have hkl:k<ps.length:=by rw[PN.out];exact hlt
   obtain⟨g1,d1,rfl,he1,hc1⟩:=(P1.out.keep qbK HBR.out (Nat.le_refl _)).at qbK k (ps[k]'hkl) (List.getElem?_eq_getElem hkl);obtain⟨g2,d2,rfl,he2,hc2⟩:=(P2.out.keep qbK HBR.out (Nat.le_refl _)).at qbK k (ps[k]'hkl) (List.getElem?_eq_getElem hkl);have hmem:=qbW (List.getElem?_eq_getElem hkl);generalize ps[k]'hkl=x at *
   obtain⟨ax,px,rfl,hx1⟩:=qeK he1;obtain⟨ay,py,rfl,hx2⟩:=qeK he2;have hx1:=hx1.keep qlH (qa0 wr) (Nat.le_refl _);have hx2:=hx2.keep qlH (qa0 wr) (Nat.le_refl _);have y10:wr.cell? ⟨g1,k * 2,none⟩=some (.string x.tg):=by have:=hc1 0 _ rfl;exact this
   have y11:wr.cell? ⟨g1,k * 2+1,none⟩=some (.slice ax x.vs.length px):=by have:=hc1 1 _ rfl;exact this
   have y20:wr.cell? ⟨g2,k * 2,none⟩=some (.string x.tg):=by have:=hc2 0 _ rfl;exact this
   have y21:wr.cell? ⟨g2,k * 2+1,none⟩=some (.slice ay x.vs.length py):=by have:=hc2 1 _ rfl;exact this
   have e2:(0:Int)≤(k:Int):=by omega
   have e3:(k:Int)<(NP:Int):=by omega
   have e4:decide ((k:Int)<(NP:Int))=true:=decide_eq_true e3;have HCL:Hid (∀ W,W=wr.drew→Calls Tryz.prog 46 #[.slice ax x.vs.length px,.slice ay x.vs.length py] W fun e w'=>e=.returned (.bool true)∧Below W.heap.size W w'):=hid (fun W hW=>by
    subst hW;exact qwB x.vs _ _ _ hx1 hx2)
   clear he1 he2 hx1 hx2;clear hc1 hc2 hkl hmem;go_upto_region 6 with (fail)
   go_region_law (go_simp;go_at_call 46;(with_reducible refine(HCL.out _ rfl).mono ?_);rintro e w8 ⟨rfl,hb8⟩;have HB8:=hid (HBR.out.trans (((qa0 wr).trans (hb8.mono (Nat.le_refl _))).mono HBR.out.size));clear hb8)
   all_goals
    clear y10 y11 y20 y21 p0 q0 p1 q1 p2 q2 p3 q3;go_wp2;go_roundw
    case rel=>exact⟨k+1,by go_num,by omega,HB8⟩
    case measure=>simp[intOf];omega
  ·obtain rfl:k=NP:=by omega
   have dd:decide ((k:Int)<(k:Int))=false:=decide_eq_false (by omega);clear hk hge;have HST:=HBR;go_wp2
   go_loopw [6] (fun i wr=>∃ k:Nat,i=.int .i64 k∧k≤NT∧Hid (Below W0.heap.size W0 wr)) (fun i _=>NT-(intOf i).toNat)
   case atStart=>exact⟨0,rfl,Nat.zero_le _,HST⟩
   case round =>
    obtain⟨k,rfl,hk,HBR⟩:=hrel;have p0:=(HA.out.keep HBR.out HA.out.lt).c 0 rfl;have q0:=(HB.out.keep HBR.out HB.out.lt).c 0 rfl;have p1:=(HA.out.keep HBR.out HA.out.lt).c 1 rfl;have q1:=(HB.out.keep HBR.out HB.out.lt).c 1 rfl;have p2:=(HA.out.keep HBR.out HA.out.lt).c 2 rfl;have q2:=(HB.out.keep HBR.out HB.out.lt).c 2 rfl;have p3:=(HA.out.keep HBR.out HA.out.lt).c 3 rfl;have q3:=(HB.out.keep HBR.out HB.out.lt).c 3 rfl;rcases Nat.lt_or_ge k NT with hlt|hge
    ·have hkl:k<xs.length:=by rw[TN.out];exact hlt
     obtain⟨g1,d1,rfl,he1,hc1⟩:=(T1.out.keep qeO HBR.out (Nat.le_refl _)).at qeO k (xs[k]'hkl) (List.getElem?_eq_getElem hkl);obtain⟨g2,d2,rfl,he2,hc2⟩:=(T2.out.keep qeO HBR.out (Nat.le_refl _)).at qeO k (xs[k]'hkl) (List.getElem?_eq_getElem hkl);have hmem:=qbW (List.getElem?_eq_getElem hkl);generalize xs[k]'hkl=x at *
     obtain⟨ax,mx,px,bx,nx,rfl,hx1,hz1⟩:=qdO he1;obtain⟨ay,my,py,yb,ny,rfl,hx2,hz2⟩:=qdO he2;have hx1:=hx1.keep exK (qa0 wr) (Nat.le_refl _);have hx2:=hx2.keep exK (qa0 wr) (Nat.le_refl _);have hz1:=hz1.keep exK (qa0 wr) (Nat.le_refl _);have hz2:=hz2.keep exK (qa0 wr) (Nat.le_refl _);have y10:wr.cell? ⟨g1,k * 5,none⟩=some (.int .i64 x.kd):=by have:=hc1 0 _ rfl;exact this
     have y11:wr.cell? ⟨g1,k * 5+1,none⟩=some (.slice ax mx px):=by have:=hc1 1 _ rfl;exact this
     have y12:wr.cell? ⟨g1,k * 5+2,none⟩=some (.string x.nm):=by have:=hc1 2 _ rfl;exact this
     have y13:wr.cell? ⟨g1,k * 5+3,none⟩=some (.string x.vr):=by have:=hc1 3 _ rfl;exact this
     have y14:wr.cell? ⟨g1,k * 5+4,none⟩=some (.slice bx x.args.length nx):=by have:=hc1 4 _ rfl;exact this
     have y20:wr.cell? ⟨g2,k * 5,none⟩=some (.int .i64 x.kd):=by have:=hc2 0 _ rfl;exact this
     have y21:wr.cell? ⟨g2,k * 5+1,none⟩=some (.slice ay my py):=by have:=hc2 1 _ rfl;exact this
     have y22:wr.cell? ⟨g2,k * 5+2,none⟩=some (.string x.nm):=by have:=hc2 2 _ rfl;exact this
     have y23:wr.cell? ⟨g2,k * 5+3,none⟩=some (.string x.vr):=by have:=hc2 3 _ rfl;exact this
     have y24:wr.cell? ⟨g2,k * 5+4,none⟩=some (.slice yb x.args.length ny):=by have:=hc2 4 _ rfl;exact this
     have e2:(0:Int)≤(k:Int):=by omega
     have e3:(k:Int)<(NT:Int):=by omega
     have e4:decide ((k:Int)<(NT:Int))=true:=decide_eq_true e3;have HCL:Hid (∀ W,W=wr.drew→Calls Tryz.prog 47 #[.agg #[.int .i64 x.kd,.slice ax mx px,.string x.nm,.string x.vr,.slice bx x.args.length nx],.agg #[.int .i64 x.kd,.slice ay my py,.string x.nm,.string x.vr,.slice yb x.args.length ny]] W fun e w'=>e=.returned (.bool true)∧Below W.heap.size W w'):=hid (fun W hW=>by
      subst hW;exact qyU x.kd x.to (hoa x hmem).1 x.nm x.vr x.args (hoa x hmem).2 _ _ _ _ _ _ _ _ _ _ _ hx1 hx2 hz1 hz2)
     clear he1 he2 hx1 hx2 hz1 hz2;clear hc1 hc2 hkl hmem;go_upto_region 11 with (fail)
     go_region_law (go_simp;go_at_call 47;(with_reducible refine(HCL.out _ rfl).mono ?_);rintro e w8 ⟨rfl,hb8⟩;have HB8:=hid (HBR.out.trans (((qa0 wr).trans (hb8.mono (Nat.le_refl _))).mono HBR.out.size));clear hb8)
     all_goals
      clear y10 y11 y12 y13 y14 y20 y21 y22 y23 y24 p0 q0 p1 q1 p2 q2 p3 q3;go_wp2;go_roundw
      case rel=>exact⟨k+1,by go_num,by omega,HB8⟩
      case measure=>simp[intOf];omega
    ·obtain rfl:k=NT:=by omega
     have dd:decide ((k:Int)<(k:Int))=false:=decide_eq_false (by omega);clear hk hge;have HST:=HBR;go_wp2;go_ret;exact⟨rfl,HBW.out.trans (HBR.out.mono HBW.out.size)⟩
theorem qwF (nm:ByteArray) (xs:List ChordE) (hoc:∀ c ∈ xs,okC c) (a1 a2:Option Addr) (c1 c2:Nat) (w:World) (hT1:qbE qbB 44 4 w (.slice a1 xs.length c1) xs) (hT2:qbE qbB 44 4 w (.slice a2 xs.length c2) xs) :
  Calls Tryz.prog 41 #[.agg #[.string nm,.slice a1 xs.length c1],.agg #[.string nm,.slice a2 xs.length c2]] w (qaT w):=by
 obtain⟨W0,hW0,ha,hb,hB,hsz⟩:=qm0 w 69 [.string nm,.slice a1 xs.length c1] [.string nm,.slice a2 xs.length c2];have HW0:=hid hW0;have HA:=hid ha;have HB:=hid hb;have HBW:=hid hB;have p0:=ha.c 0 rfl;have q0:=hb.c 0 rfl;have p1:=ha.c 1 rfl;have q1:=hb.c 1 rfl;have tkT:((xs.length:Int)==(xs.length:Int))=true:=beq_self_eq_true _;have fewT:=hT1.few;have T1:=hid (hT1.keep qaM hB (Nat.le_refl _));have T2:=hid (hT2.keep qaM hB (Nat.le_refl _));generalize hNT:xs.length=NT at *
 have TN:=hid hNT;clear hNT hT1 hT2;clear hW0 ha hb hB hsz;unfold qaT;go_enter Tryz.func41,Tryz.ntmps41;go_upto_region 1 with (fail);rw[← HW0.out];have HST:Hid (Below W0.heap.size W0 W0):=hid (Below.refl _ _);go_wp2
 go_loopw [5] (fun i wr=>∃ k:Nat,i=.int .i64 k∧k≤NT∧Hid (Below W0.heap.size W0 wr)) (fun i _=>NT-(intOf i).toNat)
 case atStart=>exact⟨0,rfl,Nat.zero_le _,HST⟩
 case round =>
  obtain⟨k,rfl,hk,HBR⟩:=hrel;have p0:=(HA.out.keep HBR.out HA.out.lt).c 0 rfl;have q0:=(HB.out.keep HBR.out HB.out.lt).c 0 rfl;have p1:=(HA.out.keep HBR.out HA.out.lt).c 1 rfl;have q1:=(HB.out.keep HBR.out HB.out.lt).c 1 rfl;rcases Nat.lt_or_ge k NT with hlt|hge
  ·have hkl:k<xs.length:=by rw[TN.out];exact hlt
   obtain⟨g1,d1,rfl,he1,hc1⟩:=(T1.out.keep qaM HBR.out (Nat.le_refl _)).at qaM k (xs[k]'hkl) (List.getElem?_eq_getElem hkl);obtain⟨g2,d2,rfl,he2,hc2⟩:=(T2.out.keep qaM HBR.out (Nat.le_refl _)).at qaM k (xs[k]'hkl) (List.getElem?_eq_getElem hkl);have hmem:=qbW (List.getElem?_eq_getElem hkl);generalize xs[k]'hkl=x at *
   obtain⟨ax,px,bx,mx,nx,cx,ox,rfl,hx1,hz1,hu1⟩:=qb4 he1;obtain⟨ay,py,yb,my,ny,cy,oy,rfl,hx2,hz2,hu2⟩:=qb4 he2;have hx1:=hx1.keep qbK (qa0 wr) (Nat.le_refl _);have hx2:=hx2.keep qbK (qa0 wr) (Nat.le_refl _);have hz1:=hz1.keep exK (qa0 wr) (Nat.le_refl _);have hz2:=hz2.keep exK (qa0 wr) (Nat.le_refl _);have hu1:=hu1.keep qeO (qa0 wr) (Nat.le_refl _);have hu2:=hu2.keep qeO (qa0 wr) (Nat.le_refl _);have y10:wr.cell? ⟨g1,k * 4,none⟩=some (.string x.nm):=by have:=hc1 0 _ rfl;exact this
   have y11:wr.cell? ⟨g1,k * 4+1,none⟩=some (.slice ax x.parts.length px):=by have:=hc1 1 _ rfl;exact this
   have y12:wr.cell? ⟨g1,k * 4+2,none⟩=some (.slice bx mx nx):=by have:=hc1 2 _ rfl;exact this
   have y13:wr.cell? ⟨g1,k * 4+3,none⟩=some (.slice cx x.body.length ox):=by have:=hc1 3 _ rfl;exact this
   have y20:wr.cell? ⟨g2,k * 4,none⟩=some (.string x.nm):=by have:=hc2 0 _ rfl;exact this
   have y21:wr.cell? ⟨g2,k * 4+1,none⟩=some (.slice ay x.parts.length py):=by have:=hc2 1 _ rfl;exact this
   have y22:wr.cell? ⟨g2,k * 4+2,none⟩=some (.slice yb my ny):=by have:=hc2 2 _ rfl;exact this
   have y23:wr.cell? ⟨g2,k * 4+3,none⟩=some (.slice cy x.body.length oy):=by have:=hc2 3 _ rfl;exact this
   have e2:(0:Int)≤(k:Int):=by omega
   have e3:(k:Int)<(NT:Int):=by omega
   have e4:decide ((k:Int)<(NT:Int))=true:=decide_eq_true e3;have HCL:Hid (∀ W,W=wr.drew→Calls Tryz.prog 18 #[.agg #[.string x.nm,.slice ax x.parts.length px,.slice bx mx nx,.slice cx x.body.length ox],.agg #[.string x.nm,.slice ay x.parts.length py,.slice yb my ny,.slice cy x.body.length oy]] W fun e w'=>e=.returned (.bool true)∧Below W.heap.size W w'):=hid (fun W hW=>by
    subst hW;exact qlF x.nm x.parts x.guard (hoc x hmem).1 x.body (hoc x hmem).2 _ _ _ _ _ _ _ _ _ _ _ _ _ _ _ hx1 hx2 hz1 hz2 hu1 hu2)
   clear he1 he2 hx1 hx2 hz1 hz2 hu1 hu2;clear hc1 hc2 hkl hmem;go_upto_region 6 with (fail)
   go_region_law (go_simp;go_at_call 18;(with_reducible refine(HCL.out _ rfl).mono ?_);rintro e w8 ⟨rfl,hb8⟩;have HB8:=hid (HBR.out.trans (((qa0 wr).trans (hb8.mono (Nat.le_refl _))).mono HBR.out.size));clear hb8)
   all_goals
    clear y10 y11 y12 y13 y20 y21 y22 y23 p0 q0 p1 q1;go_wp2;go_roundw
    case rel=>exact⟨k+1,by go_num,by omega,HB8⟩
    case measure=>simp[intOf];omega
  ·obtain rfl:k=NT:=by omega
   have dd:decide ((k:Int)<(k:Int))=false:=decide_eq_false (by omega);clear hk hge;have HST:=HBR;go_wp2;go_ret;exact⟨rfl,HBW.out.trans (HBR.out.mono HBW.out.size)⟩
theorem qo5 (ts:List TagE) (xs:List KindE) (hok:∀ k ∈ xs,okK k) (a1 a2 b1 b2:Option Addr) (c1 c2 d1 d2:Nat) (w:World) (hP1:qbE qk7 78 2 w (.slice a1 ts.length c1) ts) (hP2:qbE qk7 78 2 w (.slice a2 ts.length c2) ts) (hT1:qbE qfI 69 2 w (.slice b1 xs.length d1) xs) (hT2:qbE qfI 69 2 w (.slice b2 xs.length d2) xs) :
  Calls Tryz.prog 15 #[.agg #[.slice a1 ts.length c1,.slice b1 xs.length d1],.agg #[.slice a2 ts.length c2,.slice b2 xs.length d2]] w (qaT w):=by
 obtain⟨W0,hW0,ha,hb,hB,hsz⟩:=qm0 w 26 [.slice a1 ts.length c1,.slice b1 xs.length d1] [.slice a2 ts.length c2,.slice b2 xs.length d2];have HW0:=hid hW0;have HA:=hid ha;have HB:=hid hb;have HBW:=hid hB;have p0:=ha.c 0 rfl;have q0:=hb.c 0 rfl;have p1:=ha.c 1 rfl;have q1:=hb.c 1 rfl;have tkP:((ts.length:Int)==(ts.length:Int))=true:=beq_self_eq_true _;have fewP:=hP1.few;have P1:=hid (hP1.keep qfV hB (Nat.le_refl _));have P2:=hid (hP2.keep qfV hB (Nat.le_refl _));generalize hNP:ts.length=NP at *
 have PN:=hid hNP;clear hNP hP1 hP2;have tkT:((xs.length:Int)==(xs.length:Int))=true:=beq_self_eq_true _;have fewT:=hT1.few;have T1:=hid (hT1.keep qdY hB (Nat.le_refl _));have T2:=hid (hT2.keep qdY hB (Nat.le_refl _));generalize hNT:xs.length=NT at *
 have TN:=hid hNT;clear hNT hT1 hT2;clear hW0 ha hb hB hsz;unfold qaT;go_enter Tryz.func15,Tryz.ntmps15;go_upto_region 1 with (fail);rw[← HW0.out];have HST:Hid (Below W0.heap.size W0 W0):=hid (Below.refl _ _);go_wp2
 go_loopw [5] (fun i wr=>∃ k:Nat,i=.int .i64 k∧k≤NP∧Hid (Below W0.heap.size W0 wr)) (fun i _=>NP-(intOf i).toNat)
 case atStart=>exact⟨0,rfl,Nat.zero_le _,HST⟩
 case round =>
  obtain⟨k,rfl,hk,HBR⟩:=hrel;have p0:=(HA.out.keep HBR.out HA.out.lt).c 0 rfl;have q0:=(HB.out.keep HBR.out HB.out.lt).c 0 rfl;have p1:=(HA.out.keep HBR.out HA.out.lt).c 1 rfl;have q1:=(HB.out.keep HBR.out HB.out.lt).c 1 rfl;rcases Nat.lt_or_ge k NP with hlt|hge
  ·have hkl:k<ts.length:=by rw[PN.out];exact hlt
   obtain⟨g1,d1,rfl,he1,hc1⟩:=(P1.out.keep qfV HBR.out (Nat.le_refl _)).at qfV k (ts[k]'hkl) (List.getElem?_eq_getElem hkl);obtain⟨g2,d2,rfl,he2,hc2⟩:=(P2.out.keep qfV HBR.out (Nat.le_refl _)).at qfV k (ts[k]'hkl) (List.getElem?_eq_getElem hkl);have hmem:=qbW (List.getElem?_eq_getElem hkl);generalize ts[k]'hkl=x at *
   obtain⟨ax,px,rfl,hx1⟩:=qfO he1;obtain⟨ay,py,rfl,hx2⟩:=qfO he2;have hx1:=hx1.keep qkB (qa0 wr) (Nat.le_refl _);have hx2:=hx2.keep qkB (qa0 wr) (Nat.le_refl _);have y10:wr.cell? ⟨g1,k * 2,none⟩=some (.string x.nm):=by have:=hc1 0 _ rfl;exact this
   have y11:wr.cell? ⟨g1,k * 2+1,none⟩=some (.slice ax x.tys.length px):=by have:=hc1 1 _ rfl;exact this
   have y20:wr.cell? ⟨g2,k * 2,none⟩=some (.string x.nm):=by have:=hc2 0 _ rfl;exact this
   have y21:wr.cell? ⟨g2,k * 2+1,none⟩=some (.slice ay x.tys.length py):=by have:=hc2 1 _ rfl;exact this
   have e2:(0:Int)≤(k:Int):=by omega
   have e3:(k:Int)<(NP:Int):=by omega
   have e4:decide ((k:Int)<(NP:Int))=true:=decide_eq_true e3;have HCL:Hid (∀ W,W=wr.drew→Calls Tryz.prog 40 #[.agg #[.string x.nm,.slice ax x.tys.length px],.agg #[.string x.nm,.slice ay x.tys.length py]] W fun e w'=>e=.returned (.bool true)∧Below W.heap.size W w'):=hid (fun W hW=>by
    subst hW;exact qyM x.nm x.tys _ _ _ _ _ hx1 hx2)
   clear he1 he2 hx1 hx2;clear hc1 hc2 hkl hmem;go_upto_region 6 with (fail)
   go_region_law (go_simp;go_at_call 40;(with_reducible refine(HCL.out _ rfl).mono ?_);rintro e w8 ⟨rfl,hb8⟩;have HB8:=hid (HBR.out.trans (((qa0 wr).trans (hb8.mono (Nat.le_refl _))).mono HBR.out.size));clear hb8)
   all_goals
    clear y10 y11 y20 y21 p0 q0 p1 q1;go_wp2;go_roundw
    case rel=>exact⟨k+1,by go_num,by omega,HB8⟩
    case measure=>simp[intOf];omega
  ·obtain rfl:k=NP:=by omega
   have dd:decide ((k:Int)<(k:Int))=false:=decide_eq_false (by omega);clear hk hge;have HST:=HBR;go_wp2
   go_loopw [6] (fun i wr=>∃ k:Nat,i=.int .i64 k∧k≤NT∧Hid (Below W0.heap.size W0 wr)) (fun i _=>NT-(intOf i).toNat)
   case atStart=>exact⟨0,rfl,Nat.zero_le _,HST⟩
   case round =>
    obtain⟨k,rfl,hk,HBR⟩:=hrel;have p0:=(HA.out.keep HBR.out HA.out.lt).c 0 rfl;have q0:=(HB.out.keep HBR.out HB.out.lt).c 0 rfl;have p1:=(HA.out.keep HBR.out HA.out.lt).c 1 rfl;have q1:=(HB.out.keep HBR.out HB.out.lt).c 1 rfl;rcases Nat.lt_or_ge k NT with hlt|hge
    ·have hkl:k<xs.length:=by rw[TN.out];exact hlt
     obtain⟨g1,d1,rfl,he1,hc1⟩:=(T1.out.keep qdY HBR.out (Nat.le_refl _)).at qdY k (xs[k]'hkl) (List.getElem?_eq_getElem hkl);obtain⟨g2,d2,rfl,he2,hc2⟩:=(T2.out.keep qdY HBR.out (Nat.le_refl _)).at qdY k (xs[k]'hkl) (List.getElem?_eq_getElem hkl);have hmem:=qbW (List.getElem?_eq_getElem hkl);generalize xs[k]'hkl=x at *
     obtain⟨ax,px,rfl,hx1⟩:=qe0 he1;obtain⟨ay,py,rfl,hx2⟩:=qe0 he2;have hx1:=hx1.keep qaM (qa0 wr) (Nat.le_refl _);have hx2:=hx2.keep qaM (qa0 wr) (Nat.le_refl _);have y10:wr.cell? ⟨g1,k * 2,none⟩=some (.string x.nm):=by have:=hc1 0 _ rfl;exact this
     have y11:wr.cell? ⟨g1,k * 2+1,none⟩=some (.slice ax x.chords.length px):=by have:=hc1 1 _ rfl;exact this
     have y20:wr.cell? ⟨g2,k * 2,none⟩=some (.string x.nm):=by have:=hc2 0 _ rfl;exact this
     have y21:wr.cell? ⟨g2,k * 2+1,none⟩=some (.slice ay x.chords.length py):=by have:=hc2 1 _ rfl;exact this
     have e2:(0:Int)≤(k:Int):=by omega
     have e3:(k:Int)<(NT:Int):=by omega
     have e4:decide ((k:Int)<(NT:Int))=true:=decide_eq_true e3;have HCL:Hid (∀ W,W=wr.drew→Calls Tryz.prog 41 #[.agg #[.string x.nm,.slice ax x.chords.length px],.agg #[.string x.nm,.slice ay x.chords.length py]] W fun e w'=>e=.returned (.bool true)∧Below W.heap.size W w'):=hid (fun W hW=>by
      subst hW;exact qwF x.nm x.chords (hok x hmem) _ _ _ _ _ hx1 hx2)
     clear he1 he2 hx1 hx2;clear hc1 hc2 hkl hmem;go_upto_region 11 with (fail)
     go_region_law (go_simp;go_at_call 41;(with_reducible refine(HCL.out _ rfl).mono ?_);rintro e w8 ⟨rfl,hb8⟩;have HB8:=hid (HBR.out.trans (((qa0 wr).trans (hb8.mono (Nat.le_refl _))).mono HBR.out.size));clear hb8)
     all_goals
      clear y10 y11 y20 y21 p0 q0 p1 q1;go_wp2;go_roundw
      case rel=>exact⟨k+1,by go_num,by omega,HB8⟩
      case measure=>simp[intOf];omega
    ·obtain rfl:k=NT:=by omega
     have dd:decide ((k:Int)<(k:Int))=false:=decide_eq_false (by omega);clear hk hge;have HST:=HBR;go_wp2;go_ret;exact⟨rfl,HBW.out.trans (HBR.out.mono HBW.out.size)⟩
theorem qq6 {w:World} {c1 c2:List Value} {x:ProgE} (hok:okP x) (h1:qd7 qfR w c1 x) (h2:qd7 qfR w c2 x):Calls Tryz.prog 15 #[.agg c1.toArray,.agg c2.toArray] w (qaT w):=by
 obtain⟨a1,p1,b1,q1,rfl,ht1,hk1⟩:=qdZ h1;obtain⟨a2,p2,b2,q2,rfl,ht2,hk2⟩:=qdZ h2;exact qo5 x.tags x.kinds hok _ _ _ _ _ _ _ _ w ht1 ht2 hk1 hk2
theorem qwI {w:World} {c1 c2:List Value} {x:ChordE} (hok:okC x) (h1:qd7 qbB w c1 x) (h2:qd7 qbB w c2 x):Calls Tryz.prog 18 #[.agg c1.toArray,.agg c2.toArray] w (qaT w):=by
 obtain⟨a1,p1,t1,m1,r1,b1,q1,rfl,ht1,hx1,hk1⟩:=qb4 h1;obtain⟨a2,p2,t2,m2,r2,b2,q2,rfl,ht2,hx2,hk2⟩:=qb4 h2;exact qlF x.nm x.parts x.guard hok.1 x.body hok.2 _ _ _ _ _ _ _ _ _ _ _ _ _ _ w ht1 ht2 hx1 hx2 hk1 hk2
end Go.Proofs.YtenlhcgpajphhaaGreatDoor
