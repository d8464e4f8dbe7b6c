import Derived.Test.YtenlhcgpajphhaaGreatDoorMPoLong
import Derived.Test.YtenlhcgpajphhaaGreatDoorPpNode
import Derived.Test.YtenlhcgpajphhaaGreatDoorMDwAll
import Derived.Test.YtenlhcgpajphhaaGreatDoorMDrKeyword
import Derived.Deep.RegionHeld3
import Derived.Test.YtenlhcgpajphhaaGreatDoorMEpScan
import Derived.Deep.QuietTactic
import Derived.BigQuiet
namespace Go.Proofs.YtenlhcgpajphhaaGreatDoor
open Go.RowKit
open Lib(hid)
set_option maxRecDepth 100000
set_option linter.all false
set_option maxHeartbeats 4000000
section
variable {W0 w:World} {b:Nat} {v:Value} {T:List UInt8}
theorem quN (hS:Sht W0 w b v T) (ps:List ByteArray) (hfew:ps.length≤1000) (hsz:∀ s ∈ ps,s.size≤1000000) {X:List UInt8} (hX:(ps.flatMap fun s=>s.data.toList)=X) :
  Calls Tryz.prog 83 #[.pointer (some ⟨b,0,none⟩),.slice (some ⟨w.heap.size,0,none⟩) ps.length ps.length] (w.alloc (.cells (jc3 ps).toArray 9)) (qk1 W0 b v w (T++X)):=by
 have hb:Below w.heap.size w (w.alloc (.cells (jc3 ps).toArray 9)):=(Below.refl _ w).alloc (Nat.le_refl _) _;have h:=qzM W0 b w.heap.size ps.length v T ps _ (hS.next hb) (Bx.new w _ _) (by have:=hS.box.lt;omega) hS.fresh hfew hsz;rw[hX] at h;exact h.mono fun e w' ⟨he,v',h1,h2⟩=>⟨he,v',h1,(Fr.of_below hb).trans h2⟩
theorem qgU (hS:Sht W0 w b v T) (s1:ByteArray) (h1:s1.size≤1000000):Calls Tryz.prog 83 #[.pointer (some ⟨b,0,none⟩),.slice (some ⟨w.heap.size,0,none⟩) 1 1] (w.alloc (.cells #[.string s1] 9)) (qk1 W0 b v w (T++s1.data.toList)) :=
 quN hS [s1] (by simp) (by simp[h1]) (by simp)
theorem jcK (hS:Sht W0 w b v T) (s1 s2:ByteArray) (h1:s1.size≤1000000) (h2:s2.size≤1000000):Calls Tryz.prog 83 #[.pointer (some ⟨b,0,none⟩),.slice (some ⟨w.heap.size,0,none⟩) 2 2] (w.alloc (.cells #[.string s1,.string s2] 9)) (qk1 W0 b v w (T++(s1.data.toList++s2.data.toList))) :=
 quN hS [s1,s2] (by simp) (by simp[h1,h2]) (by simp)
theorem put3 (hS:Sht W0 w b v T) (s1 s2 s3:ByteArray) (h1:s1.size≤1000000) (h2:s2.size≤1000000) (h3:s3.size≤1000000):Calls Tryz.prog 83 #[.pointer (some ⟨b,0,none⟩),.slice (some ⟨w.heap.size,0,none⟩) 3 3] (w.alloc (.cells #[.string s1,.string s2,.string s3] 9)) (qk1 W0 b v w (T++(s1.data.toList++(s2.data.toList++s3.data.toList)))) :=
 quN hS [s1,s2,s3] (by simp) (by simp[h1,h2,h3]) (by simp)
theorem put4 (hS:Sht W0 w b v T) (s1 s2 s3 s4:ByteArray) (h1:s1.size≤1000000) (h2:s2.size≤1000000) (h3:s3.size≤1000000) (h4:s4.size≤1000000):Calls Tryz.prog 83 #[.pointer (some ⟨b,0,none⟩),.slice (some ⟨w.heap.size,0,none⟩) 4 4] (w.alloc (.cells #[.string s1,.string s2,.string s3,.string s4] 9)) (qk1 W0 b v w (T++(s1.data.toList++(s2.data.toList++(s3.data.toList++s4.data.toList))))) :=
 quN hS [s1,s2,s3,s4] (by simp) (by simp[h1,h2,h3,h4]) (by simp)
end
theorem qxQ (s:ByteArray) (w:World):Calls Tryz.prog 91 #[.string s] w fun e w'=>e=.returned (.string s)∧w=w':=by
 go_enter Tryz.func91,Tryz.ntmps91;go_wp2;go_ret;exact⟨rfl,rfl⟩
theorem q4W {l:Lf} (h:q64 l):(itL [] l).pc.length≤1100:=by
 cases l with
 | int v =>
  show (Lib.decDigits v.toNat).length≤1100;have:=qj3 v.toNat (by have:=h.2;omega);omega
 | real b =>
  obtain⟨m,x,rfl,ho⟩:=h;have hb:=(qg0 ho).1;have h1:=qkX (b:=qaA m x) (by omega);rw[q17 hb] at h1;show (qiS (qaA m x)).length≤1100;have h2:(⟨(qiS (qaA m x)).toArray⟩:ByteArray).size=(qiS (qaA m x)).length:=rfl;omega
 | text t =>
  have h1:t.data.toList.length≤256:=h;show (qdI t.data.toList).length≤1100;unfold qdI;have:=quM t.data.toList;rw[List.length_append];simp;omega
 | bool b=>cases b <;> (show _≤1100;decide)
 | var t =>
  have h:(qd2 t.data.toList && !(t.data.toList==[116,114,117,101]) && !(t.data.toList==[102,97,108,115,101]) && decide (qcX t.data.toList=0))=true:=h;simp only[Bool.and_eq_true] at h;obtain⟨_,_,n3⟩:=qhE h.1.1.1;show t.data.toList.length≤1100;omega
theorem qu2:∀ t:Ex,qq4 t→ubX t≤1100 * cnt t
 | .lf l,h=>by have:=q4W (l:=l) h;unfold ubX cnt;omega
 | .un k a,h=>by have:=qu2 a h;have:=qiI k;unfold ubX cnt;omega
 | .bi k a b,h=>by have:=qu2 a h.1;have:=qu2 b h.2;have:=qiI k;unfold ubX cnt;omega
theorem qlG {t:Ex} (h:q9Z t):(txX t).length≤70400∧cnt t≤64:=by
 have h1:=qu2 t h.2.1;have h2:=q7O t;have h3:cnt t≤64:=by
  rcases qkD t with h|h|h
  ·exact h.2.1
  ·have:=h.symm.trans ‹q9Z t›.2.2;omega
  ·have:=h.symm.trans ‹q9Z t›.2.2;omega
 exact⟨by omega,h3⟩
theorem q9D {lv:Nat} {t:Ex} (h:0<(txX t).length):0<(brB lv t).length:=by
 unfold brB;split
 ·exact h
 ·simp
theorem qz0:∀ t:Ex,WfT t→qq4 t→0<(txX t).length
 | .lf l,_,hl=>by rw[qz1];exact(qv7 (l:=l) hl []).1
 | .un m a,hw,hl=>by
  have ha:=qz0 a hw.2.2 hl;by_cases h:qb3 m=7
  ·rw[qqB h];simp;omega
  ·rw[qu4 h,List.length_append];have:=q9D (lv:=qeN (qb3 m) false) ha;omega
 | .bi m a b,hw,hl=>by
  by_cases h:qb3 m=7
  ·rw[qqA h];simp;omega
  ·rw[q6A h];simp;omega
theorem qkV:∀ t:Ex,WfT t→qq4 t→qyF t
 | .lf l,hw,hl=>qt2 _ hw hl trivial (fun _ h=>absurd rfl (h l)) (fun a h=>by rcases h with ⟨m,h⟩|⟨m,b,h⟩|⟨m,b,h⟩ <;> cases h)
 | .un m a,hw,hl=>by
  have ha:=qkV a hw.2.2 hl;refine qt2 _ hw hl ha (fun h7 hn=>qs3 _ hw h7 hn ha) (fun x h=>?_);rcases h with ⟨_,h⟩|⟨_,_,h⟩|⟨_,_,h⟩ <;> cases h;exact qpT _ hw.2.2 ha
 | .bi m a b,hw,hl=>by
  have ha:=qkV a hw.2.2.1 hl.1;have hb:=qkV b hw.2.2.2 hl.2;refine qt2 _ hw hl ⟨ha,hb⟩ (fun h7 hn=>qs3 _ hw h7 hn ⟨ha,hb⟩) (fun x h=>?_);rcases h with ⟨_,h⟩|⟨_,_,h⟩|⟨_,_,h⟩ <;> cases h
  ·exact qpT _ hw.2.2.1 ha
  ·exact qpT _ hw.2.2.2 hb
theorem Fr.nil_below {w w':World} {v':Value} (h:Fr [] (.slice none 0 0) w w' v'):Below w.heap.size w w':=⟨h.os,h.tape,h.output,h.size,fun x hx=>h.block x hx (by simp) (by simp[Value.ownBlock])⟩
theorem qy0 (W0 w:World) (t:Ex) (g cap:Nat) (hE:Env9 W0) (hg:g<W0.heap.size) (hN:qcO W0 g (lay 0 t)) (hok:q9Z t) (hb:Below W0.heap.size W0 w) :
  Calls Tryz.prog 121 #[.agg #[.slice (some ⟨g,0,none⟩) (cnt t) cap]] w fun e w'=>e=.returned (.tuple #[.string ⟨(txX t).toArray⟩,.int .i64 0])∧Below w.heap.size w w':=by
 obtain⟨hw,hl,hf⟩:=hok;obtain⟨hlen,hc⟩:=qlG ⟨hw,hl,hf⟩;have hp:=qeD t;obtain⟨W1,hW1⟩:∃ W1,W1=w.alloc (.cells #[.slice (some ⟨g,0,none⟩) (cnt t) cap] 41):=⟨_,rfl⟩
 have hb1:Below w.heap.size w W1:=by rw[hW1];exact(Below.refl _ w).alloc (Nat.le_refl _) _
 have hx1:Bx W1 w.heap.size 41 [.slice (some ⟨g,0,none⟩) (cnt t) cap]:=by rw[hW1];exact Bx.new w _ _
 have hbw:=hb.size;have hM:=fun W (hW:Below W0.heap.size W0 W)=>qvR g cap t hw (by omega) W (hN.keep hW hg) (hE.tab.of_block (hW.block _ hE.gp)) (by have:=hE.gp;have:=hW.size;omega) (by have:=hW.size;omega);rw[hf] at hM;have hS:SubT W0 g (lay 0 t) 0 t:=⟨hN,hg,by rw[qaF];exact hc,fun j hj=>by rw[Nat.zero_add]⟩
 have hA:=fun W (hW:Below W0.heap.size W0 W)=>qkV t hw hl W0 W g cap 0 (lay 0 t) (.slice none 0 0) [] hE hS hW (World.ownsRow_nil _ _ _ _) (by simp;omega);rw[qaF,Nat.zero_add] at hA;simp only[List.nil_append] at hA;have hpos:=qz0 t hw hl;generalize hX:txX t=X at *
 generalize hC:cnt t=C at *
 obtain⟨J,hJ⟩:∃ J,J=C-1:=⟨_,rfl⟩
 rw[← hJ] at hA;have hJ1:(C:Int)-1=(J:Int):=by omega
 have c0:=hx1.c 0 rfl;have HM:=hid hM;have HA:=hid hA;have HW1:=hid hW1;have HX1:=hid hx1;have HB0:Hid (Below W0.heap.size W0 W1):=hid (hb.trans (hb1.mono hbw));have HBW:Hid (Below w.heap.size w W1):=hid hb1;have HLX:=hid hlen;clear hM hA hW1 hx1 hb1 hb hS hX hC hJ hw hl hf hlen hN;go_enter Tryz.func121,Tryz.ntmps121;go_upto_region 1 with (fail);rw[← HW1.out];go_wp2_with (first
  | (go_at_call 142;refine(HA.out w2 HB2.out).mono ?_;rintro e w3 ⟨v3,rfl,ho3,hf3⟩;have HF3:=hid (HB2W.out.trans (hf3.nil_below.mono HB2W.out.size));obtain⟨g3,cap3,rfl,_⟩:=ho3.form hpos;have hcv:=qnL ho3 Tryz.underlying22 Tryz.underlying5 Tryz.underlying9;clear ho3 hf3)
  | (go_at_call 141;refine(HM.out W1 HB0.out).mono ?_;rintro e w2 ⟨rfl,hb2⟩;have HB2:=hid (HB0.out.trans (hb2.mono HB0.out.size));have HB2W:=hid (HBW.out.trans (hb2.mono HBW.out.size));have c0:=(HX1.out.keep hb2 HX1.out.lt).c 0 rfl;clear hb2))
 go_ret2
 exact⟨rfl,HF3.out⟩
def q65 (W0:World) (b:Nat) (v:Value) (w:World) (T X:List UInt8) (e:Ending) (w':World):Prop:=e=.returned (.string ⟨X.toArray⟩)∧Sht W0 w' b v T∧Fr [b] v w w' v
theorem qfU (W0 w:World) (b:Nat) (v:Value) (T:List UInt8) (t:Ex) (g cap:Nat) (hE:Env9 W0) (hg:g<W0.heap.size) (hN:qcO W0 g (lay 0 t)) (hok:q9Z t) (hS:Sht W0 w b v T) :
  Calls Tryz.prog 92 #[.pointer (some ⟨b,0,none⟩),.agg #[.slice (some ⟨g,0,none⟩) (cnt t) cap]] w (q65 W0 b v w T (txX t)):=by
 obtain⟨W1,hW1⟩:∃ W1,W1=w.alloc (.cells #[.slice (some ⟨g,0,none⟩) (cnt t) cap] 41):=⟨_,rfl⟩
 have hb1:Below w.heap.size w W1:=by rw[hW1];exact(Below.refl _ w).alloc (Nat.le_refl _) _
 have hx1:Bx W1 w.heap.size 41 [.slice (some ⟨g,0,none⟩) (cnt t) cap]:=by rw[hW1];exact Bx.new w _ _
 have hS1:=hS.next hb1;have HP:=hid (qy0 W0 W1 t g cap hE hg hN hok hS1.bel);have c0:=hx1.c 0 rfl;have HS1:=hid hS1;have HW1:=hid hW1;have HF1:Hid (Fr [b] v w W1 v):=hid (Fr.of_below hb1);generalize txX t=X at *
 generalize cnt t=C at *
 clear hW1 hb1 hx1 hS1 hS hN hok;go_enter Tryz.func92,Tryz.ntmps92;go_upto_region 1 with (fail);rw[← HW1.out];go_wp2_with (first
  | (go_at_call 121;refine HP.out.mono ?_;rintro e w2 ⟨rfl,hb2⟩;have hs2:=HS1.out.next hb2;have b1:=hs2.box.c 1 rfl;have f1:=hs2.box.fz 1;have HS2:=hid hs2;have HF2:=hid (HF1.out.below hb2);clear hb2 hs2))
 go_ret;have hst:Sht W0 (w2.setCell ⟨b,1,none⟩ (.int .i64 0)) b v T:=by
  have h:=HS2.out;exact⟨h.box.set 1 _,qkU h.row (fun x hx=>Below.heap_setCell _ _ _ _ (by show x≠b;rintro rfl;exact h.off hx)),h.base,h.off,h.few,h.bel.setCell h.base _⟩
 exact⟨rfl,hst,HF2.out.setCell (.inl (by simp)) _ _⟩
set_option maxHeartbeats 8000000
theorem qaO {W0 w:World} (hb:Below W0.heap.size W0 w) {p:Addr} {u:Value} (h:W0.cell? p=some u):w.cell? p=some u:=(hb.cell (World.block_lt_of_cell? _ _ h)).trans h
theorem qeP {α:Type} {E:Shp α} {T:TypeId} {s:Nat} {W0:World} {a:Option Addr} {n c:Nat} {xs:List α} (ke:KE E s) (h:qbE E T s W0 (.slice a n c) xs) {k:Nat} {x:α} (hx:xs[k]?=some x) {w:World} (hb:Below W0.heap.size W0 w) :
  ∃ g c1,a=some ⟨g,0,none⟩∧qd7 E W0 c1 x∧∀ j u,c1[j]?=some u→w.cell? ⟨g,k * s+j,none⟩=some u:=by
 obtain⟨g,c1,h1,h2,h3⟩:=h.at ke k x hx;exact⟨g,c1,h1,h2,fun j u hj=>qaO hb (h3 j u hj)⟩
theorem q57 {W0:World} {c1:List Value} {t:Ex} (h:qd7 exE W0 c1 (some t)):∃ g2 c2,c1=[.slice (some ⟨g2,0,none⟩) (cnt t) c2]∧g2<W0.heap.size∧qcO W0 g2 (lay 0 t):=by
 obtain⟨F,⟨v,rfl,_,hr⟩,_⟩:=h;have hr:W0.ownsRow 0 109 9 v (lay 0 t).length (qg3 (lay 0 t)):=hr;rw[qaF] at hr;obtain⟨g,c,rfl,_,hlt,hN⟩:=qlZ (qaF t 0) (qeD t) hr;exact⟨g,c,rfl,hlt,hN⟩
def q9X (b:Nat):Value:=.func (.func 83) #[.pointer (some ⟨b,0,none⟩)] #[]
theorem qtB {T x:List UInt8} {xs:List (List UInt8)} (h:xs≠[]):T++40 :: jnS [44,32] (xs++[x])=(T++40 :: jnS [44,32] xs)++[44,32]++x:=by
 rw[qvA,if_neg h];simp
theorem qpC {T x:List UInt8}:T++40 :: jnS [44,32] ([]++[x])=(T++40 :: jnS [44,32] [])++x:=by
 simp[jnS]
theorem q8H {x:Int} (h:x=1∨x=2∨x=3∨x=4):(qjP x).data.toList=tyN x∧(qjP x).size≤1000000:=by
 rcases h with rfl|rfl|rfl|rfl <;> exact⟨by decide,by decide⟩
theorem Sht.cut {W0 w:World} {b:Nat} {v:Value} {A B:List UInt8} (h:Sht W0 w b v (qg6 (qg6 A++B))):Sht W0 w b v (qg6 (A++B)):=by rw[q5I] at h;exact h
theorem Sht.to {W0 w:World} {b:Nat} {v:Value} {A B:List UInt8} (h:Sht W0 w b v (qg6 A)) (e:A=B):Sht W0 w b v (qg6 B):=e ▸ h
theorem jbT (W0 w:World) (b:Nat) (v:Value) (T:List UInt8) (xs:List Int) (a:Option Addr) (c:Nat) (hL:qbE qrM 3 1 W0 (.slice a xs.length c) xs) (hx:∀ x ∈ xs,x=1∨x=2∨x=3∨x=4) (hS:Sht W0 w b v T) :
  Calls Tryz.prog 84 #[q9X b,.func (.func 85) #[] #[],.slice a xs.length c] w (qk1 W0 b v w (T++brT (xs.map tyN))):=by
 have hfew:=hL.few;have HL:=hid hL;have HH:=hid hx;have HS:=hid hS;generalize hN:xs.length=N at *
 have HN:=hid hN;have z1:(⟨#[40]⟩:ByteArray).size≤1000000:=by decide
 have z2:(⟨#[44,32]⟩:ByteArray).size≤1000000:=by decide
 have z3:(⟨#[41]⟩:ByteArray).size≤1000000:=by decide
 have Z1:=hid z1;have Z2:=hid z2;have Z3:=hid z3;clear hL hx hS hN z1 z2 z3;unfold qk1 q9X;go_enter Tryz.func84,Tryz.ntmps84;go_wp2_with (first
  | (go_at_call 83;refine(qgU HS.out ⟨#[40]⟩ Z1.out).mono ?_;rintro e w1 ⟨rfl,v1,hs1,hf1⟩;have HS1:=hid hs1;have HF1:=hid hf1;clear hs1 hf1))
 go_loopw [13] (fun i wr=>∃ (k:Nat) (v':Value),i=.int .i64 k∧k≤N∧Hid (Sht W0 wr b v' (qg6 (T++40 :: jnS [44,32] ((xs.take k).map tyN))))∧Hid (Fr [b] v w wr v')) (fun i _=>N-(intOf i).toNat)
 case atStart=>exact⟨0,v1,rfl,Nat.zero_le _,hid (HS1.out.to (by simp[jnS])),HF1⟩
 case round =>
  obtain⟨k,v2,rfl,hk,HSR,HFR⟩:=hrel;rcases Nat.lt_or_ge k N with hlt|hge
  ·have hkl:k<xs.length:=by rw[HN.out];exact hlt
   obtain⟨x,hx0⟩:∃ x,xs[k]?=some x:=⟨_,List.getElem?_eq_getElem hkl⟩
   obtain⟨g1,d1,rfl,hel,hcl⟩:=qeP qkB HL.out hx0 HSR.out.bel;have hmem:=qbW hx0;have htk:(xs.take (k+1)).map tyN=(xs.take k).map tyN++[tyN x]:=by rw[qf8 hx0,List.map_append];rfl
   have HTK:=hid htk;have hne:k≠0→(xs.take k).map tyN≠[]:=fun h e=>by
    have:=congrArg List.length e;rw[List.length_map,List.length_take,List.length_nil] at this;omega
   have h00:k=0→(xs.take k).map tyN=[]:=fun h=>by rw[h];rfl
   generalize (xs.take k).map tyN=P at *
   obtain⟨_,⟨_,rfl⟩,_⟩:=hel;have y0:wr.cell? ⟨g1,k,none⟩=some (.int .i64 x):=by have:=hcl 0 _ rfl;simpa using this
   obtain⟨ht,hz⟩:=q8H (HH.out x hmem);have hcall:=fun W=>qmX x W;generalize qjP x=sx at *
   have HT:Hid (sx.data.toList=tyN x):=hid ht;have HZ:=hid hz;have HC:=hid hcall;have HFI:Hid (Fr [b] v2 wr wr v2):=hid (Fr.refl _ _ _);clear ht hz hcall;clear htk hx0 hkl hmem hcl;by_cases hk0:k=0
   ·have hP:=h00 hk0;subst hk0;subst hP;clear hne h00;go_wp2_with (first
     | (go_at_call 83;refine(qgU HS3.out sx HZ.out).mono ?_;rintro e w4 ⟨rfl,v4,hs4,hf4⟩;have HS4:=hid hs4.cut;have HF4:=hid (HF3.out.trans hf4);clear hs4 hf4)
     | (go_at_call 85;refine(HC.out wr).mono ?_;rintro e w3 ⟨rfl,rfl⟩;have HS3:=HSR;have HF3:=HFI))
    go_roundw
    case rel=>exact⟨1,v4,by go_num,by omega,hid (HS4.out.to (by rw[HTK.out,qpC,HT.out])),hid (HFR.out.trans HF4.out)⟩
    case measure=>simp[intOf];omega
   ·have hP:=hne hk0;have HP:=hid hP;have hpos:0<k:=by omega
    clear hne h00 hP hk0;go_wp2_with (first
     | (go_at_call 83;refine(qgU HS6.out sx HZ.out).mono ?_;rintro e w7 ⟨rfl,v7,hs7,hf7⟩;have HS7:=hid hs7.cut;have HF7:=hid (HF6.out.trans hf7);clear hs7 hf7)
     | (go_at_call 85;refine(HC.out w5).mono ?_;rintro e w6 ⟨rfl,rfl⟩;have HS6:=HS5;have HF6:=HF5)
     | (go_at_call 83;refine(qgU HSR.out ⟨#[44,32]⟩ Z2.out).mono ?_;rintro e w5 ⟨rfl,v5,hs5,hf5⟩;have HS5:=hid hs5.cut;have HF5:=hid (HFI.out.trans hf5);clear hs5 hf5))
    go_roundw
    case rel=>exact⟨k+1,v7,by go_num,by omega,hid (HS7.out.to (by rw[HTK.out,qtB HP.out,HT.out])),hid (HFR.out.trans HF7.out)⟩
    case measure=>simp[intOf];omega
  ·obtain rfl:k=N:=by omega
   have hfull:(xs.take k).map tyN=xs.map tyN:=by rw[List.take_of_length_le (by rw[HN.out];exact Nat.le_refl _)]
   rw[hfull] at HSR;clear hfull;go_wp2_with (first
    | (go_at_call 83;refine(qgU HSR.out ⟨#[41]⟩ Z3.out).mono ?_;rintro e w8 ⟨rfl,v8,hs8,hf8⟩;have HS8:=hid hs8.cut;have HF8:=hid (HFR.out.trans hf8);clear hs8 hf8))
   go_end0;exact⟨rfl,v8,HS8.out.to (by unfold brT;simp),HF8.out⟩
theorem q76 (W0 w:World) (b:Nat) (v:Value) (T:List UInt8) (xs:List ByteArray) (a:Option Addr) (c:Nat) (hL:qbE qs7 9 1 W0 (.slice a xs.length c) xs) (hx:∀ x ∈ xs,x.size≤1000000) (hS:Sht W0 w b v T) :
  Calls Tryz.prog 90 #[q9X b,.func (.func 91) #[] #[],.slice a xs.length c] w (qk1 W0 b v w (T++brT (xs.map (fun x=>x.data.toList)))):=by
 have hfew:=hL.few;have HL:=hid hL;have HH:=hid hx;have HS:=hid hS;generalize hN:xs.length=N at *
 have HN:=hid hN;have z1:(⟨#[40]⟩:ByteArray).size≤1000000:=by decide
 have z2:(⟨#[44,32]⟩:ByteArray).size≤1000000:=by decide
 have z3:(⟨#[41]⟩:ByteArray).size≤1000000:=by decide
 have Z1:=hid z1;have Z2:=hid z2;have Z3:=hid z3;clear hL hx hS hN z1 z2 z3;unfold qk1 q9X;go_enter Tryz.func90,Tryz.ntmps90;go_wp2_with (first
  | (go_at_call 83;refine(qgU HS.out ⟨#[40]⟩ Z1.out).mono ?_;rintro e w1 ⟨rfl,v1,hs1,hf1⟩;have HS1:=hid hs1;have HF1:=hid hf1;clear hs1 hf1))
 go_loopw [13] (fun i wr=>∃ (k:Nat) (v':Value),i=.int .i64 k∧k≤N∧Hid (Sht W0 wr b v' (qg6 (T++40 :: jnS [44,32] ((xs.take k).map (fun x=>x.data.toList)))))∧Hid (Fr [b] v w wr v')) (fun i _=>N-(intOf i).toNat)
 case atStart=>exact⟨0,v1,rfl,Nat.zero_le _,hid (HS1.out.to (by simp[jnS])),HF1⟩
 case round =>
  obtain⟨k,v2,rfl,hk,HSR,HFR⟩:=hrel;rcases Nat.lt_or_ge k N with hlt|hge
  ·have hkl:k<xs.length:=by rw[HN.out];exact hlt
   obtain⟨x,hx0⟩:∃ x,xs[k]?=some x:=⟨_,List.getElem?_eq_getElem hkl⟩
   obtain⟨g1,d1,rfl,hel,hcl⟩:=qeP qlH HL.out hx0 HSR.out.bel;have hmem:=qbW hx0;have htk:(xs.take (k+1)).map (fun x=>x.data.toList)=(xs.take k).map (fun x=>x.data.toList)++[x.data.toList]:=by rw[qf8 hx0,List.map_append];rfl
   have HTK:=hid htk;have hne:k≠0→(xs.take k).map (fun x=>x.data.toList)≠[]:=fun h e=>by
    have:=congrArg List.length e;rw[List.length_map,List.length_take,List.length_nil] at this;omega
   have h00:k=0→(xs.take k).map (fun x=>x.data.toList)=[]:=fun h=>by rw[h];rfl
   generalize (xs.take k).map (fun x=>x.data.toList)=P at *
   obtain⟨_,⟨_,rfl⟩,_⟩:=hel;have y0:wr.cell? ⟨g1,k,none⟩=some (.string x):=by have:=hcl 0 _ rfl;simpa using this
   have HZ:=hid (HH.out x hmem);have HC:=hid (fun W=>qxQ x W);have HFI:Hid (Fr [b] v2 wr wr v2):=hid (Fr.refl _ _ _);obtain⟨sx,hsx⟩:∃ sx,sx=x:=⟨_,rfl⟩
   have HT:Hid (sx.data.toList=x.data.toList):=hid (by rw[hsx]);rw[← hsx] at y0 HZ HC;clear hsx;clear htk hx0 hkl hmem hcl;by_cases hk0:k=0
   ·have hP:=h00 hk0;subst hk0;subst hP;clear hne h00;go_wp2_with (first
     | (go_at_call 83;refine(qgU HS3.out sx HZ.out).mono ?_;rintro e w4 ⟨rfl,v4,hs4,hf4⟩;have HS4:=hid hs4.cut;have HF4:=hid (HF3.out.trans hf4);clear hs4 hf4)
     | (go_at_call 91;refine(HC.out wr).mono ?_;rintro e w3 ⟨rfl,rfl⟩;have HS3:=HSR;have HF3:=HFI))
    go_roundw
    case rel=>exact⟨1,v4,by go_num,by omega,hid (HS4.out.to (by rw[HTK.out,qpC,HT.out])),hid (HFR.out.trans HF4.out)⟩
    case measure=>simp[intOf];omega
   ·have hP:=hne hk0;have HP:=hid hP;have hpos:0<k:=by omega
    clear hne h00 hP hk0;go_wp2_with (first
     | (go_at_call 83;refine(qgU HS6.out sx HZ.out).mono ?_;rintro e w7 ⟨rfl,v7,hs7,hf7⟩;have HS7:=hid hs7.cut;have HF7:=hid (HF6.out.trans hf7);clear hs7 hf7)
     | (go_at_call 91;refine(HC.out w5).mono ?_;rintro e w6 ⟨rfl,rfl⟩;have HS6:=HS5;have HF6:=HF5)
     | (go_at_call 83;refine(qgU HSR.out ⟨#[44,32]⟩ Z2.out).mono ?_;rintro e w5 ⟨rfl,v5,hs5,hf5⟩;have HS5:=hid hs5.cut;have HF5:=hid (HFI.out.trans hf5);clear hs5 hf5))
    go_roundw
    case rel=>exact⟨k+1,v7,by go_num,by omega,hid (HS7.out.to (by rw[HTK.out,qtB HP.out,HT.out])),hid (HFR.out.trans HF7.out)⟩
    case measure=>simp[intOf];omega
  ·obtain rfl:k=N:=by omega
   have hfull:(xs.take k).map (fun x=>x.data.toList)=xs.map (fun x=>x.data.toList):=by rw[List.take_of_length_le (by rw[HN.out];exact Nat.le_refl _)]
   rw[hfull] at HSR;clear hfull;go_wp2_with (first
    | (go_at_call 83;refine(qgU HSR.out ⟨#[41]⟩ Z3.out).mono ?_;rintro e w8 ⟨rfl,v8,hs8,hf8⟩;have HS8:=hid hs8.cut;have HF8:=hid (HFR.out.trans hf8);clear hs8 hf8))
   go_end0;exact⟨rfl,v8,HS8.out.to (by unfold brT;simp),HF8.out⟩
theorem q77 (W0 w:World) (b:Nat) (v:Value) (T:List UInt8) (xs:List (Option Ex)) (a:Option Addr) (c:Nat) (hE:Env9 W0) (hL:qbE exE 41 1 W0 (.slice a xs.length c) xs) (hx:∀ x ∈ xs,okO x) (hS:Sht W0 w b v T) :
  Calls Tryz.prog 122 #[q9X b,.func (.func 92) #[.pointer (some ⟨b,0,none⟩)] #[],.slice a xs.length c] w (qk1 W0 b v w (T++brT (xs.map bO))):=by
 have hfew:=hL.few;have HL:=hid hL;have HH:=hid hx;have HS:=hid hS;generalize hN:xs.length=N at *
 have HN:=hid hN;have z1:(⟨#[40]⟩:ByteArray).size≤1000000:=by decide
 have z2:(⟨#[44,32]⟩:ByteArray).size≤1000000:=by decide
 have z3:(⟨#[41]⟩:ByteArray).size≤1000000:=by decide
 have Z1:=hid z1;have Z2:=hid z2;have Z3:=hid z3;clear hL hx hS hN z1 z2 z3;unfold qk1 q9X;go_enter Tryz.func122,Tryz.ntmps122;go_wp2_with (first
  | (go_at_call 83;refine(qgU HS.out ⟨#[40]⟩ Z1.out).mono ?_;rintro e w1 ⟨rfl,v1,hs1,hf1⟩;have HS1:=hid hs1;have HF1:=hid hf1;clear hs1 hf1))
 go_loopw [13] (fun i wr=>∃ (k:Nat) (v':Value),i=.int .i64 k∧k≤N∧Hid (Sht W0 wr b v' (qg6 (T++40 :: jnS [44,32] ((xs.take k).map bO))))∧Hid (Fr [b] v w wr v')) (fun i _=>N-(intOf i).toNat)
 case atStart=>exact⟨0,v1,rfl,Nat.zero_le _,hid (HS1.out.to (by simp[jnS])),HF1⟩
 case round =>
  obtain⟨k,v2,rfl,hk,HSR,HFR⟩:=hrel;rcases Nat.lt_or_ge k N with hlt|hge
  ·have hkl:k<xs.length:=by rw[HN.out];exact hlt
   obtain⟨x,hx0⟩:∃ x,xs[k]?=some x:=⟨_,List.getElem?_eq_getElem hkl⟩
   obtain⟨g1,d1,rfl,hel,hcl⟩:=qeP exK HL.out hx0 HSR.out.bel;have hmem:=qbW hx0;have htk:(xs.take (k+1)).map bO=(xs.take k).map bO++[bO x]:=by rw[qf8 hx0,List.map_append];rfl
   have HTK:=hid htk;have hne:k≠0→(xs.take k).map bO≠[]:=fun h e=>by
    have:=congrArg List.length e;rw[List.length_map,List.length_take,List.length_nil] at this;omega
   have h00:k=0→(xs.take k).map bO=[]:=fun h=>by rw[h];rfl
   generalize (xs.take k).map bO=P at *
   obtain⟨t,rfl,hok⟩:=HH.out x hmem;obtain⟨g2,c2,rfl,hg2,hN2⟩:=q57 hel;have y0:wr.cell? ⟨g1,k,none⟩=some (.slice (some ⟨g2,0,none⟩) (cnt t) c2):=by have:=hcl 0 _ rfl;simpa using this
   obtain⟨W1,hW1⟩:∃ W1,W1=wr.alloc (.cells #[.slice (some ⟨g2,0,none⟩) (cnt t) c2] 41):=⟨_,rfl⟩
   have hb1:Below wr.heap.size wr W1:=by rw[hW1];exact(Below.refl _ wr).alloc (Nat.le_refl _) _
   have hx1:Bx W1 wr.heap.size 41 [.slice (some ⟨g2,0,none⟩) (cnt t) c2]:=by rw[hW1];exact Bx.new wr _ _
   have y1:=hx1.c 0 rfl;have HBX:=hid hx1;have HNB:Hid (wr.heap.size≠b):=hid (by have:=HSR.out.box.lt;omega);have HNV:Hid (v2.ownBlock≠some wr.heap.size):=hid HSR.out.fresh;have HSB:=hid (HSR.out.next hb1);have HFB:Hid (Fr [b] v2 wr W1 v2):=hid (Fr.of_below hb1);have HW1:=hid hW1;have hz:(⟨(txX t).toArray⟩:ByteArray).size≤1000000:=by
    have:=(qlG hok).1;show (txX t).length≤1000000;omega
   have ht:(⟨(txX t).toArray⟩:ByteArray).data.toList=bO (some t):=by simp[bO]
   have hcall:=fun w v T hS=>qfU W0 w b v T t g2 c2 hE hg2 hN2 hok hS;unfold q65 at hcall;generalize (⟨(txX t).toArray⟩:ByteArray)=sx at *
   have HT:=hid ht;have HZ:=hid hz;have HC:=hid hcall;generalize cnt t=C at *
   clear hW1 hb1 hx1 hz ht hcall hN2 hg2 hok hel;clear htk hx0 hkl hmem hcl;by_cases hk0:k=0
   ·have hP:=h00 hk0;subst hk0;subst hP;clear hne h00;go_upto_region 4 with (fail);rw[← HW1.out];go_wp2_with (first
     | (go_at_call 83;refine(qgU HS3.out sx HZ.out).mono ?_;rintro e w4 ⟨rfl,v4,hs4,hf4⟩;have HS4:=hid hs4.cut;have HF4:=hid (HF3.out.trans hf4);clear hs4 hf4)
     | (go_at_call 92;refine(HC.out W1 v2 _ HSB.out).mono ?_;rintro e w3 ⟨rfl,hs3,hf3⟩;have HS3:=hid hs3;have HF3:=hid (HFB.out.trans hf3);clear hs3 hf3))
    go_roundw
    case rel=>exact⟨1,v4,by go_num,by omega,hid (HS4.out.to (by rw[HTK.out,qpC,HT.out])),hid (HFR.out.trans HF4.out)⟩
    case measure=>simp[intOf];omega
   ·have hP:=hne hk0;have HP:=hid hP;have hpos:0<k:=by omega
    clear hne h00 hP hk0;go_upto_region 4 with (fail);rw[← HW1.out];go_wp2_with (first
     | (go_at_call 83;refine(qgU HS6.out sx HZ.out).mono ?_;rintro e w7 ⟨rfl,v7,hs7,hf7⟩;have HS7:=hid hs7.cut;have HF7:=hid (HF6.out.trans hf7);clear hs7 hf7)
     | (go_at_call 92;refine(HC.out w5 v5 _ HS5.out).mono ?_;rintro e w6 ⟨rfl,hs6,hf6⟩;have HS6:=hid hs6;have HF6:=hid (HF5.out.trans hf6);clear hs6 hf6)
     | (go_at_call 83;refine(qgU HSB.out ⟨#[44,32]⟩ Z2.out).mono ?_;rintro e w5 ⟨rfl,v5,hs5,hf5⟩;have HS5:=hid hs5.cut;have HF5:=hid (HFB.out.trans hf5);have y1:=(hf5.bx HBX.out (by simp[HNB.out]) HNV.out).c 0 rfl;clear hs5 hf5))
    go_roundw
    case rel=>exact⟨k+1,v7,by go_num,by omega,hid (HS7.out.to (by rw[HTK.out,qtB HP.out,HT.out])),hid (HFR.out.trans HF7.out)⟩
    case measure=>simp[intOf];omega
  ·obtain rfl:k=N:=by omega
   have hfull:(xs.take k).map bO=xs.map bO:=by rw[List.take_of_length_le (by rw[HN.out];exact Nat.le_refl _)]
   rw[hfull] at HSR;clear hfull;go_wp2_with (first
    | (go_at_call 83;refine(qgU HSR.out ⟨#[41]⟩ Z3.out).mono ?_;rintro e w8 ⟨rfl,v8,hs8,hf8⟩;have HS8:=hid hs8.cut;have HF8:=hid (HFR.out.trans hf8);clear hs8 hf8))
   go_end0;exact⟨rfl,v8,HS8.out.to (by unfold brT;simp),HF8.out⟩
theorem qgA {x:ByteArray} (h:wd8 x):x.size≤1000000:=by
 have h1:x.data.toList.length≤32:=(qhE h.1).2.2;have h2:x.size=x.data.toList.length:=rfl;omega
theorem q1W {W0:World} {a:Option Addr} {m cp:Nat} {t:Ex} (h:qd7 exE W0 [.slice a m cp] (some t)):∃ g2,a=some ⟨g2,0,none⟩∧m=cnt t∧g2<W0.heap.size∧qcO W0 g2 (lay 0 t):=by
 obtain⟨g2,c2,h1,h2,h3⟩:=q57 h;simp only[List.cons.injEq,Value.slice.injEq,and_true] at h1;exact⟨g2,h1.1,h1.2.1,h2,h3⟩
theorem q2Y (W0 w:World) (b:Nat) (v:Value) (T:List UInt8) (x:ActE) (c:List Value) (hH:qd7 qgN W0 c x) (hok:okA8 x) (hE:Env9 W0) (hS:Sht W0 w b v T) :
  Calls Tryz.prog 93 #[.pointer (some ⟨b,0,none⟩),.agg c.toArray] w (qk1 W0 b v w (T++wA x)):=by
 obtain⟨a1,m1,p1,a2,p2,rfl,hto,hargs⟩:=qdO hH;obtain⟨kd,to1,nm,vr,args⟩:=x;obtain⟨W1,hW1⟩:∃ W1,W1=w.alloc (.cells #[.int .i64 kd,.slice a1 m1 p1,.string nm,.string vr,.slice a2 args.length p2] 100):=⟨_,rfl⟩
 have hb1:Below w.heap.size w W1:=by rw[hW1];exact(Below.refl _ w).alloc (Nat.le_refl _) _
 have hx1:Bx W1 w.heap.size 100 [.int .i64 kd,.slice a1 m1 p1,.string nm,.string vr,.slice a2 args.length p2]:=by rw[hW1];exact Bx.new w _ _
 have c0:=hx1.c 0 rfl;have c1:=hx1.c 1 rfl;have c2:=hx1.c 2 rfl;have c3:=hx1.c 3 rfl;have c4:=hx1.c 4 rfl;have HW1:=hid hW1;have HX1:=hid hx1;have HNB:Hid (w.heap.size≠b):=hid (by have:=hS.box.lt;omega);have HNV:Hid (v.ownBlock≠some w.heap.size):=hid hS.fresh;have HS1:=hid (hS.next hb1);have HF1:Hid (Fr [b] v w W1 v):=hid (Fr.of_below hb1);have HTO:=hid hto;have HAR:=hid hargs;have HOK:=hid hok;have hmf:∀ (fn:Fn) (first cap:Array Value) (w:World),(Instr.makeFunc fn first cap).run Tryz.prog w=.ok (.func fn first cap) w:=fun _ _ _ _=>rfl;clear hW1 hb1 hx1 hS hto hargs hH hok;rcases HOK.out.kd with h1|h1|h1|h1 <;> (simp only at h1;subst h1)
 ·obtain⟨t,ht,hto⟩:=HOK.out.to1 rfl;simp only at ht;subst ht;obtain⟨g2,rfl,rfl,hg2,hN2⟩:=q1W HTO.out;have hcall:=fun w v T hS=>qfU W0 w b v T t g2 p1 hE hg2 hN2 hto hS;unfold q65 at hcall;have hz:(⟨(txX t).toArray⟩:ByteArray).size≤1000000:=by
   have:=(qlG hto).1;show (txX t).length≤1000000;omega
  have htx:(⟨(txX t).toArray⟩:ByteArray).data.toList=txX t:=by simp
  generalize (⟨(txX t).toArray⟩:ByteArray)=sx at *
  have HT:=hid htx;have HZ:=hid hz;have HC:=hid hcall;have HZN:=hid (qgA (HOK.out.nm1 (show (1:Int)≠3 by decide)));have HAO:Hid (∀ o ∈ args,okO o):=hid (HOK.out.ar1 (.inl rfl));generalize cnt t=C at *
  clear htx hz hcall hto hg2 hN2;unfold qk1;go_enter Tryz.func93,Tryz.ntmps93;go_upto_region 1 with (fail);rw[← HW1.out];have hs1:=HS1.out;have HSD:=hid (hs1.next (qa0 W1));have HXD:=hid (HX1.out.keep (qa0 W1) HX1.out.lt);have HFD:=hid (HF1.out.drew);have Z1:Hid ((⟨#[115,101,110,100,32]⟩:ByteArray).size≤1000000):=hid (by decide);have Z2:Hid ((⟨#[32]⟩:ByteArray).size≤1000000):=hid (by decide);have Z3:Hid ((⟨#[59]⟩:ByteArray).size≤1000000):=hid (by decide);clear hs1;go_wp2_with fail;generalize w.heap.size=E at *
  go_region_law (first
   | (go_simp;go_at_call 83;refine(put4 HS3.out ⟨#[115,101,110,100,32]⟩ sx ⟨#[32]⟩ nm Z1.out HZ.out Z2.out HZN.out).mono ?_;rintro e w4 ⟨rfl,v4,hs4,hf4⟩;have HS4:=hid hs4;have HF4:=hid (HF3.out.trans hf4);have HX4:=hid (hf4.bx HX3.out (by simp[HNB.out]) HNV.out);have c4:=HX4.out.c 4 rfl;clear hs4 hf4)
   | (go_simp;go_at_call 92;refine(HC.out W1.drew v T HSD.out).mono ?_;rintro e w3 ⟨rfl,hs3,hf3⟩;have HS3:=hid hs3;have HF3:=hid (HFD.out.trans hf3);have HX3:=hid (hf3.bx HXD.out (by simp[HNB.out]) HNV.out);have c2:=HX3.out.c 2 rfl;clear hs3 hf3))
  all_goals
   clear c0 c1 c2 c3 HSD HXD HFD HS1 HX1 HX3 HS3;go_wp2_with (first
    | (go_at_call 83;refine(qgU HS5.out ⟨#[59]⟩ Z3.out).mono ?_;rintro e w6 ⟨rfl,v6,hs6,hf6⟩;have HS6:=hid hs6.cut;have HF6:=hid (HF5.out.trans hf6);clear hs6 hf6)
    | (go_at_call 122;refine(q77 W0 w4 b v4 _ args a2 p2 hE HAR.out HAO.out HS4.out).mono ?_;rintro e w5 ⟨rfl,v5,hs5,hf5⟩;have HS5:=hid hs5.cut;have HF5:=hid (HF4.out.trans hf5);clear hs5 hf5))
   go_end0;refine⟨rfl,v6,HS6.out.to ?_,HF6.out⟩;rw[q7L HAO.out,HT.out];simp
 ·obtain rfl:to1=none:=HOK.out.to0 (show (2:Int)≠1 by decide);have HZN:=hid (qgA (HOK.out.nm1 (show (2:Int)≠3 by decide)));have HZV:=hid (qgA (HOK.out.vr1 rfl));have Z1:Hid ((⟨#[115,112,97,119,110,32]⟩:ByteArray).size≤1000000):=hid (by decide);have Z2:Hid ((⟨#[32,97,115,32]⟩:ByteArray).size≤1000000):=hid (by decide);have Z3:Hid ((⟨#[59]⟩:ByteArray).size≤1000000):=hid (by decide);unfold qk1;go_enter Tryz.func93,Tryz.ntmps93;go_upto_region 1 with (fail);rw[← HW1.out];generalize w.heap.size=E at *
  go_wp2_with (first
   | (go_at_call 83;refine(qgU HS4.out ⟨#[59]⟩ Z3.out).mono ?_;rintro e w6 ⟨rfl,v6,hs6,hf6⟩;have HS6:=hid hs6.cut;have HF6:=hid (HF4.out.trans hf6);clear hs6 hf6)
   | (go_at_call 83;refine(put4 HS1.out ⟨#[115,112,97,119,110,32]⟩ nm ⟨#[32,97,115,32]⟩ vr Z1.out HZN.out Z2.out HZV.out).mono ?_;rintro e w4 ⟨rfl,v4,hs4,hf4⟩;have HS4:=hid hs4;have HF4:=hid (HF1.out.trans hf4);clear hs4 hf4))
  go_end0;refine⟨rfl,v6,HS6.out.to ?_,HF6.out⟩;rw[q3B];simp
 ·have HAO:Hid (∀ o ∈ args,okO o):=hid (HOK.out.ar1 (.inr rfl));have Z1:Hid ((⟨#[114,101,112,108,121]⟩:ByteArray).size≤1000000):=hid (by decide);have Z3:Hid ((⟨#[59]⟩:ByteArray).size≤1000000):=hid (by decide);unfold qk1;go_enter Tryz.func93,Tryz.ntmps93;go_upto_region 1 with (fail);rw[← HW1.out];generalize w.heap.size=E at *
  go_wp2_with (first
   | (go_at_call 83;refine(qgU HS5.out ⟨#[59]⟩ Z3.out).mono ?_;rintro e w6 ⟨rfl,v6,hs6,hf6⟩;have HS6:=hid hs6.cut;have HF6:=hid (HF5.out.trans hf6);clear hs6 hf6)
   | (go_at_call 122;refine(q77 W0 w4 b v4 _ args a2 p2 hE HAR.out HAO.out HS4.out).mono ?_;rintro e w5 ⟨rfl,v5,hs5,hf5⟩;have HS5:=hid hs5.cut;have HF5:=hid (HF4.out.trans hf5);clear hs5 hf5)
   | (go_at_call 83;refine(qgU HS1.out ⟨#[114,101,112,108,121]⟩ Z1.out).mono ?_;rintro e w4 ⟨rfl,v4,hs4,hf4⟩;have HS4:=hid hs4;have HF4:=hid (HF1.out.trans hf4);have HX4:=hid (hf4.bx HX1.out (by simp[HNB.out]) HNV.out);have c4:=HX4.out.c 4 rfl;clear hs4 hf4))
  go_end0;refine⟨rfl,v6,HS6.out.to ?_,HF6.out⟩;rw[q3C HAO.out];simp
 ·have HZN:=hid (qgA (HOK.out.nm1 (show (4:Int)≠3 by decide)));have Z1:Hid ((⟨#[98,101,99,111,109,101,32]⟩:ByteArray).size≤1000000):=hid (by decide);have Z3:Hid ((⟨#[59]⟩:ByteArray).size≤1000000):=hid (by decide);unfold qk1;go_enter Tryz.func93,Tryz.ntmps93;go_upto_region 1 with (fail);rw[← HW1.out];generalize w.heap.size=E at *
  go_wp2_with (first
   | (go_at_call 83;refine(qgU HS4.out ⟨#[59]⟩ Z3.out).mono ?_;rintro e w6 ⟨rfl,v6,hs6,hf6⟩;have HS6:=hid hs6.cut;have HF6:=hid (HF4.out.trans hf6);clear hs6 hf6)
   | (go_at_call 83;refine(jcK HS1.out ⟨#[98,101,99,111,109,101,32]⟩ nm Z1.out HZN.out).mono ?_;rintro e w4 ⟨rfl,v4,hs4,hf4⟩;have HS4:=hid hs4;have HF4:=hid (HF1.out.trans hf4);clear hs4 hf4))
  go_end0;refine⟨rfl,v6,HS6.out.to ?_,HF6.out⟩;rw[qyV];simp
set_option maxHeartbeats 16000000
theorem qmB {W0:World} {a:Option Addr} {m cp:Nat} (h:qd7 exE W0 [.slice a m cp] none):m=0:=by
 obtain⟨F,⟨v,hv,_,hr⟩,_⟩:=h;simp only[List.cons.injEq,and_true] at hv;subst hv;rcases hr.2 with ⟨h1,_⟩|⟨g,cap,cur,h1,_⟩
 ·cases h1;rfl
 ·cases h1;rfl
theorem q50 {T x sep:List UInt8} {xs:List (List UInt8)} (h:xs≠[]):T++jnS sep (xs++[x])=((T++jnS sep xs)++sep)++x:=by
 rw[qvA,if_neg h];simp
theorem q1J {T x sep:List UInt8}:T++jnS sep ([]++[x])=(T++jnS sep [])++x:=by
 simp[jnS]
theorem q8E {x:ByteArray} (h:q9Y x):x.size≤1000000:=by
 rcases h with rfl|h
 ·decide
 ·exact qgA h
theorem qrZ (W0 w:World) (b:Nat) (v:Value) (T:List UInt8) (x:ChordE) (c:List Value) (hH:qd7 qbB W0 c x) (hok:okC8 x) (hE:Env9 W0) (hS:Sht W0 w b v T) :
  Calls Tryz.prog 55 #[.pointer (some ⟨b,0,none⟩),.agg c.toArray] w (qk1 W0 b v w (T++wC x)):=by
 obtain⟨a1,p1,a2,m2,p2,a3,p3,rfl,hparts,hgd,hbody⟩:=qb4 hH;obtain⟨nm,parts,guard,body⟩:=x;obtain⟨W1,hW1⟩:∃ W1,W1=w.alloc (.cells #[.string nm,.slice a1 parts.length p1,.slice a2 m2 p2,.slice a3 body.length p3] 44):=⟨_,rfl⟩
 have hb1:Below w.heap.size w W1:=by rw[hW1];exact(Below.refl _ w).alloc (Nat.le_refl _) _
 have hx1:Bx W1 w.heap.size 44 [.string nm,.slice a1 parts.length p1,.slice a2 m2 p2,.slice a3 body.length p3]:=by rw[hW1];exact Bx.new w _ _
 have c0:=hx1.c 0 rfl;have HW1:=hid hW1;have HX1:=hid hx1;have HNB:Hid (w.heap.size≠b):=hid (by have:=hS.box.lt;omega);have HNV:Hid (v.ownBlock≠some w.heap.size):=hid hS.fresh;have HS1:=hid (hS.next hb1);have HF0:Hid (Fr [b] v w W1 v):=hid (Fr.of_below hb1);have HPL:=hid hparts;have HGD:=hid hgd;have HBL:=hid hbody;have HNM:=hid (qgA hok.nm);have HOP:Hid (∀ p ∈ parts,okP8 p):=hid hok.pt;have HOG:Hid (guard=none∨okO guard):=hid hok.gd;have HOB:Hid (∀ a ∈ body,okA8 a):=hid hok.bd;have fewP:=hparts.few;have fewB:=hbody.few;have hmf:∀ (fn:Fn) (first cap:Array Value) (w:World),(Instr.makeFunc fn first cap).run Tryz.prog w=.ok (.func fn first cap) w:=fun _ _ _ _=>rfl;have Z1:Hid ((⟨#[99,104,111,114,100,32]⟩:ByteArray).size≤1000000):=hid (by decide);have Z2:Hid ((⟨#[58,32]⟩:ByteArray).size≤1000000):=hid (by decide);have Z3:Hid ((⟨#[32,38,32]⟩:ByteArray).size≤1000000):=hid (by decide);have Z4:Hid ((⟨#[32,119,104,101,110,32]⟩:ByteArray).size≤1000000):=hid (by decide);have Z5:Hid ((⟨#[32,123,10]⟩:ByteArray).size≤1000000):=hid (by decide);have Z6:Hid ((⟨#[9,9]⟩:ByteArray).size≤1000000):=hid (by decide);have Z7:Hid ((⟨#[10]⟩:ByteArray).size≤1000000):=hid (by decide);have Z8:Hid ((⟨#[9,125]⟩:ByteArray).size≤1000000):=hid (by decide);generalize hNP:parts.length=NP at *
 generalize hNQ:body.length=NQ at *
 have HNP:=hid hNP;have HNQ:=hid hNQ;clear hW1 hb1 hx1 hS hparts hgd hbody hH hok hNP hNQ;unfold qk1;go_enter Tryz.func55,Tryz.ntmps55;go_upto_region 1 with (fail);rw[← HW1.out];generalize w.heap.size=E at *
 go_wp2_with (first
  | (go_at_call 83;refine(put3 HS1.out ⟨#[99,104,111,114,100,32]⟩ nm ⟨#[58,32]⟩ Z1.out HNM.out Z2.out).mono ?_;rintro e w2 ⟨rfl,v2,hs2,hf2⟩;have HS2:=hid hs2;have HF2:=hid hf2;have hx2:=hf2.bx HX1.out (by simp[HNB.out]) HNV.out;have c1:=hx2.c 1 rfl;clear hs2 hf2 hx2))
 generalize hT0:T++([99,104,111,114,100,32]++(nm.data.toList++[58,32]))=T0 at *
 have HT0:Hid (T++((⟨#[99,104,111,114,100,32]⟩:ByteArray).data.toList++(nm.data.toList++(⟨#[58,32]⟩:ByteArray).data.toList))=T0):=hid hT0;clear hT0 c0
 go_loopw [19] (fun i wr=>∃ (k:Nat) (v':Value),i=.int .i64 k∧k≤NP∧Hid (Sht W0 wr b v' (qg6 (T0++jnS [32,38,32] ((parts.take k).map wPt))))∧Hid (Fr [b] v W1 wr v')) (fun i _=>NP-(intOf i).toNat)
 case atStart=>exact⟨0,v2,rfl,Nat.zero_le _,hid (HS2.out.to (by simp[jnS,← HT0.out])),HF2⟩
 case round =>
  obtain⟨k,v3,rfl,hk,HSR,HFR⟩:=hrel;rcases Nat.lt_or_ge k NP with hlt|hge
  ·have hkl:k<parts.length:=by rw[HNP.out];exact hlt
   obtain⟨y,hy0⟩:∃ y,parts[k]?=some y:=⟨_,List.getElem?_eq_getElem hkl⟩
   obtain⟨g1,d1,rfl,hel,hcl⟩:=qeP qbK HPL.out hy0 HSR.out.bel;have hoy:=HOP.out y (qbW hy0);have HTK:Hid ((parts.take (k+1)).map wPt=(parts.take k).map wPt++[wPt y]):=hid (by rw[qf8 hy0,List.map_append];rfl);have hne:k≠0→(parts.take k).map wPt≠[]:=fun h e=>by
    have:=congrArg List.length e;rw[List.length_map,List.length_take,List.length_nil] at this;omega
   have h00:k=0→(parts.take k).map wPt=[]:=fun h=>by rw[h];rfl
   generalize (parts.take k).map wPt=P at *
   obtain⟨ay,py,rfl,hvs⟩:=qeK hel;have y0:wr.cell? ⟨g1,k * 2,none⟩=some (.string y.tg):=hcl 0 _ rfl;have y1:wr.cell? ⟨g1,k * 2+1,none⟩=some (.slice ay y.vs.length py):=hcl 1 _ rfl;have HVS:=hid hvs;have HVO:Hid (∀ z ∈ y.vs,z.size≤1000000):=hid (fun z hz=>q8E (hoy.vs z hz));have HTG:=hid (qgA hoy.tg);have HWP:Hid (wPt y=y.tg.data.toList++brT (y.vs.map fun b=>b.data.toList)):=hid rfl;obtain⟨W2,hW2⟩:∃ W2,W2=wr.alloc (.cells #[.string y.tg,.slice ay y.vs.length py] 95):=⟨_,rfl⟩
   have hb2:Below wr.heap.size wr W2:=by rw[hW2];exact(Below.refl _ wr).alloc (Nat.le_refl _) _
   have hx2:Bx W2 wr.heap.size 95 [.string y.tg,.slice ay y.vs.length py]:=by rw[hW2];exact Bx.new wr _ _
   have q0:=hx2.c 0 rfl;have q1:=hx2.c 1 rfl;have HX2:=hid hx2;have HNB2:Hid (wr.heap.size≠b):=hid (by have:=HSR.out.box.lt;omega);have HNV2:Hid (v3.ownBlock≠some wr.heap.size):=hid HSR.out.fresh;have HSB:=hid (HSR.out.next hb2);have HFB:Hid (Fr [b] v W1 W2 v3):=hid (HFR.out.below hb2);have HW2:=hid hW2;have HLV:Hid (wr.heap.size<W2.heap.size):=hid hx2.lt;clear hW2 hb2 hx2 hel hcl hoy hvs hy0 hkl;by_cases hk0:k=0
   ·have hP:=h00 hk0;subst hk0;subst hP;clear hne h00;go_upto_region 6 with (fail);rw[← HW2.out];generalize wr.heap.size=E2 at *
    go_wp2_with (first
     | (go_at_call 90;refine(q76 W0 w4 b v4 _ y.vs ay py HVS.out HVO.out HS4.out).mono ?_;rintro e w5 ⟨rfl,v5,hs5,hf5⟩;have HS5:=hid hs5.cut;have HF5:=hid (HF4.out.trans hf5);clear hs5 hf5)
     | (go_at_call 83;refine(qgU HSB.out y.tg HTG.out).mono ?_;rintro e w4 ⟨rfl,v4,hs4,hf4⟩;have HS4:=hid hs4.cut;have HF4:=hid (HFB.out.trans hf4);have q1:=(hf4.bx HX2.out (by simp[HNB2.out]) HNV2.out).c 1 rfl;clear hs4 hf4))
    go_roundw
    case rel=>exact⟨1,v5,by go_num,by omega,hid (HS5.out.to (by rw[HTK.out,q1J,HWP.out];simp)),HF5⟩
    case measure=>simp[intOf];omega
   ·have hP:=hne hk0;have HP:=hid hP;have hpos:0<k:=by omega
    clear hne h00 hP hk0;go_upto_region 6 with (fail);rw[← HW2.out];generalize wr.heap.size=E2 at *
    go_wp2_with (first
     | (go_at_call 90;refine(q76 W0 w5 b v5 _ y.vs ay py HVS.out HVO.out HS5.out).mono ?_;rintro e w6 ⟨rfl,v6,hs6,hf6⟩;have HS6:=hid hs6.cut;have HF6:=hid (HF5.out.trans hf6);clear hs6 hf6)
     | (go_at_call 83;refine(qgU HS4.out y.tg HTG.out).mono ?_;rintro e w5 ⟨rfl,v5,hs5,hf5⟩;have HS5:=hid hs5.cut;have HF5:=hid (HF4.out.trans hf5);have q1:=(hf5.bx HX4.out (by simp[HNB2.out]) HNV4.out).c 1 rfl;clear hs5 hf5)
     | (go_at_call 83;refine(qgU HSB.out ⟨#[32,38,32]⟩ Z3.out).mono ?_;rintro e w4 ⟨rfl,v4,hs4,hf4⟩;have HS4:=hid hs4.cut;have HF4:=hid (HFB.out.trans hf4);have HX4:=hid (hf4.bx HX2.out (by simp[HNB2.out]) HNV2.out);have q0:=HX4.out.c 0 rfl;have HNV4:=hid (hf4.own _ HX2.out.lt HNV2.out);clear hs4 hf4))
    go_roundw
    case rel=>exact⟨k+1,v6,by go_num,by omega,hid (HS6.out.to (by rw[HTK.out,q50 HP.out,HWP.out];simp)),HF6⟩
    case measure=>simp[intOf];omega
  ·obtain rfl:k=NP:=by omega
   have hfull:parts.take k=parts:=List.take_of_length_le (by rw[HNP.out];exact Nat.le_refl _);rw[hfull] at HSR;have hxr:=HFR.out.bx HX1.out (by simp[HNB.out]) HNV.out;have HXR:=hid hxr;have HNR:=hid (HFR.out.own _ HX1.out.lt HNV.out);have c2:=hxr.c 2 rfl;clear hfull hxr hge c1;generalize hJP:jnS [32,38,32] (parts.map wPt)=JP at *
   have HJP:=hid hJP;clear hJP;rcases HOG.out with hg|⟨t,hg,hto⟩
   ·subst hg;obtain rfl:=qmB HGD.out;have HWG:Hid (wG none=[]):=hid rfl;go_wp2_with (first
     | (go_at_call 83;refine(qgU HSR.out ⟨#[32,123,10]⟩ Z5.out).mono ?_;rintro e w4 ⟨rfl,v4,hs4,hf4⟩;have HS4:=hid hs4.cut;have HF4:=hid (HFR.out.trans hf4);have c3:=(hf4.bx HXR.out (by simp[HNB.out]) HNR.out).c 3 rfl;clear hs4 hf4))
    have HS4:=hid (HS4.out.to (B:=T0++JP++wG none++[32,123,10]) (by rw[HWG.out];simp));clear c2;generalize hT1:T0++JP++wG none++[32,123,10]=T1 at *
    have HT1:=hid hT1;clear hT1
    go_loopw [57] (fun i wr=>∃ (j:Nat) (v':Value),i=.int .i64 j∧j≤NQ∧Hid (Sht W0 wr b v' (qg6 (T1++(body.take j).flatMap wAl)))∧Hid (Fr [b] v W1 wr v')) (fun i _=>NQ-(intOf i).toNat)
    case atStart=>exact⟨0,v4,rfl,Nat.zero_le _,hid (HS4.out.to (by simp)),HF4⟩
    case round =>
     obtain⟨j,v5,rfl,hj,HSQ,HFQ⟩:=hrel;rcases Nat.lt_or_ge j NQ with hltj|hgej
     ·have hjl:j<body.length:=by rw[HNQ.out];exact hltj
      obtain⟨y,hy0⟩:∃ y,body[j]?=some y:=⟨_,List.getElem?_eq_getElem hjl⟩
      obtain⟨g1,d1,rfl,hel,hcl⟩:=qeP qeO HBL.out hy0 HSQ.out.bel;have hoy:=HOB.out y (qbW hy0);have hfl:=qjW wAl hy0;have HFL:=hid hfl;have hcall:=fun w v T hS=>q2Y W0 w b v T y d1 hel hoy hE hS;unfold qk1 at hcall;have HWA:Hid (wAl y=[9,9]++(wA y++[10])):=hid rfl;generalize (body.take j).flatMap wAl=P at *
      obtain⟨ax,mx,px,ay,py,rfl,_,_⟩:=qdO hel;have y0:wr.cell? ⟨g1,j * 5,none⟩=some (.int .i64 y.kd):=hcl 0 _ rfl;have y1:wr.cell? ⟨g1,j * 5+1,none⟩=some (.slice ax mx px):=hcl 1 _ rfl;have y2:wr.cell? ⟨g1,j * 5+2,none⟩=some (.string y.nm):=hcl 2 _ rfl;have y3:wr.cell? ⟨g1,j * 5+3,none⟩=some (.string y.vr):=hcl 3 _ rfl;have y4:wr.cell? ⟨g1,j * 5+4,none⟩=some (.slice ay y.args.length py):=hcl 4 _ rfl;have HC:=hid hcall;obtain⟨W2,hW2⟩:∃ W2,W2=wr.alloc (.cells #[.int .i64 y.kd,.slice ax mx px,.string y.nm,.string y.vr,.slice ay y.args.length py] 100):=⟨_,rfl⟩
      have hb2:Below wr.heap.size wr W2:=by rw[hW2];exact(Below.refl _ wr).alloc (Nat.le_refl _) _
      have hx2:Bx W2 wr.heap.size 100 [.int .i64 y.kd,.slice ax mx px,.string y.nm,.string y.vr,.slice ay y.args.length py]:=by rw[hW2];exact Bx.new wr _ _
      have HX2:=hid hx2;have HNB2:Hid (wr.heap.size≠b):=hid (by have:=HSQ.out.box.lt;omega);have HNV2:Hid (v5.ownBlock≠some wr.heap.size):=hid HSQ.out.fresh;have HSB:=hid (HSQ.out.next hb2);have HFB:Hid (Fr [b] v W1 W2 v5):=hid (HFQ.out.below hb2);have HW2:=hid hW2;clear hW2 hb2 hx2 hel hcl hoy hy0 hjl hcall hfl;go_upto_region 17 with (fail);rw[← HW2.out];generalize wr.heap.size=E2 at *
      go_wp2_with (first
       | (go_at_call 83;refine(qgU HS7.out ⟨#[10]⟩ Z7.out).mono ?_;rintro e w8 ⟨rfl,v8,hs8,hf8⟩;have HS8:=hid hs8.cut;have HF8:=hid (HF7.out.trans hf8);clear hs8 hf8)
       | (go_at_call 93;refine(HC.out w6 v6 _ HS6.out).mono ?_;rintro e w7 ⟨rfl,v7,hs7,hf7⟩;have HS7:=hid hs7.cut;have HF7:=hid (HF6.out.trans hf7);clear hs7 hf7)
       | (go_at_call 83;refine(qgU HSB.out ⟨#[9,9]⟩ Z6.out).mono ?_;rintro e w6 ⟨rfl,v6,hs6,hf6⟩;have HS6:=hid hs6.cut;have HF6:=hid (HFB.out.trans hf6);have hx6:=hf6.bx HX2.out (by simp[HNB2.out]) HNV2.out;have q0:=hx6.c 0 rfl;have q1:=hx6.c 1 rfl;have q2:=hx6.c 2 rfl;have q3:=hx6.c 3 rfl;have q4:=hx6.c 4 rfl;clear hs6 hf6 hx6))
      go_roundw
      case rel=>exact⟨j+1,v8,by go_num,by omega,hid (HS8.out.to (by rw[HFL.out,HWA.out];simp)),HF8⟩
      case measure=>simp[intOf];omega
     ·obtain rfl:j=NQ:=by omega
      have hfull:body.take j=body:=List.take_of_length_le (by rw[HNQ.out];exact Nat.le_refl _);rw[hfull] at HSQ;clear hfull hgej;go_wp2_with (first
       | (go_at_call 83;refine(qgU HSQ.out ⟨#[9,125]⟩ Z8.out).mono ?_;rintro e w9 ⟨rfl,v9,hs9,hf9⟩;have HS9:=hid hs9.cut;have HF9:=hid (HFQ.out.trans hf9);clear hs9 hf9))
      go_end0;refine⟨rfl,v9,HS9.out.to ?_,HF0.out.trans HF9.out⟩;rw[← HT1.out,← HT0.out,← HJP.out];show _=T++(([99,104,111,114,100,32]++(nm.data.toList++[58,32]))++(jnS [32,38,32] (parts.map wPt)++(wG none++([32,123,10]++(body.flatMap wAl++[9,125])))))
      simp
   ·subst hg;obtain⟨g2,rfl,rfl,hg2,hN2⟩:=q1W HGD.out;have hcp:0<cnt t:=qeD t;have hcall:=fun w v T hS=>qfU W0 w b v T t g2 p2 hE hg2 hN2 hto hS;unfold q65 at hcall;have hz:(⟨(txX t).toArray⟩:ByteArray).size≤1000000:=by
     have:=(qlG hto).1;show (txX t).length≤1000000;omega
    have htx:(⟨(txX t).toArray⟩:ByteArray).data.toList=txX t:=by simp
    have HWG:Hid (wG (some t)=[32,119,104,101,110,32]++txX t):=hid rfl;generalize (⟨(txX t).toArray⟩:ByteArray)=sx at *
    have HT:=hid htx;have HZ:=hid hz;have HCG:=hid hcall;generalize cnt t=C at *
    clear htx hz hcall hto hg2 hN2;go_wp2_with (first
     | (go_at_call 83;refine(qgU HSH.out ⟨#[32,123,10]⟩ Z5.out).mono ?_;rintro e w4 ⟨rfl,v4,hs4,hf4⟩;have HS4:=hid hs4.cut;have HF4:=hid (HFH.out.trans hf4);have c3:=(hf4.bx HXH.out (by simp[HNB.out]) HNH.out).c 3 rfl;clear hs4 hf4)
     | (go_at_call 83;refine(jcK HSG.out ⟨#[32,119,104,101,110,32]⟩ sx Z4.out HZ.out).mono ?_;rintro e wH ⟨rfl,vH,hsH,hfH⟩;have HSH:=hid hsH.cut;have HFH:=hid (HFG.out.trans hfH);have HXH:=hid (hfH.bx HXG.out (by simp[HNB.out]) HNR.out);have HNH:=hid (hfH.own _ HXG.out.lt HNR.out);clear hsH hfH)
     | (go_at_call 92;refine(HCG.out wr v3 _ HSR.out).mono ?_;rintro e wGG ⟨rfl,hsG,hfG⟩;have HSG:=hid hsG;have HFG:=hid (HFR.out.trans hfG);have HXG:=hid (hfG.bx HXR.out (by simp[HNB.out]) HNR.out);clear hsG hfG))
    have HS4:=hid (HS4.out.to (B:=T0++JP++wG (some t)++[32,123,10]) (by rw[HWG.out];first|rfl|(rw[HT.out];simp)|simp[HT.out]));clear c2;generalize hT1:T0++JP++wG (some t)++[32,123,10]=T1 at *
    have HT1:=hid hT1;clear hT1
    go_loopw [57] (fun i wr=>∃ (j:Nat) (v':Value),i=.int .i64 j∧j≤NQ∧Hid (Sht W0 wr b v' (qg6 (T1++(body.take j).flatMap wAl)))∧Hid (Fr [b] v W1 wr v')) (fun i _=>NQ-(intOf i).toNat)
    case atStart=>exact⟨0,v4,rfl,Nat.zero_le _,hid (HS4.out.to (by simp)),HF4⟩
    case round =>
     obtain⟨j,v5,rfl,hj,HSQ,HFQ⟩:=hrel;rcases Nat.lt_or_ge j NQ with hltj|hgej
     ·have hjl:j<body.length:=by rw[HNQ.out];exact hltj
      obtain⟨y,hy0⟩:∃ y,body[j]?=some y:=⟨_,List.getElem?_eq_getElem hjl⟩
      obtain⟨g1,d1,rfl,hel,hcl⟩:=qeP qeO HBL.out hy0 HSQ.out.bel;have hoy:=HOB.out y (qbW hy0);have hfl:=qjW wAl hy0;have HFL:=hid hfl;have hcall:=fun w v T hS=>q2Y W0 w b v T y d1 hel hoy hE hS;unfold qk1 at hcall;have HWA:Hid (wAl y=[9,9]++(wA y++[10])):=hid rfl;generalize (body.take j).flatMap wAl=P at *
      obtain⟨ax,mx,px,ay,py,rfl,_,_⟩:=qdO hel;have y0:wr.cell? ⟨g1,j * 5,none⟩=some (.int .i64 y.kd):=hcl 0 _ rfl;have y1:wr.cell? ⟨g1,j * 5+1,none⟩=some (.slice ax mx px):=hcl 1 _ rfl;have y2:wr.cell? ⟨g1,j * 5+2,none⟩=some (.string y.nm):=hcl 2 _ rfl;have y3:wr.cell? ⟨g1,j * 5+3,none⟩=some (.string y.vr):=hcl 3 _ rfl;have y4:wr.cell? ⟨g1,j * 5+4,none⟩=some (.slice ay y.args.length py):=hcl 4 _ rfl;have HC:=hid hcall;obtain⟨W2,hW2⟩:∃ W2,W2=wr.alloc (.cells #[.int .i64 y.kd,.slice ax mx px,.string y.nm,.string y.vr,.slice ay y.args.length py] 100):=⟨_,rfl⟩
      have hb2:Below wr.heap.size wr W2:=by rw[hW2];exact(Below.refl _ wr).alloc (Nat.le_refl _) _
      have hx2:Bx W2 wr.heap.size 100 [.int .i64 y.kd,.slice ax mx px,.string y.nm,.string y.vr,.slice ay y.args.length py]:=by rw[hW2];exact Bx.new wr _ _
      have HX2:=hid hx2;have HNB2:Hid (wr.heap.size≠b):=hid (by have:=HSQ.out.box.lt;omega);have HNV2:Hid (v5.ownBlock≠some wr.heap.size):=hid HSQ.out.fresh;have HSB:=hid (HSQ.out.next hb2);have HFB:Hid (Fr [b] v W1 W2 v5):=hid (HFQ.out.below hb2);have HW2:=hid hW2;clear hW2 hb2 hx2 hel hcl hoy hy0 hjl hcall hfl;go_upto_region 17 with (fail);rw[← HW2.out];generalize wr.heap.size=E2 at *
      go_wp2_with (first
       | (go_at_call 83;refine(qgU HS7.out ⟨#[10]⟩ Z7.out).mono ?_;rintro e w8 ⟨rfl,v8,hs8,hf8⟩;have HS8:=hid hs8.cut;have HF8:=hid (HF7.out.trans hf8);clear hs8 hf8)
       | (go_at_call 93;refine(HC.out w6 v6 _ HS6.out).mono ?_;rintro e w7 ⟨rfl,v7,hs7,hf7⟩;have HS7:=hid hs7.cut;have HF7:=hid (HF6.out.trans hf7);clear hs7 hf7)
       | (go_at_call 83;refine(qgU HSB.out ⟨#[9,9]⟩ Z6.out).mono ?_;rintro e w6 ⟨rfl,v6,hs6,hf6⟩;have HS6:=hid hs6.cut;have HF6:=hid (HFB.out.trans hf6);have hx6:=hf6.bx HX2.out (by simp[HNB2.out]) HNV2.out;have q0:=hx6.c 0 rfl;have q1:=hx6.c 1 rfl;have q2:=hx6.c 2 rfl;have q3:=hx6.c 3 rfl;have q4:=hx6.c 4 rfl;clear hs6 hf6 hx6))
      go_roundw
      case rel=>exact⟨j+1,v8,by go_num,by omega,hid (HS8.out.to (by rw[HFL.out,HWA.out];simp)),HF8⟩
      case measure=>simp[intOf];omega
     ·obtain rfl:j=NQ:=by omega
      have hfull:body.take j=body:=List.take_of_length_le (by rw[HNQ.out];exact Nat.le_refl _);rw[hfull] at HSQ;clear hfull hgej;go_wp2_with (first
       | (go_at_call 83;refine(qgU HSQ.out ⟨#[9,125]⟩ Z8.out).mono ?_;rintro e w9 ⟨rfl,v9,hs9,hf9⟩;have HS9:=hid hs9.cut;have HF9:=hid (HFQ.out.trans hf9);clear hs9 hf9))
      go_end0;refine⟨rfl,v9,HS9.out.to ?_,HF0.out.trans HF9.out⟩;rw[← HT1.out,← HT0.out,← HJP.out];show _=T++(([99,104,111,114,100,32]++(nm.data.toList++[58,32]))++(jnS [32,38,32] (parts.map wPt)++(wG (some t)++([32,123,10]++(body.flatMap wAl++[9,125])))))
      simp
open Go.Shelf
theorem q5A (xs:List Int) (v1 v2:Value) (w:World) (h1:qbE qrM 3 1 w v1 xs) (h2:qbE qrM 3 1 w v2 xs):Calls Tryz.prog 119 #[v1,v2] w (qaT w):=by
 obtain⟨a1,c1,rfl⟩:=h1.form;obtain⟨a2,c2,rfl⟩:=h2.form;have hfew:=h1.few;have H1:=hid h1;have H2:=hid h2;have tk:((xs.length:Int)==(xs.length:Int))=true:=beq_self_eq_true _;generalize hN:xs.length=N at *
 have HN:=hid hN;clear h1 h2 hN;unfold qaT;go_enter Tryz.func119,Tryz.ntmps119;go_wp2
 go_loopw [13] (fun i wr=>∃ k:Nat,i=.int .i64 k∧k≤N∧Hid (Below w.heap.size w wr)) (fun i _=>N-(intOf i).toNat)
 case atStart=>exact⟨0,rfl,Nat.zero_le _,hid (Below.refl _ _)⟩
 case round =>
  obtain⟨k,rfl,hk,HBR⟩:=hrel;rcases Nat.lt_or_ge k N with hlt|hge
  ·have hkl:k<xs.length:=by rw[HN.out];exact hlt
   obtain⟨g1,d1,rfl,he1,hc1⟩:=(H1.out.keep qkB HBR.out (Nat.le_refl _)).at qkB k (xs[k]'hkl) (List.getElem?_eq_getElem hkl);obtain⟨g2,d2,rfl,he2,hc2⟩:=(H2.out.keep qkB HBR.out (Nat.le_refl _)).at qkB k (xs[k]'hkl) (List.getElem?_eq_getElem hkl);generalize xs[k]'hkl=x at *
   obtain⟨_,⟨_,rfl⟩,_⟩:=he1;obtain⟨_,⟨_,rfl⟩,_⟩:=he2;have y1:wr.cell? ⟨g1,k,none⟩=some (.int .i64 x):=by have:=hc1 0 _ rfl;rw[Nat.mul_one] at this;exact this
   have y2:wr.cell? ⟨g2,k,none⟩=some (.int .i64 x):=by have:=hc2 0 _ rfl;rw[Nat.mul_one] at this;exact this
   have e2:(0:Int)≤(k:Int):=by omega
   have e3:(k:Int)<(N:Int):=by omega
   have e4:decide ((k:Int)<(N:Int))=true:=decide_eq_true e3;clear hc1 hc2 hkl;go_upto_region 6 with (fail);go_quiet (fail);have HB2:=hid (qgJ HBR.out nq);generalize wr.drewN nq=w2 at HB2 ⊢;clear y1 y2;go_wp2;go_roundw
   case rel=>exact⟨k+1,by go_num,by omega,HB2⟩
   case measure=>simp[intOf];omega
  ·obtain rfl:k=N:=by omega
   have d1:decide ((k:Int)<(k:Int))=false:=decide_eq_false (by omega);clear hk hge;go_wp2;go_ret;exact⟨rfl,HBR.out⟩
theorem q59 (xs:List ByteArray) (v1 v2:Value) (w:World) (h1:qbE qs7 9 1 w v1 xs) (h2:qbE qs7 9 1 w v2 xs):Calls Tryz.prog 123 #[v1,v2] w (qaT w):=by
 obtain⟨a1,c1,rfl⟩:=h1.form;obtain⟨a2,c2,rfl⟩:=h2.form;have hfew:=h1.few;have H1:=hid h1;have H2:=hid h2;have tk:((xs.length:Int)==(xs.length:Int))=true:=beq_self_eq_true _;generalize hN:xs.length=N at *
 have HN:=hid hN;clear h1 h2 hN;unfold qaT;go_enter Tryz.func123,Tryz.ntmps123;go_wp2
 go_loopw [13] (fun i wr=>∃ k:Nat,i=.int .i64 k∧k≤N∧Hid (Below w.heap.size w wr)) (fun i _=>N-(intOf i).toNat)
 case atStart=>exact⟨0,rfl,Nat.zero_le _,hid (Below.refl _ _)⟩
 case round =>
  obtain⟨k,rfl,hk,HBR⟩:=hrel;rcases Nat.lt_or_ge k N with hlt|hge
  ·have hkl:k<xs.length:=by rw[HN.out];exact hlt
   obtain⟨g1,d1,rfl,he1,hc1⟩:=(H1.out.keep qlH HBR.out (Nat.le_refl _)).at qlH k (xs[k]'hkl) (List.getElem?_eq_getElem hkl);obtain⟨g2,d2,rfl,he2,hc2⟩:=(H2.out.keep qlH HBR.out (Nat.le_refl _)).at qlH k (xs[k]'hkl) (List.getElem?_eq_getElem hkl);generalize xs[k]'hkl=x at *
   obtain⟨_,⟨_,rfl⟩,_⟩:=he1;obtain⟨_,⟨_,rfl⟩,_⟩:=he2;have y1:wr.cell? ⟨g1,k,none⟩=some (.string x):=by have:=hc1 0 _ rfl;rw[Nat.mul_one] at this;exact this
   have y2:wr.cell? ⟨g2,k,none⟩=some (.string x):=by have:=hc2 0 _ rfl;rw[Nat.mul_one] at this;exact this
   have e2:(0:Int)≤(k:Int):=by omega
   have e3:(k:Int)<(N:Int):=by omega
   have e4:decide ((k:Int)<(N:Int))=true:=decide_eq_true e3;clear hc1 hc2 hkl;go_upto_region 6 with (fail);go_quiet (fail);have HB2:=hid (qgJ HBR.out nq);generalize wr.drewN nq=w2 at HB2 ⊢;clear y1 y2;go_wp2;go_roundw
   case rel=>exact⟨k+1,by go_num,by omega,HB2⟩
   case measure=>simp[intOf];omega
  ·obtain rfl:k=N:=by omega
   have d1:decide ((k:Int)<(k:Int))=false:=decide_eq_false (by omega);clear hk hge;go_wp2;go_ret;exact⟨rfl,HBR.out⟩
theorem jcQ:∀ (t:Ex) (o:Nat),WfT t→∀ n ∈ lay o t,n.rl=0∨∃ b,b<9218868437227405312∧n.rl=b:=by
 intro t
 induction t with
 | lf l =>
  intro o h n hn;rcases List.mem_singleton.1 hn with rfl;cases l with
  | real b=>exact .inr ⟨b,of_decide_eq_true h,rfl⟩
  | _=>exact .inl rfl
 | un k a ih =>
  intro o h n hn;rcases List.mem_append.1 hn with hn|hn
  ·exact ih o h.2.2 n hn
  ·rcases List.mem_singleton.1 hn with rfl;exact .inl rfl
 | bi k a b iha ihb =>
  intro o h n hn;rcases List.mem_append.1 hn with hn|hn
  ·exact iha o h.2.2.1 n hn
  ·rcases List.mem_append.1 hn with hn|hn
   ·exact ihb _ h.2.2.2 n hn
   ·rcases List.mem_singleton.1 hn with rfl;exact .inl rfl
theorem q28 (ns:List Nd) (g1 g2 c1 c2 N:Nat) (hN:ns.length=N) (hN2:N≤1000000000) (hok:∀ n ∈ ns,eqB n.rl n.rl=true∧n.re=0∧n.im=0) (w:World) (h1:qcO w g1 ns) (h2:qcO w g2 ns) (hg1:g1<w.heap.size) (hg2:g2<w.heap.size) :
  Calls Tryz.prog 124 #[.slice (some ⟨g1,0,none⟩) N c1,.slice (some ⟨g2,0,none⟩) N c2] w (qaT w):=by
 have HN:=hid hN;have HOK:=hid hok;have H1:=hid h1;have H2:=hid h2;clear hN hok h1 h2;unfold qaT;go_enter Tryz.func124,Tryz.ntmps124;go_wp2
 go_loopw [13] (fun i wr=>∃ k:Nat,i=.int .i64 k∧k≤N∧Hid (Below w.heap.size w wr)) (fun i _=>N-(intOf i).toNat)
 case atStart=>exact⟨0,rfl,Nat.zero_le _,hid (Below.refl _ _)⟩
 case round =>
  obtain⟨k,rfl,hk,HBR⟩:=hrel;rcases Nat.lt_or_ge k N with hlt|hge
  ·have hkl:k<ns.length:=by rw[HN.out];exact hlt
   have HC1:=H1.out.keep HBR.out hg1;have HC2:=H2.out.keep HBR.out hg2;obtain⟨hrl,hre,him⟩:=HOK.out (ns.getD k default) (by rw[List.getD_eq_getElem?_getD,List.getElem?_eq_getElem hkl];exact List.getElem_mem hkl);generalize hn:ns.getD k default=n at *
   have HC1:∀ j v,(qaB n)[j]?=some v→wr.cell? ⟨g1,k * 9+j,none⟩=some v:=fun j v hj=>HC1 k j v hkl (by rw[hn];exact hj);have HC2:∀ j v,(qaB n)[j]?=some v→wr.cell? ⟨g2,k * 9+j,none⟩=some v:=fun j v hj=>HC2 k j v hkl (by rw[hn];exact hj);have hq:=fun W=>q6R n hrl hre him W;have x0:wr.cell? ⟨g1,k * 9,none⟩=some (.int .i64 n.k):=HC1 0 _ rfl;have x1:wr.cell? ⟨g1,k * 9+1,none⟩=some (.int .i64 n.a):=HC1 1 _ rfl;have x2:wr.cell? ⟨g1,k * 9+2,none⟩=some (.int .i64 n.b):=HC1 2 _ rfl;have x3:wr.cell? ⟨g1,k * 9+3,none⟩=some (.string n.nm):=HC1 3 _ rfl;have x4:wr.cell? ⟨g1,k * 9+4,none⟩=some (.int .i64 n.vk):=HC1 4 _ rfl;have x5:wr.cell? ⟨g1,k * 9+5,none⟩=some (.int .i64 n.vi):=HC1 5 _ rfl;have x6:wr.cell? ⟨g1,k * 9+6,none⟩=some (.float .f64 n.rl):=HC1 6 _ rfl;have x7:wr.cell? ⟨g1,k * 9+7,none⟩=some (.complex .f64 0 0):=by have:=HC1 7 _ rfl;rw[hre,him] at this;exact this
   have x8:wr.cell? ⟨g1,k * 9+8,none⟩=some (.string n.tx):=HC1 8 _ rfl;have y0:wr.cell? ⟨g2,k * 9,none⟩=some (.int .i64 n.k):=HC2 0 _ rfl;have y1:wr.cell? ⟨g2,k * 9+1,none⟩=some (.int .i64 n.a):=HC2 1 _ rfl;have y2:wr.cell? ⟨g2,k * 9+2,none⟩=some (.int .i64 n.b):=HC2 2 _ rfl;have y3:wr.cell? ⟨g2,k * 9+3,none⟩=some (.string n.nm):=HC2 3 _ rfl;have y4:wr.cell? ⟨g2,k * 9+4,none⟩=some (.int .i64 n.vk):=HC2 4 _ rfl;have y5:wr.cell? ⟨g2,k * 9+5,none⟩=some (.int .i64 n.vi):=HC2 5 _ rfl;have y6:wr.cell? ⟨g2,k * 9+6,none⟩=some (.float .f64 n.rl):=HC2 6 _ rfl;have y7:wr.cell? ⟨g2,k * 9+7,none⟩=some (.complex .f64 0 0):=by have:=HC2 7 _ rfl;rw[hre,him] at this;exact this
   have y8:wr.cell? ⟨g2,k * 9+8,none⟩=some (.string n.tx):=HC2 8 _ rfl;have e2:(0:Int)≤(k:Int):=by omega
   have e3:(k:Int)<(N:Int):=by omega
   have e4:decide ((k:Int)<(N:Int))=true:=decide_eq_true e3;clear HC1 HC2 hn hre him hrl hkl;go_upto_region 6 with (fail);go_quiet (fail);have HB2:=hid (qgJ HBR.out nq);generalize wr.drewN nq=w2 at HB2 ⊢;clear x0 x1 x2 x3 x4 x5 x6 x7 x8 y0 y1 y2 y3 y4 y5 y6 y7 y8 hq;go_wp2;go_roundw
   case rel=>exact⟨k+1,by go_num,by omega,HB2⟩
   case measure=>simp[intOf];omega
  ·obtain rfl:k=N:=by omega
   have d1:decide ((k:Int)<(k:Int))=false:=decide_eq_false (by omega);clear hk hge;go_wp2;go_ret;exact⟨rfl,HBR.out⟩
theorem q91 (a1 a2:Option Addr) (c1 c2:Nat) (w:World):Calls Tryz.prog 124 #[.slice a1 0 c1,.slice a2 0 c2] w (qaT w):=by
 unfold qaT;go_enter Tryz.func124,Tryz.ntmps124;go_wp2
 go_loopw [13] (fun i wr=>i=.int .i64 0∧Hid (Below w.heap.size w wr)) (fun _ _=>0)
 case atStart=>exact⟨rfl,hid (Below.refl _ _)⟩
 case round =>
  obtain⟨rfl,HBR⟩:=hrel;go_wp2;go_ret;exact⟨rfl,HBR.out⟩
theorem q10 {t:Ex} (h:WfT t):∀ n ∈ lay 0 t,eqB n.rl n.rl=true∧n.re=0∧n.im=0:=fun n hn=>by
 obtain⟨h1,h2,h3⟩:=q0Y t 0 h n hn;refine⟨?_,h1,h2⟩;rcases jcQ t 0 h n hn with h|⟨b,hb,h⟩
 ·rw[h];exact q70
 ·rw[h];exact ql6 hb
theorem jbL (o:Option Ex) (ho:okE o) (v1 v2:Value) (w:World) (h1:qd7 exE w [v1] o) (h2:qd7 exE w [v2] o):Calls Tryz.prog 124 #[v1,v2] w (qaT w):=by
 cases o with
 | none =>
  obtain⟨a1,m1,p1,e1⟩:=qeQ h1;obtain⟨a2,m2,p2,e2⟩:=qeQ h2;cases e1;cases e2;obtain rfl:=qmB h1;obtain rfl:=qmB h2;exact q91 _ _ _ _ _
 | some t =>
  obtain⟨hw,hc⟩:=ho t rfl;obtain⟨g1,c1,e1,l1,n1⟩:=q57 h1;obtain⟨g2,c2,e2,l2,n2⟩:=q57 h2;cases e1;cases e2;exact q28 (lay 0 t) g1 g2 c1 c2 (cnt t) (qaF t 0) (by omega) (q10 hw) w n1 n2 l1 l2
theorem qoJ (o:Option Ex) (ho:okE o) (v1 v2:Value) (w:World) (h1:qd7 exE w [v1] o) (h2:qd7 exE w [v2] o):Calls Tryz.prog 96 #[.agg #[v1],.agg #[v2]] w (qaT w):=by
 obtain⟨a1,m1,p1,e1⟩:=qeQ h1;obtain⟨a2,m2,p2,e2⟩:=qeQ h2;cases e1;cases e2;obtain⟨W0,hW0,ha,hb,hB,hsz⟩:=qm0 w 41 [.slice a1 m1 p1] [.slice a2 m2 p2];have HC:=hid (jbL o ho _ _ W0 (h1.keep exK hB (Nat.le_refl _)) (h2.keep exK hB (Nat.le_refl _)));have HW0:=hid hW0;have HB:=hid hB;have p0:=ha.c 0 rfl;have q0:=hb.c 0 rfl;clear hW0 ha hb hB hsz h1 h2 ho;unfold qaT at HC ⊢;go_enter Tryz.func96,Tryz.ntmps96;go_upto_region 1 with (fail);rw[← HW0.out];go_wp2_with (go_at_call 124;refine HC.out.mono ?_;rintro e w1 ⟨rfl,hb1⟩;have HB1:=hid (HB.out.trans (hb1.mono HB.out.size));clear hb1);go_ret;exact⟨rfl,HB1.out⟩
end Go.Proofs.YtenlhcgpajphhaaGreatDoor
