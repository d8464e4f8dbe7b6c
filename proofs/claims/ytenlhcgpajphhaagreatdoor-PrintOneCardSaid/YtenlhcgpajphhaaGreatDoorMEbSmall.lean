import Derived.Test.YtenlhcgpajphhaaGreatDoorMQuotePlain
import Derived.Test.YtenlhcgpajphhaaGreatDoorRows
import Derived.WalkKit
import Derived.WalkSpells
import Derived.WalkLawsBesides
import Derived.Lib.Hide
import Derived.Deep.Cut
import Derived.Deep.RegionHeld3
import Derived.Deep.RegionWith
import Derived.Below
import Derived.Laws.AppendOwn
import Derived.Deep.RegionLaw
import Derived.Deep.AppendLies
import Derived.Deep.LoopGhost
namespace Go.Proofs.YtenlhcgpajphhaaGreatDoor
open Go.RowKit
set_option maxRecDepth 100000
set_option linter.all false
set_option maxHeartbeats 4000000
theorem qbT (s:ByteArray):s.toList=s.data.toList:=by
 cases s with
 | mk d=>rw[← Array.toArray_toList (xs:=d),ByteArray.toList_mk]
theorem qtM (s:ByteArray) (w:World):Calls Tryz.prog 154 #[.string s] w fun e w'=>e=.returned (.int .i64 (opK s.data.toList:Nat))∧w=w':=by
 rw[← qbT];cases h0:(s.toList==[124,124]) with
 | true =>
  have e:opK s.toList=17:=by rw[eq_of_beq h0];rfl
  rw[e];clear e;go_enter Tryz.func154,Tryz.ntmps154;go_wp2;go_ret;exact⟨rfl,rfl⟩
 | false =>
 cases h1:(s.toList==[38,38]) with
 | true =>
  have e:opK s.toList=16:=by rw[eq_of_beq h1];rfl
  rw[e];clear e;go_enter Tryz.func154,Tryz.ntmps154;go_wp2;go_ret;exact⟨rfl,rfl⟩
 | false =>
 cases h2:(s.toList==[61,61]) with
 | true =>
  have e:opK s.toList=10:=by rw[eq_of_beq h2];rfl
  rw[e];clear e;go_enter Tryz.func154,Tryz.ntmps154;go_wp2;go_ret;exact⟨rfl,rfl⟩
 | false =>
 cases h3:(s.toList==[33,61]) with
 | true =>
  have e:opK s.toList=11:=by rw[eq_of_beq h3];rfl
  rw[e];clear e;go_enter Tryz.func154,Tryz.ntmps154;go_wp2;go_ret;exact⟨rfl,rfl⟩
 | false =>
 cases h4:(s.toList==[60]) with
 | true =>
  have e:opK s.toList=12:=by rw[eq_of_beq h4];rfl
  rw[e];clear e;go_enter Tryz.func154,Tryz.ntmps154;go_wp2;go_ret;exact⟨rfl,rfl⟩
 | false =>
 cases h5:(s.toList==[60,61]) with
 | true =>
  have e:opK s.toList=13:=by rw[eq_of_beq h5];rfl
  rw[e];clear e;go_enter Tryz.func154,Tryz.ntmps154;go_wp2;go_ret;exact⟨rfl,rfl⟩
 | false =>
 cases h6:(s.toList==[62]) with
 | true =>
  have e:opK s.toList=14:=by rw[eq_of_beq h6];rfl
  rw[e];clear e;go_enter Tryz.func154,Tryz.ntmps154;go_wp2;go_ret;exact⟨rfl,rfl⟩
 | false =>
 cases h7:(s.toList==[62,61]) with
 | true =>
  have e:opK s.toList=15:=by rw[eq_of_beq h7];rfl
  rw[e];clear e;go_enter Tryz.func154,Tryz.ntmps154;go_wp2;go_ret;exact⟨rfl,rfl⟩
 | false =>
 cases h8:(s.toList==[43]) with
 | true =>
  have e:opK s.toList=5:=by rw[eq_of_beq h8];rfl
  rw[e];clear e;go_enter Tryz.func154,Tryz.ntmps154;go_wp2;go_ret;exact⟨rfl,rfl⟩
 | false =>
 cases h9:(s.toList==[45]) with
 | true =>
  have e:opK s.toList=6:=by rw[eq_of_beq h9];rfl
  rw[e];clear e;go_enter Tryz.func154,Tryz.ntmps154;go_wp2;go_ret;exact⟨rfl,rfl⟩
 | false =>
 cases h10:(s.toList==[42]) with
 | true =>
  have e:opK s.toList=7:=by rw[eq_of_beq h10];rfl
  rw[e];clear e;go_enter Tryz.func154,Tryz.ntmps154;go_wp2;go_ret;exact⟨rfl,rfl⟩
 | false =>
 cases h11:(s.toList==[47]) with
 | true =>
  have e:opK s.toList=8:=by rw[eq_of_beq h11];rfl
  rw[e];clear e;go_enter Tryz.func154,Tryz.ntmps154;go_wp2;go_ret;exact⟨rfl,rfl⟩
 | false =>
 cases h12:(s.toList==[37]) with
 | true =>
  have e:opK s.toList=9:=by rw[eq_of_beq h12];rfl
  rw[e];clear e;go_enter Tryz.func154,Tryz.ntmps154;go_wp2;go_ret;exact⟨rfl,rfl⟩
 | false =>
 have e:opK s.toList=0:=by
  have f:∀ l,(s.toList==l)=false→s.toList≠l:=fun l h=>beq_eq_false_iff_ne.1 h;unfold opK;rw[if_neg (f _ h0),if_neg (f _ h1),if_neg (f _ h2),if_neg (f _ h3),if_neg (f _ h4),if_neg (f _ h5),if_neg (f _ h6),if_neg (f _ h7),if_neg (f _ h8),if_neg (f _ h9),if_neg (f _ h10),if_neg (f _ h11),if_neg (f _ h12)]
 rw[e];clear e;go_enter Tryz.func154,Tryz.ntmps154;go_wp2;go_ret;exact⟨rfl,rfl⟩
theorem qg1 (l:Nat) (hl:l≤7) (b:Bool) (w:World):Calls Tryz.prog 156 #[.int .i64 l,.bool b] w fun e w'=>e=.returned (.int .i64 (qeN l b:Nat))∧w=w':=by
 by_cases h3:l=3
 ·subst h3;cases b
  ·go_enter Tryz.func156,Tryz.ntmps156;go_wp2;go_ret;exact⟨rfl,rfl⟩
  ·go_enter Tryz.func156,Tryz.ntmps156;go_wp2;go_ret;exact⟨rfl,rfl⟩
 ·have t3:((l:Int)==3)=false:=beq_eq_false_iff_ne.2 (by omega);cases b
  ·have e:qeN l false=l:=by unfold qeN;rw[if_neg (by simp[h3])]
   rw[e];clear e h3;go_enter Tryz.func156,Tryz.ntmps156;go_wp2;go_ret;exact⟨rfl,rfl⟩
  ·have e:qeN l true=l+1:=by unfold qeN;rw[if_pos (.inl rfl)]
   have e2:((l+1:Nat):Int)=(l:Int)+1:=by omega
   rw[e,e2];clear e h3 e2;go_enter Tryz.func156,Tryz.ntmps156;go_wp2;go_ret;exact⟨rfl,rfl⟩
def Rdr (w:World) (p:Nat) (tv:Value) (at_:Nat) (nv:Value):Prop:=w.heap[p]?=some (.cells #[tv,.int .i64 at_,nv] 192 (0,0))
theorem Rdr.c0 {w:World} {p:Nat} {tv nv:Value} {k:Nat} (h:Rdr w p tv k nv):w.cell? ⟨p,0,none⟩=some tv:=by rw[cell_of_row w p 0 _ _ _ h];rfl
theorem Rdr.c1 {w:World} {p:Nat} {tv nv:Value} {k:Nat} (h:Rdr w p tv k nv):w.cell? ⟨p,1,none⟩=some (.int .i64 k):=by rw[cell_of_row w p 1 _ _ _ h];rfl
theorem Rdr.c2 {w:World} {p:Nat} {tv nv:Value} {k:Nat} (h:Rdr w p tv k nv):w.cell? ⟨p,2,none⟩=some nv:=by rw[cell_of_row w p 2 _ _ _ h];rfl
theorem Rdr.fz {w:World} {p:Nat} {tv nv:Value} {k:Nat} (h:Rdr w p tv k nv) {o:Nat}:w.frozen? ⟨p,o,none⟩=false:=by rw[World.frozen?];simp[show w.heap[p]?=_ from h]
theorem Rdr.lt {w:World} {p:Nat} {tv nv:Value} {k:Nat} (h:Rdr w p tv k nv):p<w.heap.size:=by
 rcases Nat.lt_or_ge p w.heap.size with h'|h'
 ·exact h'
 ·unfold Rdr at h;rw[Array.getElem?_eq_none h'] at h;cases h
theorem Rdr.keep {w w':World} {B p:Nat} {tv nv:Value} {k:Nat} (h:Rdr w p tv k nv) (hb:Below B w w') (hg:p<B):Rdr w' p tv k nv:=(hb.block p hg).trans h
def qw7 (w:World) (a:Option Addr) (L:List TokE):Prop:=∀ i,i<L.length→∃ x,a=some x∧w.cell? (x.add (i * 6))=some (.int .i64 (L.getD i default).kd)∧w.cell? ⟨(x.add (i * 6)).block,(x.add (i * 6)).off+1,none⟩=some (.string (L.getD i default).tx) ∧
 w.cell? ⟨(x.add (i * 6)).block,(x.add (i * 6)).off+2,none⟩=some (.int .i64 (L.getD i default).iv)∧w.cell? ⟨(x.add (i * 6)).block,(x.add (i * 6)).off+3,none⟩=some (.float .f64 (L.getD i default).rl) ∧
 w.cell? ⟨(x.add (i * 6)).block,(x.add (i * 6)).off+4,none⟩=some (.int .i64 (L.getD i default).pl)∧w.cell? ⟨(x.add (i * 6)).block,(x.add (i * 6)).off+5,none⟩=some (.int .i64 (L.getD i default).sz)
theorem qa0 (w:World):Below w.heap.size w w.drew:=(Below.refl _ w).drew
theorem qp5 (p cap k:Nat) (a:Option Addr) (L:List TokE) (nv:Value) (w:World) (hr:Rdr w p (.slice a L.length cap) k nv) (hT:qw7 w a L) (hn:L.length≤140737488355328) :
  Calls Tryz.prog 155 #[.pointer (some ⟨p,0,none⟩)] w fun e w'=>e=.returned (.string (qgX L k))∧Below w.heap.size w w':=by
 have c0:=hr.c0;have c1:=hr.c1;have C0:w.drew.cell? ⟨p,0,none⟩=some (.slice a L.length cap):=c0;have C1:w.drew.cell? ⟨p,1,none⟩=some (.int .i64 k):=c1;by_cases hk:k<L.length
 ·obtain⟨x,rfl,h0,h1,_,_,_,_⟩:=hT k hk;have H1:w.drew.drew.cell? ⟨(x.add (k * 6)).block,(x.add (k * 6)).off+1,none⟩=some (.string (L.getD k default).tx):=h1;have d1:decide ((k:Int)<(L.length:Int))=true:=decide_eq_true (by omega);have hm:qgX L k=if (L.getD k default).kd=5 then (L.getD k default).tx else ⟨#[]⟩:=by
   unfold qgX;by_cases h5:(L.getD k default).kd=5
   ·rw[if_pos ⟨hk,h5⟩,if_pos h5]
   ·rw[if_neg (fun h=>h5 h.2),if_neg h5]
  rw[hm];generalize L.getD k default=t at h0 h1 H1;generalize L.length=n at c0 C0 hk d1 hn ⊢;clear hr hT hm;by_cases h5:t.kd=5
  ·rw[if_pos h5];rw[h5] at h0;clear h5;generalize t.tx=tx at h1 H1 ⊢;go_enter Tryz.func155,Tryz.ntmps155;go_upto_region 1 with (fail);go_region
   all_goals go_wp2
   all_goals go_region
   all_goals go_wp2
   all_goals go_ret
   all_goals exact⟨rfl,((Below.refl _ w).drew).drew⟩
  ·rw[if_neg h5];have d5:(t.kd==5)=false:=beq_eq_false_iff_ne.2 h5;clear h5;generalize t.kd=kd at h0 d5;go_enter Tryz.func155,Tryz.ntmps155;go_upto_region 1 with (fail);go_region
   all_goals go_wp2
   all_goals go_ret
   all_goals exact⟨rfl,(Below.refl _ w).drew⟩
 ·have d1:decide ((k:Int)<(L.length:Int))=false:=decide_eq_false (by omega);have hm:qgX L k=⟨#[]⟩:=by unfold qgX;rw[if_neg (fun h=>hk h.1)]
  rw[hm];generalize L.length=n at c0 C0 hk d1 hn ⊢;clear hr hT hm;go_enter Tryz.func155,Tryz.ntmps155;go_upto_region 1 with (fail);go_region
  all_goals go_wp2
  all_goals go_ret
  all_goals exact⟨rfl,(Below.refl _ w).drew⟩
open Lib(hid)
theorem qdB {w w':World} {B base size n:Nat} {e:TypeId} {v:Value} {xs:List Value} (h:w.ownsRow base e size v n xs) (hb:Below B w w') (hB:w.heap.size≤B):w'.ownsRow base e size v n xs:=by
 refine⟨h.1,?_⟩;rcases h.2 with hn|⟨g,cap,cur,rfl,hbs,hgg,rest⟩
 ·exact .inl hn
 ·refine .inr ⟨g,cap,cur,rfl,hbs,?_,rest⟩;rw[hb.block g (by have:=(Array.getElem?_eq_some_iff.1 hgg).1;omega)];exact hgg
def Tab (w:World):Prop:=∀ i,i<27→w.cell? ⟨0,i * 3,none⟩=some (.string ⟨(qcF i).toArray⟩)∧w.cell? ⟨0,i * 3+1,none⟩=some (.int .i64 (qb3 i:Nat))∧w.cell? ⟨0,i * 3+2,none⟩=some (.int .i64 (qeJ i:Nat))
theorem Tab.of_block {w w':World} (h:Tab w) (hb:w'.heap[0]?=w.heap[0]?):Tab w':=fun i hi=>by
 obtain⟨h0,h1,h2⟩:=h i hi;exact⟨(World.cell?_of_block (a:=⟨0,_,none⟩) hb).trans h0,(World.cell?_of_block (a:=⟨0,_,none⟩) hb).trans h1,(World.cell?_of_block (a:=⟨0,_,none⟩) hb).trans h2⟩
structure St (w:World) (p cap:Nat) (a:Option Addr) (L:List TokE) (k:Nat) (nv:Value) (ns:List Nd):Prop where
 rdr:Rdr w p (.slice a L.length cap) k nv
 toks:qw7 w a L
 low:∀ x,a=some x→∀ n,(x.add n).block<p
 row:w.ownsRow (p+1) 109 9 nv ns.length (qg3 ns)
 len:L.length≤140737488355328
 at_:k≤L.length
 tab:Tab w
 gp:0<p
theorem St.below {w w':World} {p cap k:Nat} {a:Option Addr} {L:List TokE} {nv:Value} {ns:List Nd} (h:St w p cap a L k nv ns) (hb:Below w.heap.size w w'):St w' p cap a L k nv ns:=by
 refine⟨h.rdr.keep hb h.rdr.lt,fun i hi=>?_,h.low,qdB h.row hb (Nat.le_refl _),h.len,h.at_,h.tab.of_block (hb.block _ (Nat.lt_trans h.gp h.rdr.lt)),h.gp⟩;obtain⟨x,hx,h0,h1,h2,h3,h4,h5⟩:=h.toks i hi;have hl:(x.add (i * 6)).block<w.heap.size:=Nat.lt_trans (h.low x hx _) h.rdr.lt;exact⟨x,hx,(hb.cell hl).trans h0,(hb.cell (p:=⟨(x.add (i * 6)).block,_,none⟩) hl).trans h1,(hb.cell (p:=⟨(x.add (i * 6)).block,_,none⟩) hl).trans h2,(hb.cell (p:=⟨(x.add (i * 6)).block,_,none⟩) hl).trans h3,(hb.cell (p:=⟨(x.add (i * 6)).block,_,none⟩) hl).trans h4,(hb.cell (p:=⟨(x.add (i * 6)).block,_,none⟩) hl).trans h5⟩
theorem St.move {w:World} {p cap k:Nat} {a:Option Addr} {L:List TokE} {nv:Value} {ns:List Nd} (h:St w p cap a L k nv ns) (k':Nat) (hk:k'≤L.length):St (w.setCell ⟨p,1,none⟩ (.int .i64 k')) p cap a L k' nv ns:=by
 refine⟨heap_setCell_same w p 1 _ _ (.int .i64 k') h.rdr,fun i hi=>?_,h.low,ownsRow_setCell_below h.row (by show p<p+1;omega) _,h.len,hk,h.tab.of_block (Below.heap_setCell _ _ _ _ (by show _≠p;have:=h.gp;omega)),h.gp⟩;obtain⟨x,hx,h0,h1,h2,h3,h4,h5⟩:=h.toks i hi;have hlow:=h.low x hx (i * 6);have hne:∀ o,(⟨p,1,none⟩:Addr)≠⟨(x.add (i * 6)).block,o,none⟩:=fun o e=>by
  have:=congrArg Addr.block e;simp only at this;omega
 have hne0:(⟨p,1,none⟩:Addr)≠x.add (i * 6):=fun e=>by
  have:=congrArg Addr.block e;simp only at this;omega
 exact⟨x,hx,(World.cell?_setCell_other _ _ _ _ hne0).trans h0,(World.cell?_setCell_other _ _ _ _ (hne _)).trans h1,(World.cell?_setCell_other _ _ _ _ (hne _)).trans h2,(World.cell?_setCell_other _ _ _ _ (hne _)).trans h3,(World.cell?_setCell_other _ _ _ _ (hne _)).trans h4,(World.cell?_setCell_other _ _ _ _ (hne _)).trans h5⟩
def qbO (k:Nat) (fault:Int):Ending:=.panicked [{ v:=.iface 190 (.agg #[.int .i64 k,.int .i64 fault]),recovered:=false }]
theorem ql3 (p k:Nat) (tv nv:Value) (w:World) (hr:Rdr w p tv k nv) :
  Calls Tryz.prog 202 #[.pointer (some ⟨p,0,none⟩)] w fun e w'=>e=qbO k 50∧w=w':=by
 have c1:=hr.c1;go_enter Tryz.func202,Tryz.ntmps202;go_wp2;exact⟨rfl,rfl,rfl⟩
theorem qiH (p cap k:Nat) (a:Option Addr) (L:List TokE) (nv:Value) (ns:List Nd) (m:ByteArray) (hm:m.data.toList≠[]) (w:World) (h:St w p cap a L k nv ns) :
  Calls Tryz.prog 181 #[.pointer (some ⟨p,0,none⟩),.string m] w fun e w' =>
   ((isM (gL L k) m.data.toList=false∧e=qbO k 50)∨(isM (gL L k) m.data.toList=true∧k<L.length∧e=.returned (.tuple #[])∧St w' p cap a L (k+1) nv ns))∧Below p w w':=by
 have HM:=hid (qp5 p cap k a L nv w h.rdr h.toks h.len);have him:=ql2 L k m.data.toList hm;have HH:=hid h;have hkl:isM (gL L k) m.data.toList=true→k<L.length:=by
  intro hi;rcases Nat.lt_or_ge k L.length with h'|h'
  ·exact h'
  ·unfold gL at hi;rw[if_neg (by omega)] at hi;cases hi
 have hlen:=h.len;rw[him] at hkl ⊢;generalize qgX L k=t at HM hkl ⊢;cases hb:(t.data.toList==m.data.toList) with
 | true =>
  have hk:=hkl hb;have e1:(t.toList==m.toList)=true:=by rw[qbT,qbT];exact hb
  have e2:(t.toList != m.toList)=false:=by rw[bne,e1];rfl
  clear hkl him hb h;go_enter Tryz.func181,Tryz.ntmps181;go_wp2_with (go_at_call 155;refine HM.out.mono ?_;rintro e w1 ⟨rfl,hb1⟩;have HS:=hid (HH.out.below hb1);have HB:=hid hb1;have c1:=HS.out.rdr.c1;have fz:w1.frozen? ⟨p,1,none⟩=false:=HS.out.rdr.fz;clear hb1);rw[show (k:Int)+1=((k+1:Nat):Int) by omega];go_end0;exact⟨.inr ⟨by first|rfl|trivial,hk,rfl,HS.out.move (k+1) (by omega)⟩,(HB.out.mono (Nat.le_of_lt HH.out.rdr.lt)).setCell (Nat.le_refl p) _⟩
 | false =>
  have e1:(t.toList==m.toList)=false:=by rw[qbT,qbT];exact hb
  have e2:(t.toList != m.toList)=true:=by rw[bne,e1];rfl
  clear hkl him hb h;go_enter Tryz.func181,Tryz.ntmps181;go_wp2_with (first|(go_at_call 155;refine HM.out.mono ?_;rintro e w1 ⟨rfl,hb1⟩;have HS:=hid (HH.out.below hb1);have HB:=hid hb1;clear hb1)|(go_at_call 202;refine(ql3 p k _ nv _ HS.out.rdr).mono ?_;rintro e w' ⟨rfl,rfl⟩;unfold qbO));exact⟨rfl,.inl ⟨by first|rfl|trivial,rfl⟩,HB.out.mono (Nat.le_of_lt HH.out.rdr.lt)⟩
def ndV (n:Nd):Value:=.agg #[.int .i64 n.k,.int .i64 n.a,.int .i64 n.b,.string n.nm,.int .i64 n.vk,.int .i64 n.vi,.float .f64 n.rl,.complex .f64 n.re n.im,.string n.tx]
theorem jbD:(Tryz.prog.info? 109).map (fun i=>(i.zero,i.size,i.bytes))=some (some (.agg #[.int .i64 0,.int .i64 0,.int .i64 0,.string ⟨#[]⟩,.int .i64 0,.int .i64 0,.float .f64 0,.complex .f64 0 0,.string ⟨#[]⟩]),9,96):=by kernel_rfl
theorem qaN {o:Option TypeInfo} {z:Option Value} {s b:Nat} (h:o.map (fun i=>(i.zero,i.size,i.bytes))=some (z,s,b)):∃ i,o=some i∧i.zero=z∧i.size=s∧i.bytes=b:=by
 cases o with
 | none=>cases h
 | some i =>
  simp only[Option.map_some,Option.some.injEq,Prod.mk.injEq] at h;exact⟨i,rfl,h.1,h.2.1,h.2.2⟩
theorem jb1 (n:Nd):∀ u ∈ qaB n,u.oneCell'=true:=by
 intro u hu;simp[qaB] at hu;rcases hu with rfl|rfl|rfl|rfl|rfl|rfl|rfl|rfl|rfl <;> rfl
theorem qxW (ns:List Nd) (n:Nd):qg3 (ns++[n])=qg3 ns++qaB n:=by simp[qg3]
theorem qc7 (w:World) (l:List Value) (t:TypeId):∀ j u,l[j]?=some u→(w.alloc (.cells l.toArray t)).cell? ((⟨w.heap.size,0,none⟩:Addr).add j)=some u:=by
 intro j u h;have hadd:(⟨w.heap.size,0,none⟩:Addr).add j=⟨w.heap.size,j,none⟩:=by unfold Addr.add;split <;> simp_all
 rw[hadd,cell_of_row _ _ j _ _ _ (heap_alloc_new w _)]
 simpa using h
theorem qqS {W w1:World} {p k:Nat} {tv nv:Value} {row:Option Nat} (h:Rdr W p tv k nv) (hg:W.grownBy w1 row) (hn:∀ b,row=some b→p+1≤b):Rdr w1 p tv k nv :=
 (hg.block p h.lt (fun e=>by have:=hn p e.symm;omega)).trans h
theorem St.grow {W w1:World} {p cap k g cap':Nat} {a:Option Addr} {L:List TokE} {nv:Value} {ns:List Nd} {n:Nd} (h:St W p cap a L k nv ns) (hg:W.grownBy w1 nv.ownBlock)
  (hown:w1.ownsRow (p+1) 109 9 (.slice (some ⟨g,0,none⟩) (ns.length+1) cap') (ns.length+1) (qg3 ns++qaB n)) :
  St (w1.setCell ⟨p,2,none⟩ (.slice (some ⟨g,0,none⟩) (ns.length+1) cap')) p cap a L k (.slice (some ⟨g,0,none⟩) (ns.length+1) cap') (ns++[n]):=by
 have hn:∀ b,nv.ownBlock=some b→p+1≤b:=fun b hb=>(h.row.lt b hb).1;have hr:=qqS h.rdr hg hn;refine⟨heap_setCell_same w1 p 2 _ _ _ hr,fun i hi=>?_,h.low,?_,h.len,h.at_,h.tab.of_block ((Below.heap_setCell _ _ _ _ (by show _≠p;have:=h.gp;omega)).trans (hg.block _ (Nat.lt_trans h.gp h.rdr.lt) (fun e=>by have:=hn _ e.symm;have:=h.gp;omega))),h.gp⟩
 ·obtain⟨x,hx,h0,h1,h2,h3,h4,h5⟩:=h.toks i hi;have hlow:=h.low x hx (i * 6);have hblk:w1.heap[(x.add (i * 6)).block]?=W.heap[(x.add (i * 6)).block]?:=hg.block _ (Nat.lt_trans hlow h.rdr.lt) (fun e=>by have:=hn _ e.symm;omega);have hne:∀ o,(⟨p,2,none⟩:Addr)≠⟨(x.add (i * 6)).block,o,none⟩:=fun o e=>by
   have:=congrArg Addr.block e;simp only at this;omega
  have hne0:(⟨p,2,none⟩:Addr)≠x.add (i * 6):=fun e=>by
   have:=congrArg Addr.block e;simp only at this;omega
  exact⟨x,hx,((World.cell?_setCell_other _ _ _ _ hne0).trans (World.cell?_of_block hblk)).trans h0,((World.cell?_setCell_other _ _ _ _ (hne _)).trans (World.cell?_of_block hblk)).trans h1,
   ((World.cell?_setCell_other _ _ _ _ (hne _)).trans (World.cell?_of_block hblk)).trans h2,((World.cell?_setCell_other _ _ _ _ (hne _)).trans (World.cell?_of_block hblk)).trans h3,((World.cell?_setCell_other _ _ _ _ (hne _)).trans (World.cell?_of_block hblk)).trans h4,((World.cell?_setCell_other _ _ _ _ (hne _)).trans (World.cell?_of_block hblk)).trans h5⟩
 ·rw[qxW,List.length_append];exact ownsRow_setCell_below hown (by show p<p+1;omega) _
theorem qtR (p cap k:Nat) (a:Option Addr) (L:List TokE) (nv:Value) (ns:List Nd) (n:Nd) (w:World) (h:St w p cap a L k nv ns) (hlen:ns.length≤1000000000000) :
  Calls Tryz.prog 183 #[.pointer (some ⟨p,0,none⟩),ndV n] w fun e w' =>
   (e=.returned (.int .i64 ns.length)∧∃ nv',St w' p cap a L k nv' (ns++[n]))∧Below p w w':=by
 obtain⟨i0,hi,hz0,hz1,hz2⟩:=qaN jbD;obtain⟨W0,hW0⟩:∃ W0,W0=w.alloc (.cells #[.int .i64 n.k,.int .i64 n.a,.int .i64 n.b,.string n.nm,.int .i64 n.vk,.int .i64 n.vi,.float .f64 n.rl,.complex .f64 n.re n.im,.string n.tx] 109):=⟨_,rfl⟩
 have hB0:Below w.heap.size w W0:=by rw[hW0];exact(Below.refl w.heap.size w).alloc (Nat.le_refl _) _
 have hb0:W0.heap[w.heap.size]?=some (.cells #[.int .i64 n.k,.int .i64 n.a,.int .i64 n.b,.string n.nm,.int .i64 n.vk,.int .i64 n.vi,.float .f64 n.rl,.complex .f64 n.re n.im,.string n.tx] 109 (0,0)):=by rw[hW0];exact heap_alloc_new _ _
 have HW0:=hid hW0;have HH:=hid (h.below hB0);have HB0:=hid (hB0.mono (Nat.le_of_lt h.rdr.lt));have c2:=HH.out.rdr.c2;have fz:=HH.out.rdr.fz (o:=2);have n0:W0.cell? ⟨w.heap.size,0,none⟩=some (.int .i64 n.k):=by rw[cell_of_row W0 _ 0 _ _ _ hb0];rfl
 have n1:W0.cell? ⟨w.heap.size,1,none⟩=some (.int .i64 n.a):=by rw[cell_of_row W0 _ 1 _ _ _ hb0];rfl
 have n2:W0.cell? ⟨w.heap.size,2,none⟩=some (.int .i64 n.b):=by rw[cell_of_row W0 _ 2 _ _ _ hb0];rfl
 have n3:W0.cell? ⟨w.heap.size,3,none⟩=some (.string n.nm):=by rw[cell_of_row W0 _ 3 _ _ _ hb0];rfl
 have n4:W0.cell? ⟨w.heap.size,4,none⟩=some (.int .i64 n.vk):=by rw[cell_of_row W0 _ 4 _ _ _ hb0];rfl
 have n5:W0.cell? ⟨w.heap.size,5,none⟩=some (.int .i64 n.vi):=by rw[cell_of_row W0 _ 5 _ _ _ hb0];rfl
 have n6:W0.cell? ⟨w.heap.size,6,none⟩=some (.float .f64 n.rl):=by rw[cell_of_row W0 _ 6 _ _ _ hb0];rfl
 have n7:W0.cell? ⟨w.heap.size,7,none⟩=some (.complex .f64 n.re n.im):=by rw[cell_of_row W0 _ 7 _ _ _ hb0];rfl
 have n8:W0.cell? ⟨w.heap.size,8,none⟩=some (.string n.tx):=by rw[cell_of_row W0 _ 8 _ _ _ hb0];rfl
 have hp0:=HH.out.rdr.lt;have HR:Hid (Rdr (W0.drew.alloc (.cells (qaB n).toArray 109)) p (.slice a L.length cap) k nv):=hid (HH.out.rdr.keep (((Below.refl W0.heap.size W0).drew).alloc (Nat.le_refl _) _) HH.out.rdr.lt);unfold ndV;clear h hW0 hB0 hb0;go_enter Tryz.func183,Tryz.ntmps183;go_upto_region 1 with (fail);rw[← HW0.out]
 go_region_law (refine step_append_lies _ rfl (.tmp 9) (.tmp 11) 39 rfl (p+1) 109 i0 (.agg #[.int .i64 0,.int .i64 0,.int .i64 0,.string ⟨#[]⟩,.int .i64 0,.int .i64 0,.float .f64 0,.complex .f64 0 0,.string ⟨#[]⟩]) 9 96 Tryz.underlying39 hi hz0 hz1 hz2 rfl (by decide) nv ns.length (qg3 ns) rfl (HH.out.row.drew.alloc _) ⟨W0.heap.size,0,none⟩ 1 1 (qaB n) rfl rfl (qc7 W0.drew (qaB n) 109) (jb1 n) (by decide) (by unfold maxLen;omega) (by omega) (by simp;omega) _ rfl ?_;intro g cap' w1 hown hgrow hg hlt;have hr1:Rdr w1 p (.slice a L.length cap) k nv:=qqS (HR.out) hgrow (fun b hb=>(HH.out.row.lt b hb).1);have c2':=hr1.c2;have fz':=hr1.fz (o:=2))
 all_goals
  have hs:=(HH.out.below (((Below.refl W0.heap.size W0).drew).alloc (Nat.le_refl _) (.cells (qaB n).toArray 109))).grow hgrow hown;have hbw:Below p w (w1.setCell ⟨p,2,none⟩ (.slice (some ⟨g,0,none⟩) (ns.length+1) cap')):=((HB0.out.trans ((((Below.refl W0.heap.size W0).drew).alloc (Nat.le_refl _) (.cells (qaB n).toArray 109)).mono (Nat.le_of_lt hp0))).grown hgrow (by simp;omega) (fun b hb=>by have:=(HH.out.row.lt b hb).1;omega)).setCell (Nat.le_refl p) _;have HS:=hid hs;have HBW:=hid hbw;have d2:=hs.rdr.c2;clear hs hbw hgrow hown hr1 c2' fz' hg;go_wp2;go_ret;exact⟨⟨rfl,_,HS.out⟩,HBW.out⟩
theorem quU (p cap k:Nat) (a:Option Addr) (L:List TokE) (nv:Value) (ns:List Nd) (kd x y:Int) (w:World) (h:St w p cap a L k nv ns) (hlen:ns.length≤1000000000000) :
  Calls Tryz.prog 157 #[.pointer (some ⟨p,0,none⟩),.int .i64 kd,.int .i64 x,.int .i64 y] w fun e w' =>
   (e=.returned (.int .i64 ns.length)∧∃ nv',St w' p cap a L k nv' (ns++[qdU kd x y]))∧Below p w w':=by
 have hA:=qtR p cap k a L nv ns (qdU kd x y) w h hlen;unfold ndV qdU at hA;have HA:=hid hA;clear hA h;go_enter Tryz.func157,Tryz.ntmps157;go_wp2_with (go_at_call 183;refine HA.out.mono ?_;rintro e w1 ⟨⟨rfl,nv',hs⟩,hb⟩;have HS:=hid hs;have HB:=hid hb;clear hs hb);go_ret;exact⟨⟨rfl,_,HS.out⟩,HB.out⟩
theorem qjG (p cap k:Nat) (a:Option Addr) (L:List TokE) (nv:Value) (ns:List Nd) (kd x:Int) (w:World) (h:St w p cap a L k nv ns) (hlen:ns.length≤1000000000000) :
  Calls Tryz.prog 180 #[.pointer (some ⟨p,0,none⟩),.int .i64 kd,.int .i64 x] w fun e w' =>
   (e=.returned (.int .i64 ns.length)∧∃ nv',St w' p cap a L k nv' (ns++[qdU kd x 0]))∧Below p w w':=by
 have hA:=qtR p cap k a L nv ns (qdU kd x 0) w h hlen;unfold ndV qdU at hA;have HA:=hid hA;clear hA h;go_enter Tryz.func180,Tryz.ntmps180;go_wp2_with (go_at_call 183;refine HA.out.mono ?_;rintro e w1 ⟨⟨rfl,nv',hs⟩,hb⟩;have HS:=hid hs;have HB:=hid hb;clear hs hb);go_ret;exact⟨⟨rfl,_,HS.out⟩,HB.out⟩
def Rdd (L:List TokE) (X:Nt) (k p cap:Nat) (a:Option Addr) (ns:List Nd) (w:World) (e:Ending) (w':World):Prop :=
 ((∃ q,Rd (gL L) X k (.bad q)∧e=qbO q 50)∨∃ t q nv',Rd (gL L) X k (.ok t q)∧cnt t+k≤q∧e=.returned (.int .i64 (ns.length+cnt t-1:Nat))∧St w' p cap a L q nv' (ns++lay ns.length t))∧Below p w w'
theorem q4U (p cap k n:Nat) (a:Option Addr) (L:List TokE) (nv:Value) (ns:List Nd) (w:World) (hcap:L.length≤1000000000000) (h1:1≤n) (h6:n≤6) (hns:ns.length≤k) (h:St w p cap a L k nv ns)
  (hS:Calls Tryz.prog 153 #[.pointer (some ⟨p,0,none⟩)] w (Rdd L (.lvl 6) k p cap a ns w))
  (hL:∀ (k' n':Nat) (nv':Value) (ns':List Nd) (W:World),k<k'→1≤n'→n'≤6→ns'.length≤k'→St W p cap a L k' nv' ns'→Calls Tryz.prog 134 #[.pointer (some ⟨p,0,none⟩),.int .i64 n'] W (Rdd L (.lvl n') k' p cap a ns' W)) :
  Calls Tryz.prog 134 #[.pointer (some ⟨p,0,none⟩),.int .i64 n] w (Rdd L (.lvl n) k p cap a ns w):=by
 have HS:=hid hS;have HL:=hid hL;clear hS hL;go_enter Tryz.func134,Tryz.ntmps134;go_wp2_with (go_at_call 153;refine HS.out.mono ?_;rintro e w1 ⟨he,hb⟩;have HB:=hid hb;clear hb;rcases he with ⟨q,hq,rfl⟩|⟨t,q,nv',hq,hcq,rfl,hst⟩ <;> simp only[qbO])
 ·exact⟨rfl,.inl ⟨q,qs1 (6-n) n k (.bad q) (by omega) h1 (.inl ⟨q,hq,rfl⟩),rfl⟩,HB.out⟩
 have HST:=hid hst;have HQ:=hid hq;clear hst hq h
 go_loopg [5,6] (L.length-q) (fun gk av on wr=>∃ (t:Ex) (q o:Nat) (nv:Value),gk=L.length-q∧av=.int .i64 (ns.length+cnt t-1:Nat)∧on=.int .i64 o∧Hid (1≤o∧o≤6∧cnt t+k≤q)∧Hid (St wr p cap a L q nv (ns++lay ns.length t))∧Hid (Below p w wr)∧Hid (∀ r,qiC (gL L) n (q7R o) t q r→Rd (gL L) (.lvl n) k r))
 case atStart=>exact⟨t,q,6,nv',rfl,rfl,rfl,hid ⟨by omega,by omega,hcq⟩,HST,HB,hid fun r hr=>qs1 (6-n) n k r (by omega) h1 (.inr ⟨t,q,HQ.out,hr⟩)⟩
 case round =>
  obtain⟨t,q,o,nv,hgk,rfl,rfl,ho,hst,hbl,hch⟩:=hrel;have HM:=hid (qp5 p cap q a L nv wr hst.out.rdr hst.out.toks (by have:=hst.out.len;omega));have hk:=q5N L q;have hkl:=q6L (qgX L q).data.toList;have hlv:=q7Z (qgX L q).data.toList;have hBt:=fun W=>qtM (qgX L q) W;generalize qgX L q=M at HM hk hkl hlv hBt;generalize opK M.data.toList=K at hk hkl hlv hBt;have HBt:=hid hBt;clear hBt;go_upto_region 3 with (first
   | (go_at_call 155;refine HM.out.mono ?_;rintro e w2 ⟨rfl,hb2⟩)
   | (go_at_call 154;refine(HBt.out _).mono ?_;rintro e w' ⟨rfl,rfl⟩))
  have hs2:=hst.out.below hb2;have t1:=(hs2.tab K hkl).2.1;have hb3:Below p w w2:=hbl.out.trans (hb2.mono (Nat.le_of_lt hst.out.rdr.lt));have HS2:=hid hs2;have HB3:=hid hb3;obtain⟨ho1,ho2,hcq2⟩:=ho.out;have hl5:=jaO K;have hends:=qy3 (n:=n) (l:=opL K) (on:=o) h1 hl5 ho1 ho2;have hlow:qeN (opL K) true=opL K+1:=by unfold qeN;rw[if_pos (.inl rfl)]
  have hK1:opL K≠0→clK (gL L q)≠0:=fun h0 e=>h0 (by rw[← hk,e];rfl);by_cases hlt:opL K<n
  ·have d1:decide (opL K<n)=true:=decide_eq_true hlt;have HR:Hid (Rd (gL L) (.lvl n) k (.ok t q)):=hid (hch.out _ (qnY _ (by rw[hk];exact hends.1 (.inl hlt))));clear hs2 hb2 hb3 hends hlt hlow hK1;go_wp2;go_ret;exact⟨.inr ⟨t,q,nv,HR.out,by omega,rfl,HS2.out⟩,HB3.out⟩
  have d1:decide (opL K<n)=false:=decide_eq_false hlt;have HLW:=hid (fun W=>qg1 (opL K) (by omega) false W);by_cases hon:o<qeN (opL K) false
  ·have d2:decide (o<qeN (opL K) false)=true:=decide_eq_true hon;have HR:Hid (Rd (gL L) (.lvl n) k (.ok t q)):=hid (hch.out _ (qnY _ (by rw[hk];exact hends.1 (.inr hon))));clear hs2 hb2 hb3 hends hlt hlow hK1 hon;go_wp2_with (go_at_call 156;with_reducible refine(HLW.out _).mono ?_;rintro e w' ⟨rfl,rfl⟩);go_ret;exact⟨.inr ⟨t,q,nv,HR.out,by omega,rfl,HS2.out⟩,HB3.out⟩
  have d2:decide (o<qeN (opL K) false)=false:=decide_eq_false hon;have hin:n≤opL K∧opL K≤q7R o:=by
   rcases Decidable.em (n≤opL K∧opL K≤q7R o) with h'|h'
   ·exact h'
   ·exact absurd (hends.2 h') (by omega)
  have hqL:q<L.length:=by
   rcases Nat.lt_or_ge q L.length with h'|h'
   ·exact h'
   ·exfalso;refine hK1 (by omega) ?_;unfold gL;rw[if_neg (by omega)];rfl
  have HMV:=hid (hs2.move (q+1) (by omega));have HBM:Hid (Below p w (w2.setCell ⟨p,1,none⟩ (.int .i64 ((q+1:Nat):Int)))):=hid (hb3.setCell (Nat.le_refl p) _);have c1:=hs2.rdr.c1;have fz:=hs2.rdr.fz (o:=1);have HLT:=hid (fun W=>qg1 (opL K) (by omega) true W);have hns2:(ns++lay ns.length t).length=ns.length+cnt t:=by rw[List.length_append,qaF]
  have HLV:=hid (HL.out (q+1) (opL K+1) nv (ns++lay ns.length t) _ (by omega) (by omega) (by omega) (by rw[hns2];omega) HMV.out);rw[hlow] at HLT;clear hs2 hb2 hb3 hends hlow hK1 hon hlt;have hchv:=hid hch.out;have hq0:q<1000000000000:=by omega
  go_wp2_with (go_at_call 156;with_reducible refine(HLW.out _).mono ?_;rintro e w' ⟨rfl,rfl⟩);rw[show (q:Int)+1=((q+1:Nat):Int) by omega];generalize hWM:w2.setCell ⟨p,1,none⟩ (.int .i64 ((q+1:Nat):Int))=WM at HMV HBM HLV ⊢;go_wp2_with (first
   | (go_at_call 156;with_reducible refine(HLT.out _).mono ?_;rintro e w' ⟨rfl,rfl⟩)
   | (go_at_call 134;refine HLV.out.mono ?_;rintro e w3 ⟨he,hb⟩;have HB2:=hid hb;clear hb;rcases he with ⟨qe,hqe,rfl⟩|⟨b,q2,nv2,hq2,hcq3,rfl,hst2⟩ <;> simp only[qbO]))
  ·exact⟨rfl,.inl ⟨qe,hchv.out _ (qnZ (by rw[hk]) (by omega) hin.1 (.inl ⟨qe,hqe,rfl⟩) _ hin.2),rfl⟩,HBM.out.trans HB2.out⟩
  have hat:=hst2.at_;have hlen2:(ns++lay ns.length t++lay (ns++lay ns.length t).length b).length=ns.length+cnt t+cnt b:=by rw[List.length_append,qaF,hns2]
  have HP:=hid (quU p cap q2 a L nv2 (ns++lay ns.length t++lay (ns++lay ns.length t).length b) K (ns.length+cnt t-1:Nat) (ns.length+cnt t+cnt b-1:Nat) w3 hst2 (by rw[hlen2];omega));have HQ2:=hid hq2;have HLEN:=hid hlen2;have HNS:=hid hns2;clear hst2 hq2 hlen2 hns2;go_wp2_with (go_at_call 157;with_reducible refine HP.out.mono ?_;rintro e w4 ⟨⟨rfl,nv4,hs4⟩,hb4⟩;have HS4:=hid hs4;have HB4:=hid hb4;clear hs4 hb4)
  go_roundg (L.length-q2)
  case measure=>omega
  case rel =>
   have htop:q7R (opL K)=if opL K=3 then 2 else opL K:=by unfold q7R;split;rfl;exact Nat.min_eq_left hl5
   have hs5:St w4 p cap a L q2 nv4 (ns++lay ns.length (.bi K t b)):=by
    have h5:=HS4.out;rw[HNS.out,List.append_assoc,List.append_assoc] at h5;exact h5
   refine⟨.bi K t b,q2,opL K,nv4,rfl,?_,rfl,hid ⟨by omega,by omega,?_⟩,hid hs5,hid ((HBM.out.trans HB2.out).trans HB4.out),hid fun r hr=>?_⟩
   ·have hc:cnt (.bi K t b)=cnt t+cnt b+1:=rfl;rw[qaF,qaF,hc]
    congr 1
   ·show cnt t+cnt b+1+k≤q2;omega
   ·exact hchv.out r (qnZ (by rw[hk]) (by omega) hin.1 (.inr ⟨b,q2,HQ2.out,by rw[hk];show qiC _ _ (if opL K=3 then 2 else opL K) _ _ _;rw[← htop];exact hr⟩) _ hin.2)
theorem jbA {c:Cl} {s:List UInt8} (h:isM c s=true):c=.mark s:=by
 cases c with
 | mark t=>exact congrArg Cl.mark (eq_of_beq h)
 | leaf l=>cases h
 | word k=>cases h
 | no=>cases h
theorem q1O {L:List TokE} {k:Nat} {s:List UInt8} (hi:isM (gL L k) s=true):k<L.length:=by
 rcases Nat.lt_or_ge k L.length with h'|h'
 ·exact h'
 ·unfold gL at hi;rw[if_neg (by omega)] at hi;cases hi
theorem qzL (p cap k:Nat) (a:Option Addr) (L:List TokE) (nv:Value) (ns:List Nd) (w:World) (hcap:L.length≤1000000000000) (hns:ns.length≤k) (h:St w p cap a L k nv ns)
  (hO:sgK (gL L k)=0→isM (gL L k) [40]=false→∀ W,St W p cap a L k nv ns→Calls Tryz.prog 182 #[.pointer (some ⟨p,0,none⟩)] W (Rdd L (.lvl 7) k p cap a ns W))
  (hSg:∀ (k':Nat) (nv':Value) (ns':List Nd) (W:World),k<k'→ns'.length≤k'→St W p cap a L k' nv' ns'→Calls Tryz.prog 153 #[.pointer (some ⟨p,0,none⟩)] W (Rdd L (.lvl 6) k' p cap a ns' W))
  (hL:∀ (k' n':Nat) (nv':Value) (ns':List Nd) (W:World),k<k'→1≤n'→n'≤6→ns'.length≤k'→St W p cap a L k' nv' ns'→Calls Tryz.prog 134 #[.pointer (some ⟨p,0,none⟩),.int .i64 n'] W (Rdd L (.lvl n') k' p cap a ns' W)) :
  Calls Tryz.prog 153 #[.pointer (some ⟨p,0,none⟩)] w (Rdd L (.lvl 6) k p cap a ns w):=by
 have HO:=hid hO;have HSG:=hid hSg;have HLV:=hid hL;have HH:=hid h;have HM:=hid (qp5 p cap k a L nv w h.rdr h.toks h.len);have i45:=ql2 L k [45] (by decide);have i33:=ql2 L k [33] (by decide);have i40:=ql2 L k [40] (by decide);have hsg:=q3W L k;rw[← qbT] at i45 i33 i40 hsg;generalize qgX L k=M at HM i45 i33 i40 hsg;clear hO hSg hL h;cases h45:(M.toList==[45]) with
 | true =>
  have hlt:k<L.length:=q1O (s:=[45]) (by rw[i45];exact h45);have hk3:sgK (gL L k)=3:=by rw[hsg,eq_of_beq h45];rfl
  have HK3:=hid hk3;clear i45 i33 i40 hsg hk3;go_enter Tryz.func153,Tryz.ntmps153;go_wp2_with (go_at_call 155;refine HM.out.mono ?_;rintro e w1 ⟨rfl,hb1⟩;have HS:=hid (HH.out.below hb1);have HB:=hid hb1;have c1:=HS.out.rdr.c1;have fz:w1.frozen? ⟨p,1,none⟩=false:=HS.out.rdr.fz;clear hb1);rw[show (k:Int)+1=((k+1:Nat):Int) from rfl];have HMV:=hid (HS.out.move (k+1) (by omega));have HBM:Hid (Below p w (w1.setCell ⟨p,1,none⟩ (.int .i64 ((k+1:Nat):Int)))):=hid ((HB.out.mono (Nat.le_of_lt HH.out.rdr.lt)).setCell (Nat.le_refl p) _);generalize w1.setCell ⟨p,1,none⟩ (.int .i64 ((k+1:Nat):Int))=WM at HMV HBM ⊢;have HV:=hid (HSG.out (k+1) nv ns WM (by omega) (by omega) HMV.out);go_wp2_with (go_at_call 153;refine HV.out.mono ?_;rintro e w3 ⟨he,hb⟩;have HB2:=hid hb;clear hb;rcases he with ⟨qe,hqe,rfl⟩|⟨t,q2,nv2,hq2,hcq3,rfl,hst2⟩ <;> simp only[qbO])
  ·exact⟨rfl,.inl ⟨qe,Rd.sign (by rw[HK3.out];decide) (.inl ⟨qe,hqe,rfl⟩),rfl⟩,HBM.out.trans HB2.out⟩
  have hat:=hst2.at_;have hlen2:(ns++lay ns.length t).length=ns.length+cnt t:=by rw[List.length_append,qaF]
  have HP:=hid (qjG p cap q2 a L nv2 (ns++lay ns.length t) 3 (ns.length+cnt t-1:Nat) w3 hst2 (by rw[hlen2];omega));have HQ2:=hid hq2;have HLEN:=hid hlen2;clear hst2 hq2 hlen2;go_wp2_with (go_at_call 180;with_reducible refine HP.out.mono ?_;rintro e w4 ⟨⟨rfl,nv4,hs4⟩,hb4⟩;have HS4:=hid hs4;have HB4:=hid hb4;clear hs4 hb4);go_ret;refine⟨.inr ⟨.un 3 t,q2,nv4,Rd.sign (by rw[HK3.out];decide) (.inr ⟨t,q2,HQ2.out,by rw[HK3.out]⟩),?_,?_,?_⟩,(HBM.out.trans HB2.out).trans HB4.out⟩
  ·show cnt t+1+k≤q2;omega
  ·have hc:cnt (.un 3 t)=cnt t+1:=rfl;rw[hc]
   first|rfl|(rw[HLEN.out];rfl)|(rw[qaF];congr 1)|(simp only[List.length_append,qaF];congr 1)
  ·have h5:=HS4.out;rw[List.append_assoc] at h5;exact h5
 | false =>
 cases h33:(M.toList==[33]) with
 | true =>
  have hlt:k<L.length:=q1O (s:=[33]) (by rw[i33];exact h33);have hk3:sgK (gL L k)=4:=by rw[hsg,eq_of_beq h33];rfl
  have HK3:=hid hk3;clear i45 i33 i40 hsg hk3;go_enter Tryz.func153,Tryz.ntmps153;go_wp2_with (go_at_call 155;refine HM.out.mono ?_;rintro e w1 ⟨rfl,hb1⟩;have HS:=hid (HH.out.below hb1);have HB:=hid hb1;have c1:=HS.out.rdr.c1;have fz:w1.frozen? ⟨p,1,none⟩=false:=HS.out.rdr.fz;clear hb1);rw[show (k:Int)+1=((k+1:Nat):Int) from rfl];have HMV:=hid (HS.out.move (k+1) (by omega));have HBM:Hid (Below p w (w1.setCell ⟨p,1,none⟩ (.int .i64 ((k+1:Nat):Int)))):=hid ((HB.out.mono (Nat.le_of_lt HH.out.rdr.lt)).setCell (Nat.le_refl p) _);generalize w1.setCell ⟨p,1,none⟩ (.int .i64 ((k+1:Nat):Int))=WM at HMV HBM ⊢;have HV:=hid (HSG.out (k+1) nv ns WM (by omega) (by omega) HMV.out);go_wp2_with (go_at_call 153;refine HV.out.mono ?_;rintro e w3 ⟨he,hb⟩;have HB2:=hid hb;clear hb;rcases he with ⟨qe,hqe,rfl⟩|⟨t,q2,nv2,hq2,hcq3,rfl,hst2⟩ <;> simp only[qbO])
  ·exact⟨rfl,.inl ⟨qe,Rd.sign (by rw[HK3.out];decide) (.inl ⟨qe,hqe,rfl⟩),rfl⟩,HBM.out.trans HB2.out⟩
  have hat:=hst2.at_;have hlen2:(ns++lay ns.length t).length=ns.length+cnt t:=by rw[List.length_append,qaF]
  have HP:=hid (qjG p cap q2 a L nv2 (ns++lay ns.length t) 4 (ns.length+cnt t-1:Nat) w3 hst2 (by rw[hlen2];omega));have HQ2:=hid hq2;have HLEN:=hid hlen2;clear hst2 hq2 hlen2;go_wp2_with (go_at_call 180;with_reducible refine HP.out.mono ?_;rintro e w4 ⟨⟨rfl,nv4,hs4⟩,hb4⟩;have HS4:=hid hs4;have HB4:=hid hb4;clear hs4 hb4);go_ret;refine⟨.inr ⟨.un 4 t,q2,nv4,Rd.sign (by rw[HK3.out];decide) (.inr ⟨t,q2,HQ2.out,by rw[HK3.out]⟩),?_,?_,?_⟩,(HBM.out.trans HB2.out).trans HB4.out⟩
  ·show cnt t+1+k≤q2;omega
  ·have hc:cnt (.un 4 t)=cnt t+1:=rfl;rw[hc]
   first|rfl|(rw[HLEN.out];rfl)|(rw[qaF];congr 1)|(simp only[List.length_append,qaF];congr 1)
  ·have h5:=HS4.out;rw[List.append_assoc] at h5;exact h5
 | false =>
 have hk0:sgK (gL L k)=0:=by
  rw[hsg];unfold sgM;rw[if_neg (fun e=>by rw[e] at h45;cases h45),if_neg (fun e=>by rw[e] at h33;cases h33)]
 have HK0:=hid hk0;cases h40:(M.toList==[40]) with
 | true =>
  have hi40:=i40.trans h40;have hlt:k<L.length:=q1O hi40;have HI:=hid (jbA hi40);clear i45 i33 i40 hsg hk0 hi40;go_enter Tryz.func153,Tryz.ntmps153;go_wp2_with (go_at_call 155;refine HM.out.mono ?_;rintro e w1 ⟨rfl,hb1⟩;have HS:=hid (HH.out.below hb1);have HB:=hid hb1;have c1:=HS.out.rdr.c1;have fz:w1.frozen? ⟨p,1,none⟩=false:=HS.out.rdr.fz;clear hb1);rw[show (k:Int)+1=((k+1:Nat):Int) from rfl];have HMV:=hid (HS.out.move (k+1) (by omega));have HBM:Hid (Below p w (w1.setCell ⟨p,1,none⟩ (.int .i64 ((k+1:Nat):Int)))):=hid ((HB.out.mono (Nat.le_of_lt HH.out.rdr.lt)).setCell (Nat.le_refl p) _);generalize w1.setCell ⟨p,1,none⟩ (.int .i64 ((k+1:Nat):Int))=WM at HMV HBM ⊢;have HV:=hid (HLV.out (k+1) 1 nv ns WM (by omega) (by omega) (by omega) (by omega) HMV.out);go_wp2_with (go_at_call 134;refine HV.out.mono ?_;rintro e w3 ⟨he,hb⟩;have HB2:=hid hb;clear hb;rcases he with ⟨qe,hqe,rfl⟩|⟨t,q2,nv2,hq2,hcq3,rfl,hst2⟩ <;> simp only[qbO])
  ·exact⟨rfl,.inl ⟨qe,Rd.six HK0.out (Rd.bracket HI.out (.inl ⟨qe,hqe,rfl⟩)),rfl⟩,HBM.out.trans HB2.out⟩
  have HW:=hid (qiH p cap q2 a L nv2 (ns++lay ns.length t) ⟨#[41]⟩ (by decide) w3 hst2);have HQ2:=hid hq2;clear hst2 hq2;go_wp2_with (go_at_call 181;refine HW.out.mono ?_;rintro e w4 ⟨he,hb4⟩;have HB4:=hid hb4;clear hb4;rcases he with ⟨hm,rfl⟩|⟨hm,hl2,rfl,hs4⟩ <;> simp only[qbO])
  ·exact⟨rfl,.inl ⟨q2,Rd.six HK0.out (Rd.bracket HI.out (.inr ⟨t,q2,HQ2.out,(if_neg (by rw[hm];decide)).symm⟩)),rfl⟩,(HBM.out.trans HB2.out).trans HB4.out⟩
  have HS4:=hid hs4;have HMM:=hid hm;clear hs4 hm;go_wp2;go_ret;exact⟨.inr ⟨t,q2+1,nv2,Rd.six HK0.out (Rd.bracket HI.out (.inr ⟨t,q2,HQ2.out,(if_pos HMM.out).symm⟩)),by omega,rfl,HS4.out⟩,(HBM.out.trans HB2.out).trans HB4.out⟩
 | false =>
  have hi40:=i40.trans h40;have HI:=hid hi40;clear i45 i33 i40 hsg hk0 hi40;go_enter Tryz.func153,Tryz.ntmps153;go_wp2_with (first
   | (go_at_call 155;refine HM.out.mono ?_;rintro e w1 ⟨rfl,hb1⟩;have HS:=hid (HH.out.below hb1);have HB:=hid hb1;clear hb1)
   | (go_at_call 182;refine(HO.out HK0.out HI.out _ HS.out).mono ?_;rintro e w3 ⟨he,hb⟩;have HB2:=hid hb;clear hb;rcases he with ⟨qe,hqe,rfl⟩|⟨t,q2,nv2,hq2,hcq3,rfl,hst2⟩ <;> simp only[qbO]))
  ·exact⟨rfl,.inl ⟨qe,Rd.six HK0.out hqe,rfl⟩,(HB.out.mono (Nat.le_of_lt HH.out.rdr.lt)).trans HB2.out⟩
  have HS4:=hid hst2;have HQ2:=hid hq2;clear hst2 hq2;go_wp2;go_ret;exact⟨.inr ⟨t,q2,nv2,Rd.six HK0.out HQ2.out,hcq3,rfl,HS4.out⟩,(HB.out.mono (Nat.le_of_lt HH.out.rdr.lt)).trans HB2.out⟩
theorem q2J (p cap k K:Nat) (a:Option Addr) (L:List TokE) (nv:Value) (ns:List Nd) (w:World) (hcap:L.length≤1000000000000) (hns:ns.length≤k) (hK:K<27) (hch:qeJ K=wdN K) (hg:gL L k=.word K)
  (h:St w p cap a L (k+1) nv ns)
  (hL:∀ (k' n':Nat) (nv':Value) (ns':List Nd) (W:World),k<k'→1≤n'→n'≤6→ns'.length≤k'→St W p cap a L k' nv' ns'→Calls Tryz.prog 134 #[.pointer (some ⟨p,0,none⟩),.int .i64 n'] W (Rdd L (.lvl n') k' p cap a ns' W)) :
  Calls Tryz.prog 234 #[.pointer (some ⟨p,0,none⟩),.int .i64 K] w (Rdd L (.lvl 7) k p cap a ns w):=by
 have HLV:=hid hL;have HH:=hid h;have HG:=hid hg;have HCH:=hid hch;have HW0:=hid (qiH p cap (k+1) a L nv ns ⟨#[40]⟩ (by decide) w h);clear hL h hg hch;go_enter Tryz.func234,Tryz.ntmps234;go_upto_region 2 with (go_at_call 181;refine HW0.out.mono ?_;rintro e w0 ⟨he,hb⟩;have HB0:=hid hb;clear hb;rcases he with ⟨hm,rfl⟩|⟨hm,hl0,rfl,hs0⟩ <;> simp only[qbO])
 ·exact⟨rfl,.inl ⟨k+1,Rd.word HG.out (by rw[if_neg (by rw[hm];decide)]),rfl⟩,HB0.out⟩
 have HM0:=hid hm;have HV1:=hid (HLV.out (k+2) 1 nv ns w0 (by omega) (by omega) (by omega) (by omega) hs0);clear hm hs0;go_upto_region 3 with (go_at_call 134;refine HV1.out.mono ?_;rintro e w1 ⟨he,hb⟩;have HB1:=hid hb;clear hb;rcases he with ⟨qe,hqe,rfl⟩|⟨t,q1,nv1,hq1,hcq1,rfl,hs1⟩ <;> simp only[qbO])
 ·exact⟨rfl,.inl ⟨qe,Rd.word HG.out (by rw[if_pos HM0.out];exact .inl ⟨qe,hqe,rfl⟩),rfl⟩,HB0.out.trans HB1.out⟩
 have t2:=(hs1.tab K hK).2.2;have HS1:=hid hs1;have HQ1:=hid hq1;clear hs1 hq1;by_cases hw:wdN K=1
 ·have HWD:=hid hw;have e1:qeJ K=1:=HCH.out.trans hw;rw[e1] at t2;have HW1:=hid (qiH p cap q1 a L nv1 (ns++lay ns.length t) ⟨#[41]⟩ (by decide) w1 HS1.out);clear hw e1;go_wp2_with (go_at_call 181;refine HW1.out.mono ?_;rintro e w2 ⟨he,hb⟩;have HB2:=hid hb;clear hb;rcases he with ⟨hm,rfl⟩|⟨hm,hl2,rfl,hs2⟩ <;> simp only[qbO])
  ·exact⟨rfl,.inl ⟨q1,Rd.word HG.out (by rw[if_pos HM0.out];exact .inr ⟨t,q1,HQ1.out,by show (if wdN K=1 then _ else _);rw[if_pos HWD.out];exact(if_neg (by rw[hm];decide)).symm⟩),rfl⟩,(HB0.out.trans HB1.out).trans HB2.out⟩
  have HM1:=hid hm;have hat:=hs2.at_;have hlen2:(ns++lay ns.length t).length=ns.length+cnt t:=by rw[List.length_append,qaF]
  have HP:=hid (qjG p cap (q1+1) a L nv1 (ns++lay ns.length t) K (ns.length+cnt t-1:Nat) w2 hs2 (by rw[hlen2];omega));have HLEN:=hid hlen2;clear hm hs2 hlen2;go_wp2_with (go_at_call 180;with_reducible refine HP.out.mono ?_;rintro e w4 ⟨⟨rfl,nv4,hs4⟩,hb4⟩;have HS4:=hid hs4;have HB4:=hid hb4;clear hs4 hb4);go_ret;refine⟨.inr ⟨.un K t,q1+1,nv4,Rd.word HG.out (by rw[if_pos HM0.out];exact .inr ⟨t,q1,HQ1.out,by show (if wdN K=1 then _ else _);rw[if_pos HWD.out];exact(if_pos HM1.out).symm⟩),?_,?_,?_⟩,((HB0.out.trans HB1.out).trans HB2.out).trans HB4.out⟩
  ·show cnt t+1+k≤q1+1;omega
  ·have hc:cnt (.un K t)=cnt t+1:=rfl;rw[hc]
   first|rfl|(rw[HLEN.out];rfl)|(rw[qaF];congr 1)|(simp only[List.length_append,qaF];congr 1)
  ·have h5:=HS4.out;rw[List.append_assoc] at h5;exact h5
 ·have HWD:=hid hw;have e1:qeJ K=2:=by rw[HCH.out];unfold wdN at hw ⊢;split at hw;(split;rfl;contradiction);exact absurd rfl hw
  rw[e1] at t2;have HW1:=hid (qiH p cap q1 a L nv1 (ns++lay ns.length t) ⟨#[44]⟩ (by decide) w1 HS1.out);clear hw e1;go_upto_region 7 with (go_at_call 181;refine HW1.out.mono ?_;rintro e w2 ⟨he,hb⟩;have HB2:=hid hb;clear hb;rcases he with ⟨hm,rfl⟩|⟨hm,hl2,rfl,hs2⟩ <;> simp only[qbO])
  ·exact⟨rfl,.inl ⟨q1,Rd.word HG.out (by rw[if_pos HM0.out];exact .inr ⟨t,q1,HQ1.out,by show (if wdN K=1 then _ else _);rw[if_neg HWD.out,if_neg (by rw[hm];decide)]⟩),rfl⟩,(HB0.out.trans HB1.out).trans HB2.out⟩
  have HM1:=hid hm;have hlen2:(ns++lay ns.length t).length=ns.length+cnt t:=by rw[List.length_append,qaF]
  have HV2:=hid (HLV.out (q1+1) 1 nv1 (ns++lay ns.length t) w2 (by omega) (by omega) (by omega) (by rw[hlen2];omega) hs2);have HNS:=hid hlen2;clear hm hs2 hlen2;go_upto_region 8 with (go_at_call 134;refine HV2.out.mono ?_;rintro e w3 ⟨he,hb⟩;have HB3:=hid hb;clear hb;rcases he with ⟨qe,hqe,rfl⟩|⟨b,q3,nv3,hq3,hcq3,rfl,hs3⟩ <;> simp only[qbO])
  ·exact⟨rfl,.inl ⟨qe,Rd.word HG.out (by rw[if_pos HM0.out];exact .inr ⟨t,q1,HQ1.out,by show (if wdN K=1 then _ else _);rw[if_neg HWD.out,if_pos HM1.out];exact .inl ⟨qe,hqe,rfl⟩⟩),rfl⟩,((HB0.out.trans HB1.out).trans HB2.out).trans HB3.out⟩
  have HQ3:=hid hq3;have HW3:=hid (qiH p cap q3 a L nv3 _ ⟨#[41]⟩ (by decide) w3 hs3);clear hs3 hq3;go_wp2_with (go_at_call 181;refine HW3.out.mono ?_;rintro e w5 ⟨he,hb⟩;have HB5:=hid hb;clear hb;rcases he with ⟨hm,rfl⟩|⟨hm,hl5,rfl,hs5⟩ <;> simp only[qbO])
  ·exact⟨rfl,.inl ⟨q3,Rd.word HG.out (by rw[if_pos HM0.out];exact .inr ⟨t,q1,HQ1.out,by show (if wdN K=1 then _ else _);rw[if_neg HWD.out,if_pos HM1.out];exact .inr ⟨b,q3,HQ3.out,(if_neg (by rw[hm];decide)).symm⟩⟩),rfl⟩,(((HB0.out.trans HB1.out).trans HB2.out).trans HB3.out).trans HB5.out⟩
  have HM3:=hid hm;have hat:=hs5.at_;have hlen3:(ns++lay ns.length t++lay (ns++lay ns.length t).length b).length=ns.length+cnt t+cnt b:=by rw[List.length_append,qaF,HNS.out]
  have HP:=hid (quU p cap (q3+1) a L nv3 (ns++lay ns.length t++lay (ns++lay ns.length t).length b) K (ns.length+cnt t-1:Nat) (ns.length+(lay ns.length t).length+cnt b-1:Nat) w5 hs5 (by rw[hlen3];omega));have HLEN:=hid hlen3;clear hm hs5 hlen3;go_wp2_with (go_at_call 157;with_reducible refine HP.out.mono ?_;rintro e w4 ⟨⟨rfl,nv4,hs4⟩,hb4⟩;have HS4:=hid hs4;have HB4:=hid hb4;clear hs4 hb4);go_ret;refine⟨.inr ⟨.bi K t b,q3+1,nv4,Rd.word HG.out (by rw[if_pos HM0.out];exact .inr ⟨t,q1,HQ1.out,by show (if wdN K=1 then _ else _);rw[if_neg HWD.out,if_pos HM1.out];exact .inr ⟨b,q3,HQ3.out,(if_pos HM3.out).symm⟩⟩),?_,?_,?_⟩,((((HB0.out.trans HB1.out).trans HB2.out).trans HB3.out).trans HB5.out).trans HB4.out⟩
  ·show cnt t+cnt b+1+k≤q3+1;omega
  ·have hc:cnt (.bi K t b)=cnt t+cnt b+1:=rfl;rw[hc]
   first|rfl|(rw[HLEN.out];rfl)|(rw[qaF,qaF];congr 1)|(simp only[List.length_append,qaF];congr 1)
  ·have h5:=HS4.out;rw[HNS.out,List.append_assoc,List.append_assoc,qaF t] at h5;exact h5
def opsT (n:Nat):List (List UInt8):=if n=1 then [[124,124]] else if n=2 then [[38,38]] else if n=3 then [[61,61],[33,61],[60],[60,61],[62],[62,61]] else if n=4 then [[43],[45]] else if n=5 then [[42],[47],[37]] else if n=6 then [[45],[33]] else []
def opsK (n:Nat):List Nat:=if n=1 then [17] else if n=2 then [16] else if n=3 then [10,11,12,13,14,15] else if n=4 then [5,6] else if n=5 then [7,8,9] else if n=6 then [3,4] else []
def jbI (c:Cl):List (List UInt8)→List Nat→Nat
 | s :: ss,k :: ks=>if isM c s=true then k else jbI c ss ks
 | _,_=>0
def oneK (n:Nat) (c:Cl):Nat:=if n=6 then sgK c else if opL (clK c)=n then clK c else 0
def jbW (w:World) (g:Nat) (T:List (List UInt8)):Prop:=∀ (i:Nat) s,T[i]?=some s→w.cell? ⟨g,i,none⟩=some (.string ⟨s.toArray⟩)
def q9S (w:World) (g:Nat) (K:List Nat):Prop:=∀ (i:Nat) k,K[i]?=some k→w.cell? ⟨g,i,none⟩=some (.int .i64 (k:Nat))
def OpsD (n:Nat) (w:World) (e:Ending) (w':World):Prop :=
 ∃ g c g2 c2,e=.returned (.tuple #[.slice (some ⟨g,0,none⟩) (opsT n).length c,.slice (some ⟨g2,0,none⟩) (opsK n).length c2])∧jbW w' g (opsT n)∧q9S w' g2 (opsK n)∧Below w.heap.size w w'∧w.heap.size≤g∧w.heap.size≤g2∧g<w'.heap.size∧g2<w'.heap.size
def wdT:List (List UInt8):=[[114,101],[105,109],[115,105,122,101,50],[99,111,109,112],[114,101,97,108],[108,101,110],[97,116],[99,97,116],[115,116,114]]
def wdK:List Nat:=[18,19,20,21,22,23,24,25,26]
end Go.Proofs.YtenlhcgpajphhaaGreatDoor
