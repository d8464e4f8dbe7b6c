import Derived.Test.YtkpboalccpancaaGreatDoorMExPlain
import Derived.Test.YtkpboalccpancaaGreatDoorRows
import Derived.WalkKit
import Derived.WalkSpells
import Derived.WalkLawsBesides
import Derived.Lib.Hide
import Derived.Deep.Cut
import Derived.Deep.RegionHeld3
import Derived.Deep.RegionWith
import Derived.Below
import Derived.Laws.AppendOwn
import Derived.Deep.RegionLaw
import Derived.Deep.AppendLies
namespace Go.Proofs.YtkpboalccpancaaGreatDoor
open Go.RowKit
set_option maxRecDepth 100000
set_option linter.all false
set_option maxHeartbeats 4000000
theorem tl_dat (s:ByteArray):s.toList=s.data.toList:=by
 cases s with
 | mk d=>rw[← Array.toArray_toList (xs:=d),ByteArray.toList_mk]
theorem between_any (s:ByteArray) (w:World):Calls Tryz.prog 116 #[.string s] w fun e w'=>e=.returned (.int .i64 (opK s.data.toList:Nat))∧w=w':=by
 rw[← tl_dat];cases h0:(s.toList==[124,124]) with
 | true =>
  have e:opK s.toList=17:=by rw[eq_of_beq h0];rfl
  rw[e];clear e;go_enter Tryz.func116,Tryz.ntmps116;go_wp2;go_ret;exact⟨rfl,rfl⟩
 | false =>
 cases h1:(s.toList==[38,38]) with
 | true =>
  have e:opK s.toList=16:=by rw[eq_of_beq h1];rfl
  rw[e];clear e;go_enter Tryz.func116,Tryz.ntmps116;go_wp2;go_ret;exact⟨rfl,rfl⟩
 | false =>
 cases h2:(s.toList==[61,61]) with
 | true =>
  have e:opK s.toList=10:=by rw[eq_of_beq h2];rfl
  rw[e];clear e;go_enter Tryz.func116,Tryz.ntmps116;go_wp2;go_ret;exact⟨rfl,rfl⟩
 | false =>
 cases h3:(s.toList==[33,61]) with
 | true =>
  have e:opK s.toList=11:=by rw[eq_of_beq h3];rfl
  rw[e];clear e;go_enter Tryz.func116,Tryz.ntmps116;go_wp2;go_ret;exact⟨rfl,rfl⟩
 | false =>
 cases h4:(s.toList==[60]) with
 | true =>
  have e:opK s.toList=12:=by rw[eq_of_beq h4];rfl
  rw[e];clear e;go_enter Tryz.func116,Tryz.ntmps116;go_wp2;go_ret;exact⟨rfl,rfl⟩
 | false =>
 cases h5:(s.toList==[60,61]) with
 | true =>
  have e:opK s.toList=13:=by rw[eq_of_beq h5];rfl
  rw[e];clear e;go_enter Tryz.func116,Tryz.ntmps116;go_wp2;go_ret;exact⟨rfl,rfl⟩
 | false =>
 cases h6:(s.toList==[62]) with
 | true =>
  have e:opK s.toList=14:=by rw[eq_of_beq h6];rfl
  rw[e];clear e;go_enter Tryz.func116,Tryz.ntmps116;go_wp2;go_ret;exact⟨rfl,rfl⟩
 | false =>
 cases h7:(s.toList==[62,61]) with
 | true =>
  have e:opK s.toList=15:=by rw[eq_of_beq h7];rfl
  rw[e];clear e;go_enter Tryz.func116,Tryz.ntmps116;go_wp2;go_ret;exact⟨rfl,rfl⟩
 | false =>
 cases h8:(s.toList==[43]) with
 | true =>
  have e:opK s.toList=5:=by rw[eq_of_beq h8];rfl
  rw[e];clear e;go_enter Tryz.func116,Tryz.ntmps116;go_wp2;go_ret;exact⟨rfl,rfl⟩
 | false =>
 cases h9:(s.toList==[45]) with
 | true =>
  have e:opK s.toList=6:=by rw[eq_of_beq h9];rfl
  rw[e];clear e;go_enter Tryz.func116,Tryz.ntmps116;go_wp2;go_ret;exact⟨rfl,rfl⟩
 | false =>
 cases h10:(s.toList==[42]) with
 | true =>
  have e:opK s.toList=7:=by rw[eq_of_beq h10];rfl
  rw[e];clear e;go_enter Tryz.func116,Tryz.ntmps116;go_wp2;go_ret;exact⟨rfl,rfl⟩
 | false =>
 cases h11:(s.toList==[47]) with
 | true =>
  have e:opK s.toList=8:=by rw[eq_of_beq h11];rfl
  rw[e];clear e;go_enter Tryz.func116,Tryz.ntmps116;go_wp2;go_ret;exact⟨rfl,rfl⟩
 | false =>
 cases h12:(s.toList==[37]) with
 | true =>
  have e:opK s.toList=9:=by rw[eq_of_beq h12];rfl
  rw[e];clear e;go_enter Tryz.func116,Tryz.ntmps116;go_wp2;go_ret;exact⟨rfl,rfl⟩
 | false =>
 have e:opK s.toList=0:=by
  have f:∀ l,(s.toList==l)=false→s.toList≠l:=fun l h=>beq_eq_false_iff_ne.1 h;unfold opK;rw[if_neg (f _ h0),if_neg (f _ h1),if_neg (f _ h2),if_neg (f _ h3),if_neg (f _ h4),if_neg (f _ h5),if_neg (f _ h6),if_neg (f _ h7),if_neg (f _ h8),if_neg (f _ h9),if_neg (f _ h10),if_neg (f _ h11),if_neg (f _ h12)]
 rw[e];clear e;go_enter Tryz.func116,Tryz.ntmps116;go_wp2;go_ret;exact⟨rfl,rfl⟩
theorem lowest_any (l:Nat) (hl:l≤7) (b:Bool) (w:World):Calls Tryz.prog 118 #[.int .i64 l,.bool b] w fun e w'=>e=.returned (.int .i64 (lowP l b:Nat))∧w=w':=by
 by_cases h3:l=3
 ·subst h3;cases b
  ·go_enter Tryz.func118,Tryz.ntmps118;go_wp2;go_ret;exact⟨rfl,rfl⟩
  ·go_enter Tryz.func118,Tryz.ntmps118;go_wp2;go_ret;exact⟨rfl,rfl⟩
 ·have t3:((l:Int)==3)=false:=beq_eq_false_iff_ne.2 (by omega);cases b
  ·have e:lowP l false=l:=by unfold lowP;rw[if_neg (by simp[h3])]
   rw[e];clear e h3;go_enter Tryz.func118,Tryz.ntmps118;go_wp2;go_ret;exact⟨rfl,rfl⟩
  ·have e:lowP l true=l+1:=by unfold lowP;rw[if_pos (.inl rfl)]
   have e2:((l+1:Nat):Int)=(l:Int)+1:=by omega
   rw[e,e2];clear e h3 e2;go_enter Tryz.func118,Tryz.ntmps118;go_wp2;go_ret;exact⟨rfl,rfl⟩
def Rdr (w:World) (p:Nat) (tv:Value) (at_:Nat) (nv:Value):Prop:=w.heap[p]?=some (.cells #[tv,.int .i64 at_,nv] 161 (0,0))
theorem Rdr.c0 {w:World} {p:Nat} {tv nv:Value} {k:Nat} (h:Rdr w p tv k nv):w.cell? ⟨p,0,none⟩=some tv:=by rw[cell_of_row w p 0 _ _ _ h];rfl
theorem Rdr.c1 {w:World} {p:Nat} {tv nv:Value} {k:Nat} (h:Rdr w p tv k nv):w.cell? ⟨p,1,none⟩=some (.int .i64 k):=by rw[cell_of_row w p 1 _ _ _ h];rfl
theorem Rdr.c2 {w:World} {p:Nat} {tv nv:Value} {k:Nat} (h:Rdr w p tv k nv):w.cell? ⟨p,2,none⟩=some nv:=by rw[cell_of_row w p 2 _ _ _ h];rfl
theorem Rdr.fz {w:World} {p:Nat} {tv nv:Value} {k:Nat} (h:Rdr w p tv k nv) {o:Nat}:w.frozen? ⟨p,o,none⟩=false:=by rw[World.frozen?];simp[show w.heap[p]?=_ from h]
theorem Rdr.lt {w:World} {p:Nat} {tv nv:Value} {k:Nat} (h:Rdr w p tv k nv):p<w.heap.size:=by
 rcases Nat.lt_or_ge p w.heap.size with h'|h'
 ·exact h'
 ·unfold Rdr at h;rw[Array.getElem?_eq_none h'] at h;cases h
theorem Rdr.keep {w w':World} {B p:Nat} {tv nv:Value} {k:Nat} (h:Rdr w p tv k nv) (hb:Below B w w') (hg:p<B):Rdr w' p tv k nv:=(hb.block p hg).trans h
def Toks (w:World) (a:Option Addr) (L:List TokE):Prop:=∀ i,i<L.length→∃ x,a=some x∧w.cell? (x.add (i * 6))=some (.int .i64 (L.getD i default).kd)∧w.cell? ⟨(x.add (i * 6)).block,(x.add (i * 6)).off+1,none⟩=some (.string (L.getD i default).tx) ∧
 w.cell? ⟨(x.add (i * 6)).block,(x.add (i * 6)).off+2,none⟩=some (.int .i64 (L.getD i default).iv)∧w.cell? ⟨(x.add (i * 6)).block,(x.add (i * 6)).off+3,none⟩=some (.float .f64 (L.getD i default).rl) ∧
 w.cell? ⟨(x.add (i * 6)).block,(x.add (i * 6)).off+4,none⟩=some (.int .i64 (L.getD i default).pl)∧w.cell? ⟨(x.add (i * 6)).block,(x.add (i * 6)).off+5,none⟩=some (.int .i64 (L.getD i default).sz)
theorem drew_below (w:World):Below w.heap.size w w.drew:=(Below.refl _ w).drew
theorem mark_any (p cap k:Nat) (a:Option Addr) (L:List TokE) (nv:Value) (w:World) (hr:Rdr w p (.slice a L.length cap) k nv) (hT:Toks w a L) (hn:L.length≤140737488355328) :
  Calls Tryz.prog 117 #[.pointer (some ⟨p,0,none⟩)] w fun e w'=>e=.returned (.string (markT L k))∧Below w.heap.size w w':=by
 have c0:=hr.c0;have c1:=hr.c1;have C0:w.drew.cell? ⟨p,0,none⟩=some (.slice a L.length cap):=c0;have C1:w.drew.cell? ⟨p,1,none⟩=some (.int .i64 k):=c1;by_cases hk:k<L.length
 ·obtain⟨x,rfl,h0,h1,_,_,_,_⟩:=hT k hk;have H1:w.drew.drew.cell? ⟨(x.add (k * 6)).block,(x.add (k * 6)).off+1,none⟩=some (.string (L.getD k default).tx):=h1;have d1:decide ((k:Int)<(L.length:Int))=true:=decide_eq_true (by omega);have hm:markT L k=if (L.getD k default).kd=5 then (L.getD k default).tx else ⟨#[]⟩:=by
   unfold markT;by_cases h5:(L.getD k default).kd=5
   ·rw[if_pos ⟨hk,h5⟩,if_pos h5]
   ·rw[if_neg (fun h=>h5 h.2),if_neg h5]
  rw[hm];generalize L.getD k default=t at h0 h1 H1;generalize L.length=n at c0 C0 hk d1 hn ⊢;clear hr hT hm;by_cases h5:t.kd=5
  ·rw[if_pos h5];rw[h5] at h0;clear h5;generalize t.tx=tx at h1 H1 ⊢;go_enter Tryz.func117,Tryz.ntmps117;go_upto_region 1 with (fail);go_region
   all_goals go_wp2
   all_goals go_region
   all_goals go_wp2
   all_goals go_ret
   all_goals exact⟨rfl,((Below.refl _ w).drew).drew⟩
  ·rw[if_neg h5];have d5:(t.kd==5)=false:=beq_eq_false_iff_ne.2 h5;clear h5;generalize t.kd=kd at h0 d5;go_enter Tryz.func117,Tryz.ntmps117;go_upto_region 1 with (fail);go_region
   all_goals go_wp2
   all_goals go_ret
   all_goals exact⟨rfl,(Below.refl _ w).drew⟩
 ·have d1:decide ((k:Int)<(L.length:Int))=false:=decide_eq_false (by omega);have hm:markT L k=⟨#[]⟩:=by unfold markT;rw[if_neg (fun h=>hk h.1)]
  rw[hm];generalize L.length=n at c0 C0 hk d1 hn ⊢;clear hr hT hm;go_enter Tryz.func117,Tryz.ntmps117;go_upto_region 1 with (fail);go_region
  all_goals go_wp2
  all_goals go_ret
  all_goals exact⟨rfl,(Below.refl _ w).drew⟩
open Lib(hid)
theorem own_keep {w w':World} {B base size n:Nat} {e:TypeId} {v:Value} {xs:List Value} (h:w.ownsRow base e size v n xs) (hb:Below B w w') (hB:w.heap.size≤B):w'.ownsRow base e size v n xs:=by
 refine⟨h.1,?_⟩;rcases h.2 with hn|⟨g,cap,cur,rfl,hbs,hgg,rest⟩
 ·exact .inl hn
 ·refine .inr ⟨g,cap,cur,rfl,hbs,?_,rest⟩;rw[hb.block g (by have:=(Array.getElem?_eq_some_iff.1 hgg).1;omega)];exact hgg
def Tab (w:World):Prop:=∀ i,i<27→w.cell? ⟨0,i * 3,none⟩=some (.string ⟨(shTx i).toArray⟩)∧w.cell? ⟨0,i * 3+1,none⟩=some (.int .i64 (shLv i:Nat))∧w.cell? ⟨0,i * 3+2,none⟩=some (.int .i64 (shCh i:Nat))
theorem Tab.of_block {w w':World} (h:Tab w) (hb:w'.heap[0]?=w.heap[0]?):Tab w':=fun i hi=>by
 obtain⟨h0,h1,h2⟩:=h i hi;exact⟨(World.cell?_of_block (a:=⟨0,_,none⟩) hb).trans h0,(World.cell?_of_block (a:=⟨0,_,none⟩) hb).trans h1,(World.cell?_of_block (a:=⟨0,_,none⟩) hb).trans h2⟩
structure St (w:World) (p cap:Nat) (a:Option Addr) (L:List TokE) (k:Nat) (nv:Value) (ns:List Nd):Prop where
 rdr:Rdr w p (.slice a L.length cap) k nv
 toks:Toks w a L
 low:∀ x,a=some x→∀ n,(x.add n).block<p
 row:w.ownsRow (p+1) 104 9 nv ns.length (flatN ns)
 len:L.length≤140737488355328
 at_:k≤L.length
 tab:Tab w
 gp:0<p
theorem St.below {w w':World} {p cap k:Nat} {a:Option Addr} {L:List TokE} {nv:Value} {ns:List Nd} (h:St w p cap a L k nv ns) (hb:Below w.heap.size w w'):St w' p cap a L k nv ns:=by
 refine⟨h.rdr.keep hb h.rdr.lt,fun i hi=>?_,h.low,own_keep h.row hb (Nat.le_refl _),h.len,h.at_,h.tab.of_block (hb.block _ (Nat.lt_trans h.gp h.rdr.lt)),h.gp⟩;obtain⟨x,hx,h0,h1,h2,h3,h4,h5⟩:=h.toks i hi;have hl:(x.add (i * 6)).block<w.heap.size:=Nat.lt_trans (h.low x hx _) h.rdr.lt;exact⟨x,hx,(hb.cell hl).trans h0,(hb.cell (p:=⟨(x.add (i * 6)).block,_,none⟩) hl).trans h1,(hb.cell (p:=⟨(x.add (i * 6)).block,_,none⟩) hl).trans h2,(hb.cell (p:=⟨(x.add (i * 6)).block,_,none⟩) hl).trans h3,(hb.cell (p:=⟨(x.add (i * 6)).block,_,none⟩) hl).trans h4,(hb.cell (p:=⟨(x.add (i * 6)).block,_,none⟩) hl).trans h5⟩
theorem St.move {w:World} {p cap k:Nat} {a:Option Addr} {L:List TokE} {nv:Value} {ns:List Nd} (h:St w p cap a L k nv ns) (k':Nat) (hk:k'≤L.length):St (w.setCell ⟨p,1,none⟩ (.int .i64 k')) p cap a L k' nv ns:=by
 refine⟨heap_setCell_same w p 1 _ _ (.int .i64 k') h.rdr,fun i hi=>?_,h.low,ownsRow_setCell_below h.row (by show p<p+1;omega) _,h.len,hk,h.tab.of_block (Below.heap_setCell _ _ _ _ (by show _≠p;have:=h.gp;omega)),h.gp⟩;obtain⟨x,hx,h0,h1,h2,h3,h4,h5⟩:=h.toks i hi;have hlow:=h.low x hx (i * 6);have hne:∀ o,(⟨p,1,none⟩:Addr)≠⟨(x.add (i * 6)).block,o,none⟩:=fun o e=>by
  have:=congrArg Addr.block e;simp only at this;omega
 have hne0:(⟨p,1,none⟩:Addr)≠x.add (i * 6):=fun e=>by
  have:=congrArg Addr.block e;simp only at this;omega
 exact⟨x,hx,(World.cell?_setCell_other _ _ _ _ hne0).trans h0,(World.cell?_setCell_other _ _ _ _ (hne _)).trans h1,(World.cell?_setCell_other _ _ _ _ (hne _)).trans h2,(World.cell?_setCell_other _ _ _ _ (hne _)).trans h3,(World.cell?_setCell_other _ _ _ _ (hne _)).trans h4,(World.cell?_setCell_other _ _ _ _ (hne _)).trans h5⟩
def gaveUp (k:Nat) (fault:Int):Ending:=.panicked [{ v:=.iface 159 (.agg #[.int .i64 k,.int .i64 fault]),recovered:=false }]
theorem give_any (p k:Nat) (tv nv:Value) (w:World) (hr:Rdr w p tv k nv) :
  Calls Tryz.prog 156 #[.pointer (some ⟨p,0,none⟩)] w fun e w'=>e=gaveUp k 50∧w=w':=by
 have c1:=hr.c1;go_enter Tryz.func156,Tryz.ntmps156;go_wp2;exact⟨rfl,rfl,rfl⟩
theorem want_any (p cap k:Nat) (a:Option Addr) (L:List TokE) (nv:Value) (ns:List Nd) (m:ByteArray) (hm:m.data.toList≠[]) (w:World) (h:St w p cap a L k nv ns) :
  Calls Tryz.prog 140 #[.pointer (some ⟨p,0,none⟩),.string m] w fun e w' =>
   ((isM (gL L k) m.data.toList=false∧e=gaveUp k 50)∨(isM (gL L k) m.data.toList=true∧k<L.length∧e=.returned (.tuple #[])∧St w' p cap a L (k+1) nv ns))∧Below p w w':=by
 have HM:=hid (mark_any p cap k a L nv w h.rdr h.toks h.len);have him:=isM_mark L k m.data.toList hm;have HH:=hid h;have hkl:isM (gL L k) m.data.toList=true→k<L.length:=by
  intro hi;rcases Nat.lt_or_ge k L.length with h'|h'
  ·exact h'
  ·unfold gL at hi;rw[if_neg (by omega)] at hi;cases hi
 have hlen:=h.len;rw[him] at hkl ⊢;generalize markT L k=t at HM hkl ⊢;cases hb:(t.data.toList==m.data.toList) with
 | true =>
  have hk:=hkl hb;have e1:(t.toList==m.toList)=true:=by rw[tl_dat,tl_dat];exact hb
  have e2:(t.toList != m.toList)=false:=by rw[bne,e1];rfl
  clear hkl him hb h;go_enter Tryz.func140,Tryz.ntmps140;go_wp2_with (go_at_call 117;refine HM.out.mono ?_;rintro e w1 ⟨rfl,hb1⟩;have HS:=hid (HH.out.below hb1);have HB:=hid hb1;have c1:=HS.out.rdr.c1;have fz:w1.frozen? ⟨p,1,none⟩=false:=HS.out.rdr.fz;clear hb1);rw[show (k:Int)+1=((k+1:Nat):Int) by omega];go_end0;exact⟨.inr ⟨by first|rfl|trivial,hk,rfl,HS.out.move (k+1) (by omega)⟩,(HB.out.mono (Nat.le_of_lt HH.out.rdr.lt)).setCell (Nat.le_refl p) _⟩
 | false =>
  have e1:(t.toList==m.toList)=false:=by rw[tl_dat,tl_dat];exact hb
  have e2:(t.toList != m.toList)=true:=by rw[bne,e1];rfl
  clear hkl him hb h;go_enter Tryz.func140,Tryz.ntmps140;go_wp2_with (first|(go_at_call 117;refine HM.out.mono ?_;rintro e w1 ⟨rfl,hb1⟩;have HS:=hid (HH.out.below hb1);have HB:=hid hb1;clear hb1)|(go_at_call 156;refine(give_any p k _ nv _ HS.out.rdr).mono ?_;rintro e w' ⟨rfl,rfl⟩;unfold gaveUp));exact⟨rfl,.inl ⟨by first|rfl|trivial,rfl⟩,HB.out.mono (Nat.le_of_lt HH.out.rdr.lt)⟩
def ndV (n:Nd):Value:=.agg #[.int .i64 n.k,.int .i64 n.a,.int .i64 n.b,.string n.nm,.int .i64 n.vk,.int .i64 n.vi,.float .f64 n.rl,.complex .f64 n.re n.im,.string n.tx]
theorem infoN:(Tryz.prog.info? 104).map (fun i=>(i.zero,i.size,i.bytes))=some (some (.agg #[.int .i64 0,.int .i64 0,.int .i64 0,.string ⟨#[]⟩,.int .i64 0,.int .i64 0,.float .f64 0,.complex .f64 0 0,.string ⟨#[]⟩]),9,96):=by kernel_rfl
theorem info_parts3 {o:Option TypeInfo} {z:Option Value} {s b:Nat} (h:o.map (fun i=>(i.zero,i.size,i.bytes))=some (z,s,b)):∃ i,o=some i∧i.zero=z∧i.size=s∧i.bytes=b:=by
 cases o with
 | none=>cases h
 | some i =>
  simp only[Option.map_some,Option.some.injEq,Prod.mk.injEq] at h;exact⟨i,rfl,h.1,h.2.1,h.2.2⟩
theorem nd_one (n:Nd):∀ u ∈ ndCells n,u.oneCell'=true:=by
 intro u hu;simp[ndCells] at hu;rcases hu with rfl|rfl|rfl|rfl|rfl|rfl|rfl|rfl|rfl <;> rfl
theorem flatN_snoc (ns:List Nd) (n:Nd):flatN (ns++[n])=flatN ns++ndCells n:=by simp[flatN]
theorem cells_laid (w:World) (l:List Value) (t:TypeId):∀ j u,l[j]?=some u→(w.alloc (.cells l.toArray t)).cell? ((⟨w.heap.size,0,none⟩:Addr).add j)=some u:=by
 intro j u h;have hadd:(⟨w.heap.size,0,none⟩:Addr).add j=⟨w.heap.size,j,none⟩:=by unfold Addr.add;split <;> simp_all
 rw[hadd,cell_of_row _ _ j _ _ _ (heap_alloc_new w _)]
 simpa using h
theorem rdr_grown {W w1:World} {p k:Nat} {tv nv:Value} {row:Option Nat} (h:Rdr W p tv k nv) (hg:W.grownBy w1 row) (hn:∀ b,row=some b→p+1≤b):Rdr w1 p tv k nv :=
 (hg.block p h.lt (fun e=>by have:=hn p e.symm;omega)).trans h
theorem St.grow {W w1:World} {p cap k g cap':Nat} {a:Option Addr} {L:List TokE} {nv:Value} {ns:List Nd} {n:Nd} (h:St W p cap a L k nv ns) (hg:W.grownBy w1 nv.ownBlock)
  (hown:w1.ownsRow (p+1) 104 9 (.slice (some ⟨g,0,none⟩) (ns.length+1) cap') (ns.length+1) (flatN ns++ndCells n)) :
  St (w1.setCell ⟨p,2,none⟩ (.slice (some ⟨g,0,none⟩) (ns.length+1) cap')) p cap a L k (.slice (some ⟨g,0,none⟩) (ns.length+1) cap') (ns++[n]):=by
 have hn:∀ b,nv.ownBlock=some b→p+1≤b:=fun b hb=>(h.row.lt b hb).1;have hr:=rdr_grown h.rdr hg hn;refine⟨heap_setCell_same w1 p 2 _ _ _ hr,fun i hi=>?_,h.low,?_,h.len,h.at_,h.tab.of_block ((Below.heap_setCell _ _ _ _ (by show _≠p;have:=h.gp;omega)).trans (hg.block _ (Nat.lt_trans h.gp h.rdr.lt) (fun e=>by have:=hn _ e.symm;have:=h.gp;omega))),h.gp⟩
 ·obtain⟨x,hx,h0,h1,h2,h3,h4,h5⟩:=h.toks i hi;have hlow:=h.low x hx (i * 6);have hblk:w1.heap[(x.add (i * 6)).block]?=W.heap[(x.add (i * 6)).block]?:=hg.block _ (Nat.lt_trans hlow h.rdr.lt) (fun e=>by have:=hn _ e.symm;omega);have hne:∀ o,(⟨p,2,none⟩:Addr)≠⟨(x.add (i * 6)).block,o,none⟩:=fun o e=>by
   have:=congrArg Addr.block e;simp only at this;omega
  have hne0:(⟨p,2,none⟩:Addr)≠x.add (i * 6):=fun e=>by
   have:=congrArg Addr.block e;simp only at this;omega
  exact⟨x,hx,((World.cell?_setCell_other _ _ _ _ hne0).trans (World.cell?_of_block hblk)).trans h0,((World.cell?_setCell_other _ _ _ _ (hne _)).trans (World.cell?_of_block hblk)).trans h1,
   ((World.cell?_setCell_other _ _ _ _ (hne _)).trans (World.cell?_of_block hblk)).trans h2,((World.cell?_setCell_other _ _ _ _ (hne _)).trans (World.cell?_of_block hblk)).trans h3,((World.cell?_setCell_other _ _ _ _ (hne _)).trans (World.cell?_of_block hblk)).trans h4,((World.cell?_setCell_other _ _ _ _ (hne _)).trans (World.cell?_of_block hblk)).trans h5⟩
 ·rw[flatN_snoc,List.length_append];exact ownsRow_setCell_below hown (by show p<p+1;omega) _
theorem add_any (p cap k:Nat) (a:Option Addr) (L:List TokE) (nv:Value) (ns:List Nd) (n:Nd) (w:World) (h:St w p cap a L k nv ns) (hlen:ns.length≤1000000000000) :
  Calls Tryz.prog 142 #[.pointer (some ⟨p,0,none⟩),ndV n] w fun e w' =>
   (e=.returned (.int .i64 ns.length)∧∃ nv',St w' p cap a L k nv' (ns++[n]))∧Below p w w':=by
 obtain⟨i0,hi,hz0,hz1,hz2⟩:=info_parts3 infoN;obtain⟨W0,hW0⟩:∃ W0,W0=w.alloc (.cells #[.int .i64 n.k,.int .i64 n.a,.int .i64 n.b,.string n.nm,.int .i64 n.vk,.int .i64 n.vi,.float .f64 n.rl,.complex .f64 n.re n.im,.string n.tx] 104):=⟨_,rfl⟩
 have hB0:Below w.heap.size w W0:=by rw[hW0];exact(Below.refl w.heap.size w).alloc (Nat.le_refl _) _
 have hb0:W0.heap[w.heap.size]?=some (.cells #[.int .i64 n.k,.int .i64 n.a,.int .i64 n.b,.string n.nm,.int .i64 n.vk,.int .i64 n.vi,.float .f64 n.rl,.complex .f64 n.re n.im,.string n.tx] 104 (0,0)):=by rw[hW0];exact heap_alloc_new _ _
 have HW0:=hid hW0;have HH:=hid (h.below hB0);have HB0:=hid (hB0.mono (Nat.le_of_lt h.rdr.lt));have c2:=HH.out.rdr.c2;have fz:=HH.out.rdr.fz (o:=2);have n0:W0.cell? ⟨w.heap.size,0,none⟩=some (.int .i64 n.k):=by rw[cell_of_row W0 _ 0 _ _ _ hb0];rfl
 have n1:W0.cell? ⟨w.heap.size,1,none⟩=some (.int .i64 n.a):=by rw[cell_of_row W0 _ 1 _ _ _ hb0];rfl
 have n2:W0.cell? ⟨w.heap.size,2,none⟩=some (.int .i64 n.b):=by rw[cell_of_row W0 _ 2 _ _ _ hb0];rfl
 have n3:W0.cell? ⟨w.heap.size,3,none⟩=some (.string n.nm):=by rw[cell_of_row W0 _ 3 _ _ _ hb0];rfl
 have n4:W0.cell? ⟨w.heap.size,4,none⟩=some (.int .i64 n.vk):=by rw[cell_of_row W0 _ 4 _ _ _ hb0];rfl
 have n5:W0.cell? ⟨w.heap.size,5,none⟩=some (.int .i64 n.vi):=by rw[cell_of_row W0 _ 5 _ _ _ hb0];rfl
 have n6:W0.cell? ⟨w.heap.size,6,none⟩=some (.float .f64 n.rl):=by rw[cell_of_row W0 _ 6 _ _ _ hb0];rfl
 have n7:W0.cell? ⟨w.heap.size,7,none⟩=some (.complex .f64 n.re n.im):=by rw[cell_of_row W0 _ 7 _ _ _ hb0];rfl
 have n8:W0.cell? ⟨w.heap.size,8,none⟩=some (.string n.tx):=by rw[cell_of_row W0 _ 8 _ _ _ hb0];rfl
 have hp0:=HH.out.rdr.lt;have HR:Hid (Rdr (W0.drew.alloc (.cells (ndCells n).toArray 104)) p (.slice a L.length cap) k nv):=hid (HH.out.rdr.keep (((Below.refl W0.heap.size W0).drew).alloc (Nat.le_refl _) _) HH.out.rdr.lt);unfold ndV;clear h hW0 hB0 hb0;go_enter Tryz.func142,Tryz.ntmps142;go_upto_region 1 with (fail);rw[← HW0.out]
 go_region_law (refine step_append_lies _ rfl (.tmp 9) (.tmp 11) 39 rfl (p+1) 104 i0 (.agg #[.int .i64 0,.int .i64 0,.int .i64 0,.string ⟨#[]⟩,.int .i64 0,.int .i64 0,.float .f64 0,.complex .f64 0 0,.string ⟨#[]⟩]) 9 96 Tryz.underlying39 hi hz0 hz1 hz2 rfl (by decide) nv ns.length (flatN ns) rfl (HH.out.row.drew.alloc _) ⟨W0.heap.size,0,none⟩ 1 1 (ndCells n) rfl rfl (cells_laid W0.drew (ndCells n) 104) (nd_one n) (by decide) (by unfold maxLen;omega) (by omega) (by simp;omega) _ rfl ?_;intro g cap' w1 hown hgrow hg hlt;have hr1:Rdr w1 p (.slice a L.length cap) k nv:=rdr_grown (HR.out) hgrow (fun b hb=>(HH.out.row.lt b hb).1);have c2':=hr1.c2;have fz':=hr1.fz (o:=2))
 all_goals
  have hs:=(HH.out.below (((Below.refl W0.heap.size W0).drew).alloc (Nat.le_refl _) (.cells (ndCells n).toArray 104))).grow hgrow hown;have hbw:Below p w (w1.setCell ⟨p,2,none⟩ (.slice (some ⟨g,0,none⟩) (ns.length+1) cap')):=((HB0.out.trans ((((Below.refl W0.heap.size W0).drew).alloc (Nat.le_refl _) (.cells (ndCells n).toArray 104)).mono (Nat.le_of_lt hp0))).grown hgrow (by simp;omega) (fun b hb=>by have:=(HH.out.row.lt b hb).1;omega)).setCell (Nat.le_refl p) _;have HS:=hid hs;have HBW:=hid hbw;have d2:=hs.rdr.c2;clear hs hbw hgrow hown hr1 c2' fz' hg;go_wp2;go_ret;exact⟨⟨rfl,_,HS.out⟩,HBW.out⟩
def opsT (n:Nat):List (List UInt8):=if n=1 then [[124,124]] else if n=2 then [[38,38]] else if n=3 then [[61,61],[33,61],[60],[60,61],[62],[62,61]] else if n=4 then [[43],[45]] else if n=5 then [[42],[47],[37]] else if n=6 then [[45],[33]] else []
def opsK (n:Nat):List Nat:=if n=1 then [17] else if n=2 then [16] else if n=3 then [10,11,12,13,14,15] else if n=4 then [5,6] else if n=5 then [7,8,9] else if n=6 then [3,4] else []
def firstM (c:Cl):List (List UInt8)→List Nat→Nat
 | s :: ss,k :: ks=>if isM c s=true then k else firstM c ss ks
 | _,_=>0
def oneK (n:Nat) (c:Cl):Nat:=if n=6 then sgK c else if opL (clK c)=n then clK c else 0
theorem ops_len (n:Nat):(opsT n).length=(opsK n).length:=by
 unfold opsT opsK
 repeat' split
 all_goals rfl
theorem firstM_none {c:Cl} (h:∀ s,isM c s=false):∀ (ss:List (List UInt8)) (ks:List Nat),firstM c ss ks=0
 | [],_=>by unfold firstM;rfl
 | _ :: _,[]=>by unfold firstM;rfl
 | s :: ss,k :: ks=>by unfold firstM;rw[h s];exact firstM_none h ss ks
theorem firstM_one (n:Nat) (h1:1≤n) (h6:n≤6) (c:Cl):firstM c (opsT n) (opsK n)=oneK n c:=by
 have hn:n=1∨n=2∨n=3∨n=4∨n=5∨n=6:=by omega
 have h0:∀ c:Cl,clK c=0→sgK c=0→oneK n c=0:=fun c h h'=>by
  unfold oneK;rw[h,h'];have e0:opL 0=0:=by decide
  rw[e0];split
  ·rfl
  ·rw[if_neg (by omega)]
 cases c with
 | leaf l=>rw[firstM_none (fun s=>rfl),h0 _ rfl rfl]
 | word k=>rw[firstM_none (fun s=>rfl),h0 _ rfl rfl]
 | no=>rw[firstM_none (fun s=>rfl),h0 _ rfl rfl]
 | mark s =>
  by_cases e1:s=[124,124]
  ·subst e1;rcases hn with rfl|rfl|rfl|rfl|rfl|rfl <;> decide
  by_cases e2:s=[38,38]
  ·subst e2;rcases hn with rfl|rfl|rfl|rfl|rfl|rfl <;> decide
  by_cases e3:s=[61,61]
  ·subst e3;rcases hn with rfl|rfl|rfl|rfl|rfl|rfl <;> decide
  by_cases e4:s=[33,61]
  ·subst e4;rcases hn with rfl|rfl|rfl|rfl|rfl|rfl <;> decide
  by_cases e5:s=[60]
  ·subst e5;rcases hn with rfl|rfl|rfl|rfl|rfl|rfl <;> decide
  by_cases e6:s=[60,61]
  ·subst e6;rcases hn with rfl|rfl|rfl|rfl|rfl|rfl <;> decide
  by_cases e7:s=[62]
  ·subst e7;rcases hn with rfl|rfl|rfl|rfl|rfl|rfl <;> decide
  by_cases e8:s=[62,61]
  ·subst e8;rcases hn with rfl|rfl|rfl|rfl|rfl|rfl <;> decide
  by_cases e9:s=[43]
  ·subst e9;rcases hn with rfl|rfl|rfl|rfl|rfl|rfl <;> decide
  by_cases e10:s=[45]
  ·subst e10;rcases hn with rfl|rfl|rfl|rfl|rfl|rfl <;> decide
  by_cases e11:s=[42]
  ·subst e11;rcases hn with rfl|rfl|rfl|rfl|rfl|rfl <;> decide
  by_cases e12:s=[47]
  ·subst e12;rcases hn with rfl|rfl|rfl|rfl|rfl|rfl <;> decide
  by_cases e13:s=[37]
  ·subst e13;rcases hn with rfl|rfl|rfl|rfl|rfl|rfl <;> decide
  by_cases e14:s=[33]
  ·subst e14;rcases hn with rfl|rfl|rfl|rfl|rfl|rfl <;> decide
  have hk:clK (.mark s)=0:=by
   show opK s=0;unfold opK;rw[if_neg e1,if_neg e2,if_neg e3,if_neg e4,if_neg e5,if_neg e6,if_neg e7,if_neg e8,if_neg e9,if_neg e10,if_neg e11,if_neg e12,if_neg e13]
  have hs:sgK (.mark s)=0:=by
   show (if s=[45] then 3 else if s=[33] then 4 else 0)=0;rw[if_neg e10,if_neg e14]
  rw[h0 _ hk hs];have hm:∀ t:List UInt8,s≠t→isM (.mark s) t=false:=fun t h=>beq_eq_false_iff_ne.2 h;rcases hn with rfl|rfl|rfl|rfl|rfl|rfl
  ·show firstM (.mark s) [[124,124]] [17]=0;simp[firstM,hm _ e1]
  ·show firstM (.mark s) [[38,38]] [16]=0;simp[firstM,hm _ e2]
  ·show firstM (.mark s) [[61,61],[33,61],[60],[60,61],[62],[62,61]] [10,11,12,13,14,15]=0;simp[firstM,hm _ e3,hm _ e4,hm _ e5,hm _ e6,hm _ e7,hm _ e8]
  ·show firstM (.mark s) [[43],[45]] [5,6]=0;simp[firstM,hm _ e9,hm _ e10]
  ·show firstM (.mark s) [[42],[47],[37]] [7,8,9]=0;simp[firstM,hm _ e11,hm _ e12,hm _ e13]
  ·show firstM (.mark s) [[45],[33]] [3,4]=0;simp[firstM,hm _ e10,hm _ e14]
theorem firstM_at {c:Cl}:∀ {ss:List (List UInt8)} {ks:List Nat} {i:Nat} {s:List UInt8} {k:Nat},ss[i]?=some s→ks[i]?=some k→(∀ (j:Nat) (s':List UInt8),j<i→ss[j]?=some s'→isM c s'=false)→isM c s=true→firstM c ss ks=k
 | [],_,i,s,k,h,_,_,_=>by simp at h
 | _ :: _,[],i,s,k,_,h,_,_=>by simp at h
 | s0 :: ss,k0 :: ks,0,s,k,h,h2,_,hm=>by
  simp at h h2;subst h h2;unfold firstM;rw[if_pos hm]
 | s0 :: ss,k0 :: ks,i+1,s,k,h,h2,hn,hm=>by
  unfold firstM;rw[if_neg (by rw[hn 0 s0 (by omega) rfl];decide)];exact firstM_at (i:=i) (by simpa using h) (by simpa using h2) (fun j s' hj hs'=>hn (j+1) s' (by omega) (by simpa using hs')) hm
theorem firstM_end {c:Cl}:∀ {ss:List (List UInt8)} {ks:List Nat},(∀ (j:Nat) (s':List UInt8),ss[j]?=some s'→isM c s'=false)→firstM c ss ks=0
 | [],_,_=>by unfold firstM;rfl
 | _ :: _,[],_=>by unfold firstM;rfl
 | s0 :: ss,k0 :: ks,hn=>by
  unfold firstM;rw[if_neg (by rw[hn 0 s0 rfl];decide)];exact firstM_end (fun j s' hs'=>hn (j+1) s' (by simpa using hs'))
def StrsAt (w:World) (g:Nat) (T:List (List UInt8)):Prop:=∀ (i:Nat) s,T[i]?=some s→w.cell? ⟨g,i,none⟩=some (.string ⟨s.toArray⟩)
def KindsAt (w:World) (g:Nat) (K:List Nat):Prop:=∀ (i:Nat) k,K[i]?=some k→w.cell? ⟨g,i,none⟩=some (.int .i64 (k:Nat))
theorem strs_row {w:World} {g:Nat} {T:List (List UInt8)} {t:TypeId} (h:w.heap[g]?=some (.cells (T.map fun s=>Value.string ⟨s.toArray⟩).toArray t (0,0))):StrsAt w g T:=fun i s hs=>by
 rw[cell_of_row w g i _ _ _ h];simp[hs]
theorem kinds_row {w:World} {g:Nat} {K:List Nat} {t:TypeId} (h:w.heap[g]?=some (.cells (K.map fun (k:Nat)=>Value.int .i64 (k:Int)).toArray t (0,0))):KindsAt w g K:=fun i s hs=>by
 rw[cell_of_row w g i _ _ _ h];simp[hs]
theorem two_rows (w:World) (A B:Array Value) (t u:TypeId):((w.alloc (.cells A t)).alloc (.cells B u)).heap[w.heap.size]?=some (.cells A t (0,0))∧((w.alloc (.cells A t)).alloc (.cells B u)).heap[w.heap.size+1]?=some (.cells B u (0,0))∧Below w.heap.size w ((w.alloc (.cells A t)).alloc (.cells B u))∧((w.alloc (.cells A t)).alloc (.cells B u)).heap.size=w.heap.size+2:=by
 have h1:(w.alloc (.cells A t)).heap[w.heap.size]?=some (.cells A t (0,0)):=heap_alloc_new _ _;have hs:(w.alloc (.cells A t)).heap.size=w.heap.size+1:=by simp
 have hb:Below (w.heap.size+1) (w.alloc (.cells A t)) ((w.alloc (.cells A t)).alloc (.cells B u)):=(Below.refl _ _).alloc (by omega) _;refine⟨(hb.block _ (by omega)).trans h1,?_,(((Below.refl _ w).alloc (Nat.le_refl _) _).alloc (by omega) _),by simp⟩;have:=heap_alloc_new (w.alloc (.cells A t)) (.cells B u);rw[hs] at this;exact this
def OpsD (n:Nat) (w:World) (e:Ending) (w':World):Prop :=
 ∃ g c g2 c2,e=.returned (.tuple #[.slice (some ⟨g,0,none⟩) (opsT n).length c,.slice (some ⟨g2,0,none⟩) (opsK n).length c2])∧StrsAt w' g (opsT n)∧KindsAt w' g2 (opsK n)∧Below w.heap.size w w'∧w.heap.size≤g∧w.heap.size≤g2∧g<w'.heap.size∧g2<w'.heap.size
theorem ops_done (n:Nat) (w:World) (A B:Array Value) (t u:TypeId) (hA:A=((opsT n).map fun s=>Value.string ⟨s.toArray⟩).toArray) (hB:B=((opsK n).map fun (k:Nat)=>Value.int .i64 (k:Int)).toArray) (c c2:Nat) (e:Ending)
  (he:e=.returned (.tuple #[.slice (some ⟨w.heap.size,0,none⟩) (opsT n).length c,.slice (some ⟨w.heap.size+1,0,none⟩) (opsK n).length c2])):OpsD n w e ((w.alloc (.cells A t)).alloc (.cells B u)):=by
 subst hA hB;obtain⟨h1,h2,h3,h4⟩:=two_rows w ((opsT n).map fun s=>Value.string ⟨s.toArray⟩).toArray ((opsK n).map fun (k:Nat)=>Value.int .i64 (k:Int)).toArray t u;exact⟨_,_,_,_,he,strs_row h1,kinds_row h2,h3,Nat.le_refl _,by omega,by omega,by omega⟩
theorem operators_any (n:Nat) (h1:1≤n) (h6:n≤6) (w:World):Calls Tryz.prog 127 #[.int .i64 n] w (OpsD n w):=by
 have hn:n=1∨n=2∨n=3∨n=4∨n=5∨n=6:=by omega
 rcases hn with rfl|rfl|rfl|rfl|rfl|rfl
 all_goals
  go_enter Tryz.func127,Tryz.ntmps127;go_wp2
  go_ret2
  exact ops_done _ w _ _ _ _ rfl rfl _ _ _ rfl
def wdT:List (List UInt8):=[[114,101],[105,109],[115,105,122,101,50],[99,111,109,112],[114,101,97,108],[108,101,110],[97,116],[99,97,116],[115,116,114]]
def wdK:List Nat:=[18,19,20,21,22,23,24,25,26]
theorem firstM_word (s:List UInt8):firstM (.mark s) wdT wdK=wordK s:=by
 show firstM (.mark s) [[114,101],[105,109],[115,105,122,101,50],[99,111,109,112],[114,101,97,108],[108,101,110],[97,116],[99,97,116],[115,116,114]] [18,19,20,21,22,23,24,25,26]=wordK s;simp only[firstM,isM,beq_iff_eq];unfold wordK;rfl
theorem words_any (w:World):Calls Tryz.prog 145 #[] w fun e w'=>e=.returned (.slice (some ⟨w.heap.size,0,none⟩) 9 9)∧w'=w.alloc (.cells (wdT.map fun s=>Value.string ⟨s.toArray⟩).toArray 9):=by
 go_enter Tryz.func145,Tryz.ntmps145;go_wp2;go_ret;exact⟨rfl,rfl⟩
theorem wordKind_any (s:ByteArray) (w:World):Calls Tryz.prog 125 #[.string s] w fun e w'=>e=.returned (.int .i64 (wordK s.data.toList))∧Below w.heap.size w w':=by
 obtain⟨W0,hW0,h1,h2,h3,h4⟩:∃ W0,W0=(w.alloc (.cells (wdT.map fun s=>Value.string ⟨s.toArray⟩).toArray 9)).alloc (.cells #[.int .i64 18,.int .i64 19,.int .i64 20,.int .i64 21,.int .i64 22,.int .i64 23,.int .i64 24,.int .i64 25,.int .i64 26] 3)∧_:=⟨_,rfl,two_rows w (wdT.map fun s=>Value.string ⟨s.toArray⟩).toArray #[.int .i64 18,.int .i64 19,.int .i64 20,.int .i64 21,.int .i64 22,.int .i64 23,.int .i64 24,.int .i64 25,.int .i64 26] 9 3⟩
 rw[← hW0] at h1 h2 h3 h4;have HS:=hid (strs_row h1);have HK:Hid (KindsAt W0 (w.heap.size+1) wdK):=hid (kinds_row (K:=wdK) h2);have HB:=hid h3;have HW0:=hid hW0;clear h1 h2 h3 hW0;rw[← firstM_word];go_enter Tryz.func125,Tryz.ntmps125;go_upto_region 3 with (go_at_call 145;refine(words_any _).mono ?_;rintro e w1 ⟨rfl,rfl⟩);rw[← HW0.out];go_wp2;go_loop [5] (fun i=>∃ k:Nat,i=.int .i64 k∧k≤9∧Hid (∀ (j:Nat) (s':List UInt8),j<k→wdT[j]?=some s'→isM (.mark s.data.toList) s'=false)) (fun i=>9-(intOf i).toNat)
 case atStart=>exact⟨0,rfl,by omega,hid fun j s' hj=>absurd hj (by omega)⟩
 case round =>
  obtain⟨k,rfl,hk,HN⟩:=hrel;rcases Nat.lt_or_ge k 9 with hlt|hge
  ·have hl1:wdT.length=9:=rfl;have hl2:wdK.length=9:=rfl;obtain⟨T,hT⟩:∃ T,wdT[k]?=some T:=⟨_,List.getElem?_eq_getElem (by omega)⟩
   obtain⟨K,hK⟩:∃ K,wdK[k]?=some K:=⟨_,List.getElem?_eq_getElem (by omega)⟩
   have c0:=HS.out k T hT;have c1:=HK.out k K hK;have HT:=hid hT;have HKK:=hid hK;clear hT hK hl1 hl2;cases hb:(T==s.data.toList) with
   | true =>
    have HM:Hid (firstM (.mark s.data.toList) wdT wdK=K):=hid (firstM_at HT.out HKK.out HN.out (by show (s.data.toList==T)=true;rw[beq_iff_eq] at hb ⊢;exact hb.symm));have e1:(T==s.toList)=true:=by rw[tl_dat];exact hb
    clear hb;go_wp2;go_ret;exact⟨by rw[HM.out];rfl,HB.out⟩
   | false =>
    have hnb:isM (.mark s.data.toList) T=false:=by
     show (s.data.toList==T)=false;rw[beq_eq_false_iff_ne] at hb ⊢;exact fun e=>hb e.symm
    have HN2:=hid (fun (j:Nat) (s':List UInt8) (hj:j<k+1) (hs:wdT[j]?=some s')=>(by
     rcases Nat.lt_or_ge j k with h|h
     ·exact HN.out j s' h hs
     ·obtain rfl:j=k:=by omega
      have:=hs.symm.trans HT.out;cases this;exact hnb:isM (.mark s.data.toList) s'=false))
    have e1:(T==s.toList)=false:=by rw[tl_dat];exact hb
    clear hb hnb;go_wp2
    go_round
    case rel=>exact⟨k+1,by go_num,by omega,HN2⟩
    case measure=>simp[intOf];omega
  ·obtain rfl:k=9:=by omega
   have HM:Hid (firstM (.mark s.data.toList) wdT wdK=0):=hid (firstM_end fun j s' hs=>HN.out j s' (by obtain⟨h,_⟩:=List.getElem?_eq_some_iff.1 hs;exact h) hs);go_wp2;go_ret;exact⟨by rw[HM.out];rfl,HB.out⟩
theorem opsK_lt (n:Nat):∀ (i k:Nat),(opsK n)[i]?=some k→k<18:=by
 intro i k h;have hm:=List.mem_of_getElem? h;have:∀ k ∈ opsK n,k<18:=by
  unfold opsK
  repeat' split
  all_goals decide
 exact this k hm
theorem opsK_six (n:Nat):(opsK n).length≤6:=by
 unfold opsK
 repeat' split
 all_goals decide
theorem levelOf_any (kd:Nat) (h:18≤kd) (h2:kd≤26) (w:World):Calls Tryz.prog 146 #[.int .i64 kd] w fun e w'=>e=.returned (.int .i64 7)∧Below w.heap.size w w':=by
 go_enter Tryz.func146,Tryz.ntmps146;go_wp2
 go_loopw [3] (fun v wr=>∃ n:Nat,v=.int .i64 n∧1≤n∧n≤7∧Hid (Below w.heap.size w wr)) (fun v _=>7-(intOf v).toNat)
 case atStart=>exact⟨1,rfl,by omega,by omega,hid (Below.refl _ _)⟩
 case round =>
  obtain⟨n,rfl,hn1,hn7,HB⟩:=hrel;rcases Nat.lt_or_ge n 7 with hlt|hge
  ·have HO:=hid (operators_any n hn1 (by omega) wr);have hle:=hid (HB.out.size);go_wp2_with (go_at_call 127;refine HO.out.mono ?_;rintro e w1 ⟨g,c,g2,c2,rfl,hs,hk,hb,hg,hg2,hl,hl2⟩;have HK:=hid hk;have HB1:=hid (HB.out.trans (hb.mono hle.out));clear hs hk hb;have hN6:=opsK_six n;generalize hN:(opsK n).length=N at hN6 ⊢);go_loop [6] (fun v=>∃ i:Nat,v=.int .i64 i∧i≤N) (fun v=>N-(intOf v).toNat)
   case atStart=>exact⟨0,rfl,Nat.zero_le _⟩
   case round =>
    obtain⟨i,rfl,hi⟩:=hrel;rcases Nat.lt_or_ge i N with hlt2|hge2
    ·obtain⟨K,hK⟩:∃ K,(opsK n)[i]?=some K:=⟨_,List.getElem?_eq_getElem (by omega)⟩
     have hK18:=opsK_lt n i K hK;have c1:=HK.out i K hK;have d1:((K:Int)==(kd:Int))=false:=beq_eq_false_iff_ne.2 (by omega);clear hK;go_wp2
     go_round
     case rel=>exact⟨i+1,by go_num,by omega⟩
     case measure=>simp[intOf];omega
    ·obtain rfl:i=N:=by omega
     go_wp2;go_roundw
     case rel=>exact⟨n+1,by go_num,by omega,by omega,HB1⟩
     case measure=>simp[intOf];omega
  ·obtain rfl:n=7:=by omega
   go_wp2;go_ret;exact⟨rfl,HB.out⟩
theorem kids_any (kd:Nat) (h:18≤kd) (h2:kd≤26) (w:World):Calls Tryz.prog 126 #[.int .i64 kd] w fun e w'=>e=.returned (.int .i64 (wdN kd))∧Below w.heap.size w w':=by
 have hk:kd=18∨kd=19∨kd=20∨kd=21∨kd=22∨kd=23∨kd=24∨kd=25∨kd=26:=by omega
 have HL:=hid (levelOf_any kd h h2 w);clear h h2;rcases hk with rfl|rfl|rfl|rfl|rfl|rfl|rfl|rfl|rfl
 all_goals
  go_enter Tryz.func126,Tryz.ntmps126;go_wp2_with (go_at_call 146;refine HL.out.mono ?_;rintro e w1 ⟨rfl,hb⟩);go_ret;exact⟨rfl,hb⟩
end Go.Proofs.YtkpboalccpancaaGreatDoor
