import Derived.Test.YtenlhcgpajphhaaGreatDoorMExPlain
import Derived.Test.YtenlhcgpajphhaaGreatDoorRows
import Derived.WalkKit
import Derived.WalkSpells
import Derived.WalkLawsBesides
import Derived.Lib.Hide
import Derived.Deep.Cut
import Derived.Deep.RegionHeld3
import Derived.Deep.RegionWith
import Derived.Below
import Derived.Laws.AppendOwn
import Derived.Deep.RegionLaw
import Derived.Deep.AppendLies
namespace Go.Proofs.YtenlhcgpajphhaaGreatDoor
open Go.RowKit
set_option maxRecDepth 100000
set_option linter.all false
set_option maxHeartbeats 4000000
theorem tl_dat (s:ByteArray):s.toList=s.data.toList:=by
 cases s with
 | mk d=>rw[← Array.toArray_toList (xs:=d),ByteArray.toList_mk]
theorem between_any (s:ByteArray) (w:World):Calls Tryz.prog 154 #[.string s] w fun e w'=>e=.returned (.int .i64 (opK s.data.toList:Nat))∧w=w':=by
 rw[← tl_dat];cases h0:(s.toList==[124,124]) with
 | true =>
  have e:opK s.toList=17:=by rw[eq_of_beq h0];rfl
  rw[e];clear e;go_enter Tryz.func154,Tryz.ntmps154;go_wp2;go_ret;exact⟨rfl,rfl⟩
 | false =>
 cases h1:(s.toList==[38,38]) with
 | true =>
  have e:opK s.toList=16:=by rw[eq_of_beq h1];rfl
  rw[e];clear e;go_enter Tryz.func154,Tryz.ntmps154;go_wp2;go_ret;exact⟨rfl,rfl⟩
 | false =>
 cases h2:(s.toList==[61,61]) with
 | true =>
  have e:opK s.toList=10:=by rw[eq_of_beq h2];rfl
  rw[e];clear e;go_enter Tryz.func154,Tryz.ntmps154;go_wp2;go_ret;exact⟨rfl,rfl⟩
 | false =>
 cases h3:(s.toList==[33,61]) with
 | true =>
  have e:opK s.toList=11:=by rw[eq_of_beq h3];rfl
  rw[e];clear e;go_enter Tryz.func154,Tryz.ntmps154;go_wp2;go_ret;exact⟨rfl,rfl⟩
 | false =>
 cases h4:(s.toList==[60]) with
 | true =>
  have e:opK s.toList=12:=by rw[eq_of_beq h4];rfl
  rw[e];clear e;go_enter Tryz.func154,Tryz.ntmps154;go_wp2;go_ret;exact⟨rfl,rfl⟩
 | false =>
 cases h5:(s.toList==[60,61]) with
 | true =>
  have e:opK s.toList=13:=by rw[eq_of_beq h5];rfl
  rw[e];clear e;go_enter Tryz.func154,Tryz.ntmps154;go_wp2;go_ret;exact⟨rfl,rfl⟩
 | false =>
 cases h6:(s.toList==[62]) with
 | true =>
  have e:opK s.toList=14:=by rw[eq_of_beq h6];rfl
  rw[e];clear e;go_enter Tryz.func154,Tryz.ntmps154;go_wp2;go_ret;exact⟨rfl,rfl⟩
 | false =>
 cases h7:(s.toList==[62,61]) with
 | true =>
  have e:opK s.toList=15:=by rw[eq_of_beq h7];rfl
  rw[e];clear e;go_enter Tryz.func154,Tryz.ntmps154;go_wp2;go_ret;exact⟨rfl,rfl⟩
 | false =>
 cases h8:(s.toList==[43]) with
 | true =>
  have e:opK s.toList=5:=by rw[eq_of_beq h8];rfl
  rw[e];clear e;go_enter Tryz.func154,Tryz.ntmps154;go_wp2;go_ret;exact⟨rfl,rfl⟩
 | false =>
 cases h9:(s.toList==[45]) with
 | true =>
  have e:opK s.toList=6:=by rw[eq_of_beq h9];rfl
  rw[e];clear e;go_enter Tryz.func154,Tryz.ntmps154;go_wp2;go_ret;exact⟨rfl,rfl⟩
 | false =>
 cases h10:(s.toList==[42]) with
 | true =>
  have e:opK s.toList=7:=by rw[eq_of_beq h10];rfl
  rw[e];clear e;go_enter Tryz.func154,Tryz.ntmps154;go_wp2;go_ret;exact⟨rfl,rfl⟩
 | false =>
 cases h11:(s.toList==[47]) with
 | true =>
  have e:opK s.toList=8:=by rw[eq_of_beq h11];rfl
  rw[e];clear e;go_enter Tryz.func154,Tryz.ntmps154;go_wp2;go_ret;exact⟨rfl,rfl⟩
 | false =>
 cases h12:(s.toList==[37]) with
 | true =>
  have e:opK s.toList=9:=by rw[eq_of_beq h12];rfl
  rw[e];clear e;go_enter Tryz.func154,Tryz.ntmps154;go_wp2;go_ret;exact⟨rfl,rfl⟩
 | false =>
 have e:opK s.toList=0:=by
  have f:∀ l,(s.toList==l)=false→s.toList≠l:=fun l h=>beq_eq_false_iff_ne.1 h;unfold opK;rw[if_neg (f _ h0),if_neg (f _ h1),if_neg (f _ h2),if_neg (f _ h3),if_neg (f _ h4),if_neg (f _ h5),if_neg (f _ h6),if_neg (f _ h7),if_neg (f _ h8),if_neg (f _ h9),if_neg (f _ h10),if_neg (f _ h11),if_neg (f _ h12)]
 rw[e];clear e;go_enter Tryz.func154,Tryz.ntmps154;go_wp2;go_ret;exact⟨rfl,rfl⟩
theorem lowest_any (l:Nat) (hl:l≤7) (b:Bool) (w:World):Calls Tryz.prog 156 #[.int .i64 l,.bool b] w fun e w'=>e=.returned (.int .i64 (lowP l b:Nat))∧w=w':=by
 by_cases h3:l=3
 ·subst h3;cases b
  ·go_enter Tryz.func156,Tryz.ntmps156;go_wp2;go_ret;exact⟨rfl,rfl⟩
  ·go_enter Tryz.func156,Tryz.ntmps156;go_wp2;go_ret;exact⟨rfl,rfl⟩
 ·have t3:((l:Int)==3)=false:=beq_eq_false_iff_ne.2 (by omega);cases b
  ·have e:lowP l false=l:=by unfold lowP;rw[if_neg (by simp[h3])]
   rw[e];clear e h3;go_enter Tryz.func156,Tryz.ntmps156;go_wp2;go_ret;exact⟨rfl,rfl⟩
  ·have e:lowP l true=l+1:=by unfold lowP;rw[if_pos (.inl rfl)]
   have e2:((l+1:Nat):Int)=(l:Int)+1:=by omega
   rw[e,e2];clear e h3 e2;go_enter Tryz.func156,Tryz.ntmps156;go_wp2;go_ret;exact⟨rfl,rfl⟩
def Rdr (w:World) (p:Nat) (tv:Value) (at_:Nat) (nv:Value):Prop:=w.heap[p]?=some (.cells #[tv,.int .i64 at_,nv] 192 (0,0))
theorem Rdr.c0 {w:World} {p:Nat} {tv nv:Value} {k:Nat} (h:Rdr w p tv k nv):w.cell? ⟨p,0,none⟩=some tv:=by rw[cell_of_row w p 0 _ _ _ h];rfl
theorem Rdr.c1 {w:World} {p:Nat} {tv nv:Value} {k:Nat} (h:Rdr w p tv k nv):w.cell? ⟨p,1,none⟩=some (.int .i64 k):=by rw[cell_of_row w p 1 _ _ _ h];rfl
theorem Rdr.c2 {w:World} {p:Nat} {tv nv:Value} {k:Nat} (h:Rdr w p tv k nv):w.cell? ⟨p,2,none⟩=some nv:=by rw[cell_of_row w p 2 _ _ _ h];rfl
theorem Rdr.fz {w:World} {p:Nat} {tv nv:Value} {k:Nat} (h:Rdr w p tv k nv) {o:Nat}:w.frozen? ⟨p,o,none⟩=false:=by rw[World.frozen?];simp[show w.heap[p]?=_ from h]
theorem Rdr.lt {w:World} {p:Nat} {tv nv:Value} {k:Nat} (h:Rdr w p tv k nv):p<w.heap.size:=by
 rcases Nat.lt_or_ge p w.heap.size with h'|h'
 ·exact h'
 ·unfold Rdr at h;rw[Array.getElem?_eq_none h'] at h;cases h
theorem Rdr.keep {w w':World} {B p:Nat} {tv nv:Value} {k:Nat} (h:Rdr w p tv k nv) (hb:Below B w w') (hg:p<B):Rdr w' p tv k nv:=(hb.block p hg).trans h
def Toks (w:World) (a:Option Addr) (L:List TokE):Prop:=∀ i,i<L.length→∃ x,a=some x∧w.cell? (x.add (i * 6))=some (.int .i64 (L.getD i default).kd)∧w.cell? ⟨(x.add (i * 6)).block,(x.add (i * 6)).off+1,none⟩=some (.string (L.getD i default).tx) ∧
 w.cell? ⟨(x.add (i * 6)).block,(x.add (i * 6)).off+2,none⟩=some (.int .i64 (L.getD i default).iv)∧w.cell? ⟨(x.add (i * 6)).block,(x.add (i * 6)).off+3,none⟩=some (.float .f64 (L.getD i default).rl) ∧
 w.cell? ⟨(x.add (i * 6)).block,(x.add (i * 6)).off+4,none⟩=some (.int .i64 (L.getD i default).pl)∧w.cell? ⟨(x.add (i * 6)).block,(x.add (i * 6)).off+5,none⟩=some (.int .i64 (L.getD i default).sz)
theorem drew_below (w:World):Below w.heap.size w w.drew:=(Below.refl _ w).drew
theorem mark_any (p cap k:Nat) (a:Option Addr) (L:List TokE) (nv:Value) (w:World) (hr:Rdr w p (.slice a L.length cap) k nv) (hT:Toks w a L) (hn:L.length≤140737488355328) :
  Calls Tryz.prog 155 #[.pointer (some ⟨p,0,none⟩)] w fun e w'=>e=.returned (.string (markT L k))∧Below w.heap.size w w':=by
 have c0:=hr.c0;have c1:=hr.c1;have C0:w.drew.cell? ⟨p,0,none⟩=some (.slice a L.length cap):=c0;have C1:w.drew.cell? ⟨p,1,none⟩=some (.int .i64 k):=c1;by_cases hk:k<L.length
 ·obtain⟨x,rfl,h0,h1,_,_,_,_⟩:=hT k hk;have H1:w.drew.drew.cell? ⟨(x.add (k * 6)).block,(x.add (k * 6)).off+1,none⟩=some (.string (L.getD k default).tx):=h1;have d1:decide ((k:Int)<(L.length:Int))=true:=decide_eq_true (by omega);have hm:markT L k=if (L.getD k default).kd=5 then (L.getD k default).tx else ⟨#[]⟩:=by
   unfold markT;by_cases h5:(L.getD k default).kd=5
   ·rw[if_pos ⟨hk,h5⟩,if_pos h5]
   ·rw[if_neg (fun h=>h5 h.2),if_neg h5]
  rw[hm];generalize L.getD k default=t at h0 h1 H1;generalize L.length=n at c0 C0 hk d1 hn ⊢;clear hr hT hm;by_cases h5:t.kd=5
  ·rw[if_pos h5];rw[h5] at h0;clear h5;generalize t.tx=tx at h1 H1 ⊢;go_enter Tryz.func155,Tryz.ntmps155;go_upto_region 1 with (fail);go_region
   all_goals go_wp2
   all_goals go_region
   all_goals go_wp2
   all_goals go_ret
   all_goals exact⟨rfl,((Below.refl _ w).drew).drew⟩
  ·rw[if_neg h5];have d5:(t.kd==5)=false:=beq_eq_false_iff_ne.2 h5;clear h5;generalize t.kd=kd at h0 d5;go_enter Tryz.func155,Tryz.ntmps155;go_upto_region 1 with (fail);go_region
   all_goals go_wp2
   all_goals go_ret
   all_goals exact⟨rfl,(Below.refl _ w).drew⟩
 ·have d1:decide ((k:Int)<(L.length:Int))=false:=decide_eq_false (by omega);have hm:markT L k=⟨#[]⟩:=by unfold markT;rw[if_neg (fun h=>hk h.1)]
  rw[hm];generalize L.length=n at c0 C0 hk d1 hn ⊢;clear hr hT hm;go_enter Tryz.func155,Tryz.ntmps155;go_upto_region 1 with (fail);go_region
  all_goals go_wp2
  all_goals go_ret
  all_goals exact⟨rfl,(Below.refl _ w).drew⟩
open Lib(hid)
theorem own_keep {w w':World} {B base size n:Nat} {e:TypeId} {v:Value} {xs:List Value} (h:w.ownsRow base e size v n xs) (hb:Below B w w') (hB:w.heap.size≤B):w'.ownsRow base e size v n xs:=by
 refine⟨h.1,?_⟩;rcases h.2 with hn|⟨g,cap,cur,rfl,hbs,hgg,rest⟩
 ·exact .inl hn
 ·refine .inr ⟨g,cap,cur,rfl,hbs,?_,rest⟩;rw[hb.block g (by have:=(Array.getElem?_eq_some_iff.1 hgg).1;omega)];exact hgg
def Tab (w:World):Prop:=∀ i,i<27→w.cell? ⟨0,i * 3,none⟩=some (.string ⟨(shTx i).toArray⟩)∧w.cell? ⟨0,i * 3+1,none⟩=some (.int .i64 (shLv i:Nat))∧w.cell? ⟨0,i * 3+2,none⟩=some (.int .i64 (shCh i:Nat))
theorem Tab.of_block {w w':World} (h:Tab w) (hb:w'.heap[0]?=w.heap[0]?):Tab w':=fun i hi=>by
 obtain⟨h0,h1,h2⟩:=h i hi;exact⟨(World.cell?_of_block (a:=⟨0,_,none⟩) hb).trans h0,(World.cell?_of_block (a:=⟨0,_,none⟩) hb).trans h1,(World.cell?_of_block (a:=⟨0,_,none⟩) hb).trans h2⟩
structure St (w:World) (p cap:Nat) (a:Option Addr) (L:List TokE) (k:Nat) (nv:Value) (ns:List Nd):Prop where
 rdr:Rdr w p (.slice a L.length cap) k nv
 toks:Toks w a L
 low:∀ x,a=some x→∀ n,(x.add n).block<p
 row:w.ownsRow (p+1) 109 9 nv ns.length (flatN ns)
 len:L.length≤140737488355328
 at_:k≤L.length
 tab:Tab w
 gp:0<p
theorem St.below {w w':World} {p cap k:Nat} {a:Option Addr} {L:List TokE} {nv:Value} {ns:List Nd} (h:St w p cap a L k nv ns) (hb:Below w.heap.size w w'):St w' p cap a L k nv ns:=by
 refine⟨h.rdr.keep hb h.rdr.lt,fun i hi=>?_,h.low,own_keep h.row hb (Nat.le_refl _),h.len,h.at_,h.tab.of_block (hb.block _ (Nat.lt_trans h.gp h.rdr.lt)),h.gp⟩;obtain⟨x,hx,h0,h1,h2,h3,h4,h5⟩:=h.toks i hi;have hl:(x.add (i * 6)).block<w.heap.size:=Nat.lt_trans (h.low x hx _) h.rdr.lt;exact⟨x,hx,(hb.cell hl).trans h0,(hb.cell (p:=⟨(x.add (i * 6)).block,_,none⟩) hl).trans h1,(hb.cell (p:=⟨(x.add (i * 6)).block,_,none⟩) hl).trans h2,(hb.cell (p:=⟨(x.add (i * 6)).block,_,none⟩) hl).trans h3,(hb.cell (p:=⟨(x.add (i * 6)).block,_,none⟩) hl).trans h4,(hb.cell (p:=⟨(x.add (i * 6)).block,_,none⟩) hl).trans h5⟩
theorem St.move {w:World} {p cap k:Nat} {a:Option Addr} {L:List TokE} {nv:Value} {ns:List Nd} (h:St w p cap a L k nv ns) (k':Nat) (hk:k'≤L.length):St (w.setCell ⟨p,1,none⟩ (.int .i64 k')) p cap a L k' nv ns:=by
 refine⟨heap_setCell_same w p 1 _ _ (.int .i64 k') h.rdr,fun i hi=>?_,h.low,ownsRow_setCell_below h.row (by show p<p+1;omega) _,h.len,hk,h.tab.of_block (Below.heap_setCell _ _ _ _ (by show _≠p;have:=h.gp;omega)),h.gp⟩;obtain⟨x,hx,h0,h1,h2,h3,h4,h5⟩:=h.toks i hi;have hlow:=h.low x hx (i * 6);have hne:∀ o,(⟨p,1,none⟩:Addr)≠⟨(x.add (i * 6)).block,o,none⟩:=fun o e=>by
  have:=congrArg Addr.block e;simp only at this;omega
 have hne0:(⟨p,1,none⟩:Addr)≠x.add (i * 6):=fun e=>by
  have:=congrArg Addr.block e;simp only at this;omega
 exact⟨x,hx,(World.cell?_setCell_other _ _ _ _ hne0).trans h0,(World.cell?_setCell_other _ _ _ _ (hne _)).trans h1,(World.cell?_setCell_other _ _ _ _ (hne _)).trans h2,(World.cell?_setCell_other _ _ _ _ (hne _)).trans h3,(World.cell?_setCell_other _ _ _ _ (hne _)).trans h4,(World.cell?_setCell_other _ _ _ _ (hne _)).trans h5⟩
def gaveUp (k:Nat) (fault:Int):Ending:=.panicked [{ v:=.iface 190 (.agg #[.int .i64 k,.int .i64 fault]),recovered:=false }]
theorem give_any (p k:Nat) (tv nv:Value) (w:World) (hr:Rdr w p tv k nv) :
  Calls Tryz.prog 202 #[.pointer (some ⟨p,0,none⟩)] w fun e w'=>e=gaveUp k 50∧w=w':=by
 have c1:=hr.c1;go_enter Tryz.func202,Tryz.ntmps202;go_wp2;exact⟨rfl,rfl,rfl⟩
theorem want_any (p cap k:Nat) (a:Option Addr) (L:List TokE) (nv:Value) (ns:List Nd) (m:ByteArray) (hm:m.data.toList≠[]) (w:World) (h:St w p cap a L k nv ns) :
  Calls Tryz.prog 181 #[.pointer (some ⟨p,0,none⟩),.string m] w fun e w' =>
   ((isM (gL L k) m.data.toList=false∧e=gaveUp k 50)∨(isM (gL L k) m.data.toList=true∧k<L.length∧e=.returned (.tuple #[])∧St w' p cap a L (k+1) nv ns))∧Below p w w':=by
 have HM:=hid (mark_any p cap k a L nv w h.rdr h.toks h.len);have him:=isM_mark L k m.data.toList hm;have HH:=hid h;have hkl:isM (gL L k) m.data.toList=true→k<L.length:=by
  intro hi;rcases Nat.lt_or_ge k L.length with h'|h'
  ·exact h'
  ·unfold gL at hi;rw[if_neg (by omega)] at hi;cases hi
 have hlen:=h.len;rw[him] at hkl ⊢;generalize markT L k=t at HM hkl ⊢;cases hb:(t.data.toList==m.data.toList) with
 | true =>
  have hk:=hkl hb;have e1:(t.toList==m.toList)=true:=by rw[tl_dat,tl_dat];exact hb
  have e2:(t.toList != m.toList)=false:=by rw[bne,e1];rfl
  clear hkl him hb h;go_enter Tryz.func181,Tryz.ntmps181;go_wp2_with (go_at_call 155;refine HM.out.mono ?_;rintro e w1 ⟨rfl,hb1⟩;have HS:=hid (HH.out.below hb1);have HB:=hid hb1;have c1:=HS.out.rdr.c1;have fz:w1.frozen? ⟨p,1,none⟩=false:=HS.out.rdr.fz;clear hb1);rw[show (k:Int)+1=((k+1:Nat):Int) by omega];go_end0;exact⟨.inr ⟨by first|rfl|trivial,hk,rfl,HS.out.move (k+1) (by omega)⟩,(HB.out.mono (Nat.le_of_lt HH.out.rdr.lt)).setCell (Nat.le_refl p) _⟩
 | false =>
  have e1:(t.toList==m.toList)=false:=by rw[tl_dat,tl_dat];exact hb
  have e2:(t.toList != m.toList)=true:=by rw[bne,e1];rfl
  clear hkl him hb h;go_enter Tryz.func181,Tryz.ntmps181;go_wp2_with (first|(go_at_call 155;refine HM.out.mono ?_;rintro e w1 ⟨rfl,hb1⟩;have HS:=hid (HH.out.below hb1);have HB:=hid hb1;clear hb1)|(go_at_call 202;refine(give_any p k _ nv _ HS.out.rdr).mono ?_;rintro e w' ⟨rfl,rfl⟩;unfold gaveUp));exact⟨rfl,.inl ⟨by first|rfl|trivial,rfl⟩,HB.out.mono (Nat.le_of_lt HH.out.rdr.lt)⟩
def ndV (n:Nd):Value:=.agg #[.int .i64 n.k,.int .i64 n.a,.int .i64 n.b,.string n.nm,.int .i64 n.vk,.int .i64 n.vi,.float .f64 n.rl,.complex .f64 n.re n.im,.string n.tx]
theorem infoN:(Tryz.prog.info? 109).map (fun i=>(i.zero,i.size,i.bytes))=some (some (.agg #[.int .i64 0,.int .i64 0,.int .i64 0,.string ⟨#[]⟩,.int .i64 0,.int .i64 0,.float .f64 0,.complex .f64 0 0,.string ⟨#[]⟩]),9,96):=by kernel_rfl
theorem info_parts3 {o:Option TypeInfo} {z:Option Value} {s b:Nat} (h:o.map (fun i=>(i.zero,i.size,i.bytes))=some (z,s,b)):∃ i,o=some i∧i.zero=z∧i.size=s∧i.bytes=b:=by
 cases o with
 | none=>cases h
 | some i =>
  simp only[Option.map_some,Option.some.injEq,Prod.mk.injEq] at h;exact⟨i,rfl,h.1,h.2.1,h.2.2⟩
theorem nd_one (n:Nd):∀ u ∈ ndCells n,u.oneCell'=true:=by
 intro u hu;simp[ndCells] at hu;rcases hu with rfl|rfl|rfl|rfl|rfl|rfl|rfl|rfl|rfl <;> rfl
theorem flatN_snoc (ns:List Nd) (n:Nd):flatN (ns++[n])=flatN ns++ndCells n:=by simp[flatN]
theorem cells_laid (w:World) (l:List Value) (t:TypeId):∀ j u,l[j]?=some u→(w.alloc (.cells l.toArray t)).cell? ((⟨w.heap.size,0,none⟩:Addr).add j)=some u:=by
 intro j u h;have hadd:(⟨w.heap.size,0,none⟩:Addr).add j=⟨w.heap.size,j,none⟩:=by unfold Addr.add;split <;> simp_all
 rw[hadd,cell_of_row _ _ j _ _ _ (heap_alloc_new w _)]
 simpa using h
theorem rdr_grown {W w1:World} {p k:Nat} {tv nv:Value} {row:Option Nat} (h:Rdr W p tv k nv) (hg:W.grownBy w1 row) (hn:∀ b,row=some b→p+1≤b):Rdr w1 p tv k nv :=
 (hg.block p h.lt (fun e=>by have:=hn p e.symm;omega)).trans h
theorem St.grow {W w1:World} {p cap k g cap':Nat} {a:Option Addr} {L:List TokE} {nv:Value} {ns:List Nd} {n:Nd} (h:St W p cap a L k nv ns) (hg:W.grownBy w1 nv.ownBlock)
  (hown:w1.ownsRow (p+1) 109 9 (.slice (some ⟨g,0,none⟩) (ns.length+1) cap') (ns.length+1) (flatN ns++ndCells n)) :
  St (w1.setCell ⟨p,2,none⟩ (.slice (some ⟨g,0,none⟩) (ns.length+1) cap')) p cap a L k (.slice (some ⟨g,0,none⟩) (ns.length+1) cap') (ns++[n]):=by
 have hn:∀ b,nv.ownBlock=some b→p+1≤b:=fun b hb=>(h.row.lt b hb).1;have hr:=rdr_grown h.rdr hg hn;refine⟨heap_setCell_same w1 p 2 _ _ _ hr,fun i hi=>?_,h.low,?_,h.len,h.at_,h.tab.of_block ((Below.heap_setCell _ _ _ _ (by show _≠p;have:=h.gp;omega)).trans (hg.block _ (Nat.lt_trans h.gp h.rdr.lt) (fun e=>by have:=hn _ e.symm;have:=h.gp;omega))),h.gp⟩
 ·obtain⟨x,hx,h0,h1,h2,h3,h4,h5⟩:=h.toks i hi;have hlow:=h.low x hx (i * 6);have hblk:w1.heap[(x.add (i * 6)).block]?=W.heap[(x.add (i * 6)).block]?:=hg.block _ (Nat.lt_trans hlow h.rdr.lt) (fun e=>by have:=hn _ e.symm;omega);have hne:∀ o,(⟨p,2,none⟩:Addr)≠⟨(x.add (i * 6)).block,o,none⟩:=fun o e=>by
   have:=congrArg Addr.block e;simp only at this;omega
  have hne0:(⟨p,2,none⟩:Addr)≠x.add (i * 6):=fun e=>by
   have:=congrArg Addr.block e;simp only at this;omega
  exact⟨x,hx,((World.cell?_setCell_other _ _ _ _ hne0).trans (World.cell?_of_block hblk)).trans h0,((World.cell?_setCell_other _ _ _ _ (hne _)).trans (World.cell?_of_block hblk)).trans h1,
   ((World.cell?_setCell_other _ _ _ _ (hne _)).trans (World.cell?_of_block hblk)).trans h2,((World.cell?_setCell_other _ _ _ _ (hne _)).trans (World.cell?_of_block hblk)).trans h3,((World.cell?_setCell_other _ _ _ _ (hne _)).trans (World.cell?_of_block hblk)).trans h4,((World.cell?_setCell_other _ _ _ _ (hne _)).trans (World.cell?_of_block hblk)).trans h5⟩
 ·rw[flatN_snoc,List.length_append];exact ownsRow_setCell_below hown (by show p<p+1;omega) _
theorem add_any (p cap k:Nat) (a:Option Addr) (L:List TokE) (nv:Value) (ns:List Nd) (n:Nd) (w:World) (h:St w p cap a L k nv ns) (hlen:ns.length≤1000000000000) :
  Calls Tryz.prog 183 #[.pointer (some ⟨p,0,none⟩),ndV n] w fun e w' =>
   (e=.returned (.int .i64 ns.length)∧∃ nv',St w' p cap a L k nv' (ns++[n]))∧Below p w w':=by
 obtain⟨i0,hi,hz0,hz1,hz2⟩:=info_parts3 infoN;obtain⟨W0,hW0⟩:∃ W0,W0=w.alloc (.cells #[.int .i64 n.k,.int .i64 n.a,.int .i64 n.b,.string n.nm,.int .i64 n.vk,.int .i64 n.vi,.float .f64 n.rl,.complex .f64 n.re n.im,.string n.tx] 109):=⟨_,rfl⟩
 have hB0:Below w.heap.size w W0:=by rw[hW0];exact(Below.refl w.heap.size w).alloc (Nat.le_refl _) _
 have hb0:W0.heap[w.heap.size]?=some (.cells #[.int .i64 n.k,.int .i64 n.a,.int .i64 n.b,.string n.nm,.int .i64 n.vk,.int .i64 n.vi,.float .f64 n.rl,.complex .f64 n.re n.im,.string n.tx] 109 (0,0)):=by rw[hW0];exact heap_alloc_new _ _
 have HW0:=hid hW0;have HH:=hid (h.below hB0);have HB0:=hid (hB0.mono (Nat.le_of_lt h.rdr.lt));have c2:=HH.out.rdr.c2;have fz:=HH.out.rdr.fz (o:=2);have n0:W0.cell? ⟨w.heap.size,0,none⟩=some (.int .i64 n.k):=by rw[cell_of_row W0 _ 0 _ _ _ hb0];rfl
 have n1:W0.cell? ⟨w.heap.size,1,none⟩=some (.int .i64 n.a):=by rw[cell_of_row W0 _ 1 _ _ _ hb0];rfl
 have n2:W0.cell? ⟨w.heap.size,2,none⟩=some (.int .i64 n.b):=by rw[cell_of_row W0 _ 2 _ _ _ hb0];rfl
 have n3:W0.cell? ⟨w.heap.size,3,none⟩=some (.string n.nm):=by rw[cell_of_row W0 _ 3 _ _ _ hb0];rfl
 have n4:W0.cell? ⟨w.heap.size,4,none⟩=some (.int .i64 n.vk):=by rw[cell_of_row W0 _ 4 _ _ _ hb0];rfl
 have n5:W0.cell? ⟨w.heap.size,5,none⟩=some (.int .i64 n.vi):=by rw[cell_of_row W0 _ 5 _ _ _ hb0];rfl
 have n6:W0.cell? ⟨w.heap.size,6,none⟩=some (.float .f64 n.rl):=by rw[cell_of_row W0 _ 6 _ _ _ hb0];rfl
 have n7:W0.cell? ⟨w.heap.size,7,none⟩=some (.complex .f64 n.re n.im):=by rw[cell_of_row W0 _ 7 _ _ _ hb0];rfl
 have n8:W0.cell? ⟨w.heap.size,8,none⟩=some (.string n.tx):=by rw[cell_of_row W0 _ 8 _ _ _ hb0];rfl
 have hp0:=HH.out.rdr.lt;have HR:Hid (Rdr (W0.drew.alloc (.cells (ndCells n).toArray 109)) p (.slice a L.length cap) k nv):=hid (HH.out.rdr.keep (((Below.refl W0.heap.size W0).drew).alloc (Nat.le_refl _) _) HH.out.rdr.lt);unfold ndV;clear h hW0 hB0 hb0;go_enter Tryz.func183,Tryz.ntmps183;go_upto_region 1 with (fail);rw[← HW0.out]
 go_region_law (refine step_append_lies _ rfl (.tmp 9) (.tmp 11) 39 rfl (p+1) 109 i0 (.agg #[.int .i64 0,.int .i64 0,.int .i64 0,.string ⟨#[]⟩,.int .i64 0,.int .i64 0,.float .f64 0,.complex .f64 0 0,.string ⟨#[]⟩]) 9 96 Tryz.underlying39 hi hz0 hz1 hz2 rfl (by decide) nv ns.length (flatN ns) rfl (HH.out.row.drew.alloc _) ⟨W0.heap.size,0,none⟩ 1 1 (ndCells n) rfl rfl (cells_laid W0.drew (ndCells n) 109) (nd_one n) (by decide) (by unfold maxLen;omega) (by omega) (by simp;omega) _ rfl ?_;intro g cap' w1 hown hgrow hg hlt;have hr1:Rdr w1 p (.slice a L.length cap) k nv:=rdr_grown (HR.out) hgrow (fun b hb=>(HH.out.row.lt b hb).1);have c2':=hr1.c2;have fz':=hr1.fz (o:=2))
 all_goals
  have hs:=(HH.out.below (((Below.refl W0.heap.size W0).drew).alloc (Nat.le_refl _) (.cells (ndCells n).toArray 109))).grow hgrow hown;have hbw:Below p w (w1.setCell ⟨p,2,none⟩ (.slice (some ⟨g,0,none⟩) (ns.length+1) cap')):=((HB0.out.trans ((((Below.refl W0.heap.size W0).drew).alloc (Nat.le_refl _) (.cells (ndCells n).toArray 109)).mono (Nat.le_of_lt hp0))).grown hgrow (by simp;omega) (fun b hb=>by have:=(HH.out.row.lt b hb).1;omega)).setCell (Nat.le_refl p) _;have HS:=hid hs;have HBW:=hid hbw;have d2:=hs.rdr.c2;clear hs hbw hgrow hown hr1 c2' fz' hg;go_wp2;go_ret;exact⟨⟨rfl,_,HS.out⟩,HBW.out⟩
def opsT (n:Nat):List (List UInt8):=if n=1 then [[124,124]] else if n=2 then [[38,38]] else if n=3 then [[61,61],[33,61],[60],[60,61],[62],[62,61]] else if n=4 then [[43],[45]] else if n=5 then [[42],[47],[37]] else if n=6 then [[45],[33]] else []
def opsK (n:Nat):List Nat:=if n=1 then [17] else if n=2 then [16] else if n=3 then [10,11,12,13,14,15] else if n=4 then [5,6] else if n=5 then [7,8,9] else if n=6 then [3,4] else []
def firstM (c:Cl):List (List UInt8)→List Nat→Nat
 | s :: ss,k :: ks=>if isM c s=true then k else firstM c ss ks
 | _,_=>0
def oneK (n:Nat) (c:Cl):Nat:=if n=6 then sgK c else if opL (clK c)=n then clK c else 0
def StrsAt (w:World) (g:Nat) (T:List (List UInt8)):Prop:=∀ (i:Nat) s,T[i]?=some s→w.cell? ⟨g,i,none⟩=some (.string ⟨s.toArray⟩)
def KindsAt (w:World) (g:Nat) (K:List Nat):Prop:=∀ (i:Nat) k,K[i]?=some k→w.cell? ⟨g,i,none⟩=some (.int .i64 (k:Nat))
def OpsD (n:Nat) (w:World) (e:Ending) (w':World):Prop :=
 ∃ g c g2 c2,e=.returned (.tuple #[.slice (some ⟨g,0,none⟩) (opsT n).length c,.slice (some ⟨g2,0,none⟩) (opsK n).length c2])∧StrsAt w' g (opsT n)∧KindsAt w' g2 (opsK n)∧Below w.heap.size w w'∧w.heap.size≤g∧w.heap.size≤g2∧g<w'.heap.size∧g2<w'.heap.size
def wdT:List (List UInt8):=[[114,101],[105,109],[115,105,122,101,50],[99,111,109,112],[114,101,97,108],[108,101,110],[97,116],[99,97,116],[115,116,114]]
def wdK:List Nat:=[18,19,20,21,22,23,24,25,26]
end Go.Proofs.YtenlhcgpajphhaaGreatDoor
