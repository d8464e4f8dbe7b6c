import Derived.Test.YtenlhcgpajphhaaGreatDoorRows
import Derived.Test.YtenlhcgpajphhaaGreatDoorMQuotePlain
import Derived.Test.YtenlhcgpajphhaaGreatDoorMTextWalks
import Derived.Test.YtenlhcgpajphhaaGreatDoorShl
import Derived.WalkKit
import Derived.WalkSpells
import Derived.WalkLawsBesides
import Derived.Lib.Hide
import Derived.Lib.SmallJoins
import Derived.Lib.BytesEntry
import Derived.Shelf.Bytes.SlCut
import Derived.Shelf.Bytes.SlSmallAll
import Derived.Laws.BitsLemmas
import Derived.Laws.Bits64
namespace Go.Proofs.YtenlhcgpajphhaaGreatDoor
open Go.RowKit
open Lib(hid)
set_option maxRecDepth 100000
set_option linter.all false
def qq3 (w:World):Prop:=(∃ tp p,w.cell? ⟨3,0,none⟩=some (.iface tp p))∧∃ tp p,w.cell? ⟨4,0,none⟩=some (.iface tp p)
theorem qq3.below {w w':World} {B:Nat} (h:qq3 w) (hb:Below B w w') (hB:w.heap.size≤B):qq3 w':=by
 obtain⟨⟨a,b,h1⟩,c,d,h2⟩:=h;exact⟨⟨a,b,(hb.cell (Nat.lt_of_lt_of_le (World.block_lt_of_cell? w _ h1) hB)).trans h1⟩,c,d,(hb.cell (Nat.lt_of_lt_of_le (World.block_lt_of_cell? w _ h2) hB)).trans h2⟩
theorem q4C (s:ByteArray) (w:World) (hs:s.size≤281474976710656) (v:Int) (h:Lib.parseIntB 64 s.data.toList=.ok v) :
  Calls Tryz.prog 174 #[.string s,.int .i64 10,.int .i64 64] w fun e w'=>e=.returned (.tuple #[.int .i64 v,.nilIface])∧Below w.heap.size w w':=by
 refine(Tryz.strconv_ParseInt_10_at64_ok s (by omega) v h w).mono ?_;rintro e w' ⟨rfl,hw⟩;refine⟨rfl,?_⟩;rcases hw with rfl|⟨t,rfl⟩
 ·exact Below.refl _ _
 ·exact Joins.below_bytesWorld _ w _ t (Nat.le_refl _)
theorem q0P (s:ByteArray) (w:World) (hs:s.size≤281474976710656) (hg:qq3 w) (h:∀ v,Lib.parseIntB 64 s.data.toList≠.ok v) :
  Calls Tryz.prog 174 #[.string s,.int .i64 10,.int .i64 64] w fun e w'=>∃ v N,e=.returned (.tuple #[.int .i64 v,.iface 268 (.pointer (some ⟨N,0,none⟩))])∧Below w.heap.size w w':=by
 obtain⟨⟨t1,p1,h1⟩,t2,p2,h2⟩:=hg
 match hp:Lib.parseIntB 64 s.data.toList with
 | Lib.NumEnd.ok v=>exact absurd hp (h v)
 | Lib.NumEnd.syntax =>
  refine(Tryz.strconv_ParseInt_10_at64_syntax s hs hp (.iface t1 p1) w h1 (.inr ⟨_,_,rfl⟩)).mono ?_;rintro e w' ⟨N,rfl,_,_,hb⟩;exact⟨_,N,rfl,hb⟩
 | Lib.NumEnd.range =>
  refine(Tryz.strconv_ParseInt_10_at64_range s hs hp (.iface t2 p2) w h2 (.inr ⟨_,_,rfl⟩)).mono ?_;rintro e w' ⟨N,rfl,_,_,hb⟩;exact⟨_,N,rfl,hb⟩
def qyS:Option Int→Value
 | some v=>.tuple #[.int .i64 v,.int .i64 0]
 | none=>.tuple #[.int .i64 0,.int .i64 12]
theorem qlC (a:Option Addr) (n cap:Nat) (l:List UInt8) (w:World) (ht:Txt w a n cap l) (hn:n≤140737488351232) (hg:qq3 w) :
  Calls Tryz.prog 148 #[.slice a n cap] w fun e w'=>e=.returned (qyS (qaK l))∧Below w.heap.size w w':=by
 have hcv:=qhV ht;obtain⟨hl,hnc,hm,h4⟩:=ht;obtain⟨s,hs⟩:∃ s:ByteArray,s=⟨l.toArray⟩:=⟨_,rfl⟩
 rw[← hs] at hcv;have hsz:s.size≤281474976710656:=by rw[hs];simp[ByteArray.size];omega
 have hsl:s.data.toList=l:=by rw[hs]
 by_cases hok:∃ v,Lib.parseIntB 64 l=.ok v
 ·obtain⟨v,hv⟩:=hok;have hC:=hid (q4C s w hsz v (by rw[hsl];exact hv));have HV:=hid hv;by_cases h1:1<n
  ·rcases h4 with ⟨_,h5,_⟩|⟨x,rfl,hx⟩
   ·omega
   ·obtain⟨b,o,sp⟩:=x;obtain⟨rfl,hc⟩:=hx.spot (by omega);have hcell:w.cell? ⟨b,o,none⟩=some (.int .u8 (bAt l 0).toNat):=by rw[qeT (by omega)];exact hc 0 (by omega)
    have HCELL:=hid hcell;have hd:decide ((1:Int)<(n:Int))=true:=by simp;omega
    have hw:qaK l=if 1<l.length∧bAt l 0=48 then none else some v:=by unfold qaK;rw[HV.out]
    by_cases h0:bAt l 0=48
    ·have hq:(((bAt l 0).toNat:Int)==48)=true:=by rw[h0];rfl
     rw[if_pos ⟨by omega,h0⟩] at hw;have HW:=hid hw;clear hcell hc hx hs hsz hsl hv h0 hw hl;rw[HW.out];go_enter Tryz.func148,Tryz.ntmps148;go_wp2_with (go_at_call 174;refine hC.out.mono ?_;rintro e w' ⟨rfl,hb⟩;have HB:=hid hb;have hcell2:=(hb.cell (World.block_lt_of_cell? w _ HCELL.out)).trans HCELL.out;clear hb)
     go_ret2
     exact⟨rfl,HB.out⟩
    ·have hq:(((bAt l 0).toNat:Int)==48)=false:=qeR (d:=48) h0;rw[if_neg (fun h=>h0 h.2)] at hw;have HW:=hid hw;clear hcell hc hx hs hsz hsl hv h0 hw hl;rw[HW.out];go_enter Tryz.func148,Tryz.ntmps148;go_wp2_with (go_at_call 174;refine hC.out.mono ?_;rintro e w' ⟨rfl,hb⟩;have HB:=hid hb;have hcell2:=(hb.cell (World.block_lt_of_cell? w _ HCELL.out)).trans HCELL.out;clear hb)
     go_ret2
     exact⟨rfl,HB.out⟩
  ·have hd:decide ((1:Int)<(n:Int))=false:=by simp;omega
   have hw:qaK l=some v:=by unfold qaK;rw[HV.out];exact if_neg (fun h=>by omega)
   have HW:=hid hw;clear hs hsz hsl hv hw hl h4;rw[HW.out];go_enter Tryz.func148,Tryz.ntmps148;go_wp2_with (go_at_call 174;refine hC.out.mono ?_;rintro e w' ⟨rfl,hb⟩;have HB:=hid hb;clear hb)
   go_ret2
   exact⟨rfl,HB.out⟩
 ·have hC:=hid (q0P s w hsz hg (by rw[hsl];exact fun v hv=>hok ⟨v,hv⟩));have hw:qaK l=none:=by
   unfold qaK;split
   ·rename_i v hv;exact absurd ⟨v,hv⟩ hok
   ·rfl
  have HW:=hid hw;clear hs hsz hsl hw hl h4 hok hg;rw[HW.out];go_enter Tryz.func148,Tryz.ntmps148;go_wp2_with (go_at_call 174;refine hC.out.mono ?_;rintro e w' ⟨v,N,rfl,hb⟩;have HB:=hid hb;clear hb)
  go_ret2
  exact⟨rfl,HB.out⟩
set_option maxHeartbeats 1000000
theorem qs4 (f x:Nat):Lib.bitLenAux f x≤f:=by
 induction f generalizing x with
 | zero=>simp[Lib.bitLenAux]
 | succ f ih=>unfold Lib.bitLenAux;split <;> (try have:=ih (x / 2)) <;> omega
theorem q2M (x:Nat):Lib.bitLen x≤64:=qs4 64 x
theorem q1B (m:Int) (w:World) (h0:0≤m) (h1:m≤18446744073709551615) :
  Calls Tryz.prog 198 #[.int .u64 m] w fun e w'=>e=.returned (.int .i64 (Lib.bitLen m.toNat))∧w=w' :=
 (Tryz.bits_Len64 m w h0 h1).mono fun e w' ⟨he,hw⟩=>⟨he,hw.symm⟩
theorem qgE (m e:Int) (w:World) (hm:0≤m∧m≤9223372036854775807) (he:-9223372036854775807≤e∧e≤9223372036854775807) :
  Calls Tryz.prog 177 #[.int .i64 m,.int .i64 e] w fun x w'=>x=.returned (.bool (qaI m e))∧w=w':=by
 obtain⟨hm0,hm1⟩:=hm;unfold qaI;by_cases h0:m=0
 ·subst h0;rw[if_pos rfl];cases hz:(e==0)
  ·have:decide (e=0)=false:=by simpa using hz
   rw[this];go_enter Tryz.func177,Tryz.ntmps177;go_wp2;go_ret;exact⟨rfl,rfl⟩
  ·have:decide (e=0)=true:=by simpa using hz
   rw[this];go_enter Tryz.func177,Tryz.ntmps177;go_wp2;go_ret;exact⟨rfl,rfl⟩
 ·rw[if_neg h0];have z0:(m==0)=false:=by simpa using h0
  by_cases h1:m % 2=0
  ·rw[if_pos (.inl h1)];have z1:(m % 2==0)=true:=by simpa using h1
   clear h0 h1;go_enter Tryz.func177,Tryz.ntmps177;go_wp2;go_ret;exact⟨rfl,rfl⟩
  ·have z1:(m % 2==0)=false:=by simpa using h1
   by_cases h2:9007199254740992≤m
   ·rw[if_pos (.inr (.inl h2))];have z2:decide ((9007199254740992:Int)≤m)=true:=by simpa using h2
    clear h0 h1 h2;go_enter Tryz.func177,Tryz.ntmps177;go_wp2;go_ret;exact⟨rfl,rfl⟩
   ·have z2:decide ((9007199254740992:Int)≤m)=false:=by simpa using h2
    by_cases h3:e < -1074
    ·rw[if_pos (.inr (.inr (.inl h3)))];have z3:decide (e < -1074)=true:=by simpa using h3
     clear h0 h1 h2 h3;go_enter Tryz.func177,Tryz.ntmps177;go_wp2;go_ret;exact⟨rfl,rfl⟩
    ·have z3:decide (e < -1074)=false:=by simpa using h3
     by_cases h4:1023<e
     ·rw[if_pos (.inr (.inr (.inr h4)))];have z4:decide (1023<e)=true:=by simpa using h4
      clear h0 h1 h2 h3 h4;go_enter Tryz.func177,Tryz.ntmps177;go_wp2;go_ret;exact⟨rfl,rfl⟩
     ·have z4:decide (1023<e)=false:=by simpa using h4
      have hcond:¬ (m % 2=0∨9007199254740992≤m∨e < -1074∨1023<e):=by omega
      rw[if_neg hcond];have hbl:=q2M m.toNat;have hlo:-1074≤e:=by omega
      have hhi:e≤1023:=by omega
      clear h0 h1 h2 h3 h4 hcond;go_enter Tryz.func177,Tryz.ntmps177;go_wp2_with (go_at_call 198;refine(q1B m _ hm0 (by omega)).mono ?_;rintro x w' ⟨rfl,rfl⟩);go_ret;exact⟨rfl,rfl⟩
theorem qkE (l:List UInt8):Lib.bytesOf (l.map fun b=>(b.toNat:Int))=l:=by
 simp only[Lib.bytesOf,List.map_map]
 conv=>rhs;rw[← List.map_id l]
 apply List.map_congr_left;intro x _;simp
theorem qrR (l:List UInt8) (i:Nat) (h:i<l.length):(l.map fun b=>(b.toNat:Int)).getD i 0=(l[i].toNat:Int):=by
 rw[List.getD_eq_getElem?_getD,List.getElem?_map,List.getElem?_eq_getElem h];rfl
theorem qmU (l:List UInt8) (c:UInt8):Lib.indexByte l c<l.length:=by
 induction l with
 | nil=>simp[Lib.indexByte]
 | cons b l ih =>
  unfold Lib.indexByte;split
  ·simp only[List.length_cons];omega
  ·split
   ·simp only[List.length_cons];omega
   ·simp only[List.length_cons];omega
theorem q9C {w:World} {a:Option Addr} {n cap:Nat} {l:List UInt8} (ht:Txt w a n cap l):Lib.BytesIn w a n (l.map fun b=>(b.toNat:Int)):=by
 obtain⟨hl,hnc,hm,h4⟩:=ht;rcases h4 with ⟨rfl,h0,h1⟩|⟨x,rfl,hx⟩
 ·subst h0;exact Lib.BytesIn.nil _ _ _
 ·exact Lib.BytesIn.of_cells fun i hi=>by rw[qrR l i (by omega)];exact hx i (by omega)
theorem q98 (a:Option Addr) (n cap c:Nat) (l:List UInt8) (w:World) (ht:Txt w a n cap l) (hn:n≤140737488351232) (hc:w.cell? ⟨c,0,none⟩=some (.int .u8 112)) :
  Calls Tryz.prog 175 #[.slice a n cap,.slice (some ⟨c,0,none⟩) 1 1] w fun e w'=>∃ a1 n1 c1 a2 n2 c2 t,e=.returned (.tuple #[.slice a1 n1 c1,.slice a2 n2 c2,.bool t])∧Txt w a1 n1 c1 (qcJ l).1∧Txt w a2 n2 c2 (qcJ l).2∧Below w.heap.size w w':=by
 have hl:=ht.1;have hroom:=qmU l 112;have hge:=Lib.indexByte_ge l 112;have hidx:Calls Tryz.prog 196 #[.slice a n cap,.slice (some ⟨c,0,none⟩) 1 1] w fun e w'=>e=.returned (.int .i64 (Lib.indexByte l 112))∧∃ q,w'=w.drewN q:=by
  obtain⟨_,hnc,hm,h4⟩:=ht;rcases h4 with ⟨rfl,h0,h1⟩|⟨x,rfl,hx⟩
  ·subst h0 h1;obtain rfl:l=[]:=List.eq_nil_of_length_eq_zero hl;refine(Tryz.bytes_Index_one_nil c 0 1 112 w hc).mono ?_;rintro e w' ⟨rfl,rfl⟩;exact⟨rfl,0,rfl⟩
  ·refine(Tryz.bytes_Index_one_at x n cap c 0 1 (l.map fun b=>(b.toNat:Int)) 112 w (by simpa using hl) (fun i hi=>by rw[qrR l i (by omega)];exact hx i (by omega)) hc).mono ?_;rintro e w' ⟨rfl,rfl⟩;exact⟨by rw[qkE];rfl,0,rfl⟩
 refine(Tryz.bytes_Cut_of a (some ⟨c,0,none⟩) n cap 1 1 (Lib.indexByte l 112) w ht.2.1 hge (by omega) (by omega) hidx).mono ?_;rintro e w' ⟨rfl,q,rfl⟩;have hb:Below w.heap.size w (w.drewN q):=(Below.refl _ w).trans ⟨rfl,rfl,rfl,Nat.le_refl _,fun _ _=>rfl⟩;unfold Lib.cutV qcJ;by_cases h0:0≤Lib.indexByte l 112
 ·rw[if_pos h0,if_pos h0];exact⟨_,_,_,_,_,_,_,rfl,q3I _ ht (by omega),qu3 _ ht (by omega),hb⟩
 ·rw[if_neg h0,if_neg h0];exact⟨_,_,_,_,_,_,_,rfl,ht,q3J w,hb⟩
theorem qxC (a:Option Addr) (n cap c:Nat) (r:List UInt8) (w:World) (ht:Txt w a n cap r) (hc:w.cell? ⟨c,0,none⟩=some (.int .u8 45)) :
  Calls Tryz.prog 176 #[.slice a n cap,.slice (some ⟨c,0,none⟩) 1 1] w fun e w'=>∃ a3 n3 c3,e=.returned (.tuple #[.slice a3 n3 c3,.bool (decide (bAt r 0=45))])∧Txt w a3 n3 c3 (if bAt r 0=45 then r.drop 1 else r)∧w=w':=by
 have hl:=ht.1;refine(Tryz.bytes_CutPrefix_all a (some ⟨c,0,none⟩) n cap 1 1 (r.map fun b=>(b.toNat:Int)) [45] w (by simpa using hl) rfl ht.2.1 (q9C ht) (Lib.BytesIn.of_cells fun i hi=>by
  obtain rfl:i=0:=by omega
  simpa [Addr.add] using hc)).mono ?_
 rintro e w' ⟨rfl,rfl⟩;have hp:Lib.hasPrefix (Lib.bytesOf (r.map fun b=>(b.toNat:Int))) (Lib.bytesOf [45])=decide (bAt r 0=45):=by
  rw[qkE];cases r with
  | nil=>rfl
  | cons x t =>
   show ((45:UInt8)==x && true)=decide (bAt (x :: t) 0=45);have:bAt (x :: t) 0=x:=rfl;rw[this,Bool.and_true];by_cases h:x=45
   ·subst h;rfl
   ·rw[decide_eq_false h,beq_eq_false_iff_ne];exact fun e=>h e.symm
 rw[hp];by_cases h:bAt r 0=45
 ·have hr:0<r.length:=qi8 (by rw[h];decide);obtain⟨_,hnc,hm,h4⟩:=id ht;rcases h4 with ⟨_,h0,_⟩|⟨x,rfl,hx⟩
  ·omega
  ·obtain⟨b,o,s⟩:=x;obtain⟨rfl,hcells⟩:=hx.spot hr;have hv:Lib.trimPrefixV (some ⟨b,o,none⟩) n cap (r.map fun b=>(b.toNat:Int)) [45]=.slice (if cap=1 then some ⟨b,o,none⟩ else some ⟨b,o+1,none⟩) (n-1) (cap-1):=by
    show Lib.bytesTrimPrefix b o n cap _ _=_;unfold Lib.bytesTrimPrefix;rw[hp,decide_eq_true h];rfl
   rw[hv,if_pos h];have:=qu3 1 ht (by omega);have he:(if cap=1 then some (⟨b,o,none⟩:Addr) else (some (⟨b,o,none⟩:Addr)).map (·.add 1))=if cap=1 then some ⟨b,o,none⟩ else some ⟨b,o+1,none⟩:=by
    split
    ·rfl
    ·simp[Addr.add]
   rw[he] at this;exact⟨_,_,_,rfl,this,rfl⟩
 ·have hv:Lib.trimPrefixV a n cap (r.map fun b=>(b.toNat:Int)) [45]=.slice a n cap:=by
   unfold Lib.trimPrefixV;split
   ·rename_i b o y t heq;unfold Lib.bytesTrimPrefix;rw[hp,decide_eq_false h];rfl
   ·rfl
  rw[hv,if_neg h];exact⟨_,_,_,rfl,ht,rfl⟩
def qg9:Prop:=∀ (m e:Int) (w:World),0≤m→qaI m e=true →
 Calls Tryz.prog 178 #[.float .f64 (floatOfInt .f64 m),.int .i64 e] w fun x w'=>x=.returned (.float .f64 (qaA m e))∧w=w'
def qoI:Option (Int × Int)→Value
 | some (m,e)=>.tuple #[.float .f64 (qaA m e),.int .i64 0]
 | none=>.tuple #[.float .f64 0,.int .i64 12]
def qw8 (l:List UInt8):Prop:=∀ m,qaK (qcJ l).1=some m→0≤m
def eOk (l:List UInt8):Prop:=∀ e,qaK (if bAt (qcJ l).2 0=45 then (qcJ l).2.drop 1 else (qcJ l).2)=some e→0≤e
theorem qx1 (a:Option Addr) (n cap:Nat) (l:List UInt8) (w:World) (hF:qg9) (ht:Txt w a n cap l) (hn:n≤140737488351232) (hg:qq3 w) (hok:qw8 l) (heok:eOk l) :
  Calls Tryz.prog 149 #[.slice a n cap] w fun x w'=>x=.returned (qoI (qcA l))∧Below w.heap.size w w':=by
 have HF:=hid hF;have HT:=hid ht;have HG:=hid hg;have hcl:(qcJ l).1.length≤l.length∧(qcJ l).2.length≤l.length:=by
  unfold qcJ;split <;> simp <;> omega
 have hl:=ht.1;have HCL:=hid hcl;clear hF ht hg hcl;go_enter Tryz.func149,Tryz.ntmps149;go_wp2_with fail;refine(q98 a n cap w.heap.size l _ (HT.out.below ((Below.refl w.heap.size w).alloc (Nat.le_refl _) _) (Nat.le_refl _)) hn (by simp)).mono ?_;rintro x w1 ⟨a1,n1,c1,a2,n2,c2,t,rfl,ht1,ht2,hb1⟩;have hb01:Below w.heap.size w w1:=((Below.refl w.heap.size w).alloc (Nat.le_refl _) _).trans (hb1.mono (by simp));have hz1:=hb01.size;have hb1s:=hb1.size;have HB01:=hid hb01;have HT1:=hid (ht1.below hb1 (Nat.le_refl _));have HT2:=hid (ht2.below hb1 (Nat.le_refl _));clear ht1 ht2 hb1 hb01;go_wp2_with fail;refine(qxC a2 n2 c2 w1.heap.size (qcJ l).2 _ (HT2.out.below ((Below.refl w1.heap.size w1).alloc (Nat.le_refl _) _) (Nat.le_refl _)) (by simp)).mono ?_;rintro x w2' ⟨a3,n3,c3,rfl,ht3,hw2⟩;obtain⟨w2,hw2'⟩:∃ w2,w2=w1.alloc (Obj.cells #[Value.int IntKind.u8 45] 5):=⟨_,rfl⟩
 rw[← hw2'] at hw2 ht3;subst hw2;have hb12:Below w1.heap.size w1 w2:=by rw[hw2'];exact(Below.refl w1.heap.size w1).alloc (Nat.le_refl _) _
 clear hw2';have hb02:Below w.heap.size w w2:=HB01.out.trans (hb12.mono hz1);have hz2:=hb02.size;have hz12:=hb12.size;have HT3:=hid ht3;have hn1:n1≤140737488351232:=by have:=HT1.out.1;have:=HCL.out.1;omega
 have hn3:n3≤140737488351232:=by
  have h1:=HT3.out.1;have h2:=HCL.out.2;split at h1 <;> (try simp at h1) <;> omega
 have hw1c:=hid (qlC a1 n1 c1 _ w2 (HT1.out.below hb12 (Nat.le_refl _)) hn1 (HG.out.below hb02 (Nat.le_refl _)));have HB02:=hid hb02;have HB12:=hid hb12;clear hb02 hb12 ht3;have KE:∀ w3,Below w2.heap.size w2 w3→Calls Tryz.prog 148 #[.slice a3 n3 c3] w3 fun e w'=>e=.returned (qyS (qaK (if bAt (qcJ l).2 0=45 then (qcJ l).2.drop 1 else (qcJ l).2)))∧Below w3.heap.size w3 w' :=
  fun w3 hb=>qlC a3 n3 c3 _ w3 (HT3.out.below hb (Nat.le_refl _)) hn3 ((HG.out.below HB02.out (Nat.le_refl _)).below hb (Nat.le_refl _))
 have HKE:=hid KE;clear KE;have FIN:Hid (∀ v,v=qoI (qcA l)→Ending.returned v=Ending.returned (qoI (qcA l))):=fun v h=>by rw[h]
 have hsc:qcA l=match qaK (qcJ l).1,qaK (if bAt (qcJ l).2 0=45 then (qcJ l).2.drop 1 else (qcJ l).2) with
  | some m,some e=>if bAt (qcJ l).2 0=45 then (if e=0 then none else if qaI m (-e)=true then some (m,-e) else none) else if qaI m e=true then some (m,e) else none
  | _,_=>none:=rfl
 have HSC:=hid hsc;have hok':=hok;have heok':=heok;unfold qw8 at hok';unfold eOk at heok';clear hsc hok heok;cases hM:qaK (qcJ l).1 with
 | none =>
  have HM:=hid hM;have K1:Calls Tryz.prog 148 #[.slice a1 n1 c1] w2 fun e w'=>e=.returned (.tuple #[.int .i64 0,.int .i64 12])∧Below w2.heap.size w2 w':=by have:=hw1c.out;rw[hM] at this;exact this
  have HK1:=hid K1;clear K1 hM hok' heok';go_wp2_with fail;refine HK1.out.mono ?_;rintro x w3 ⟨rfl,hb3⟩;have HB3:=hid hb3;clear hb3;cases hE:qaK (if bAt (qcJ l).2 0=45 then (qcJ l).2.drop 1 else (qcJ l).2) with
  | none =>
   have K2:Calls Tryz.prog 148 #[.slice a3 n3 c3] w3 fun e w'=>e=.returned (.tuple #[.int .i64 0,.int .i64 12])∧Below w3.heap.size w3 w':=by have:=HKE.out w3 HB3.out;rw[hE] at this;exact this
   have HK2:=hid K2;have HE:=hid hE;clear K2 hE;go_wp2_with fail;refine HK2.out.mono ?_;rintro x w4 ⟨rfl,hb4⟩;have HB4:=hid hb4;clear hb4;go_wp2
   go_ret2
   exact⟨FIN.out _ (by rw[HSC.out,HM.out];rfl),(HB02.out.trans (HB3.out.mono hz2)).trans (HB4.out.mono (by have:=HB3.out.size;omega))⟩
  | some e =>
   have K2:Calls Tryz.prog 148 #[.slice a3 n3 c3] w3 fun x w'=>x=.returned (.tuple #[.int .i64 e,.int .i64 0])∧Below w3.heap.size w3 w':=by have:=HKE.out w3 HB3.out;rw[hE] at this;exact this
   have HK2:=hid K2;have HE:=hid hE;clear K2 hE;go_wp2_with fail;refine HK2.out.mono ?_;rintro x w4 ⟨rfl,hb4⟩;have HB4:=hid hb4;clear hb4;go_wp2
   go_ret2
   exact⟨FIN.out _ (by rw[HSC.out,HM.out];rfl),(HB02.out.trans (HB3.out.mono hz2)).trans (HB4.out.mono (by have:=HB3.out.size;omega))⟩
 | some m =>
  have hm0:=hok' m hM;have hmr:=qk4 hM;have HM:=hid hM;have K1:Calls Tryz.prog 148 #[.slice a1 n1 c1] w2 fun e w'=>e=.returned (.tuple #[.int .i64 m,.int .i64 0])∧Below w2.heap.size w2 w':=by have:=hw1c.out;rw[hM] at this;exact this
  have HK1:=hid K1;clear K1 hM hok';go_wp2_with fail;refine HK1.out.mono ?_;rintro x w3 ⟨rfl,hb3⟩;have HB3:=hid hb3;clear hb3;cases hE:qaK (if bAt (qcJ l).2 0=45 then (qcJ l).2.drop 1 else (qcJ l).2) with
  | none =>
   have K2:Calls Tryz.prog 148 #[.slice a3 n3 c3] w3 fun e w'=>e=.returned (.tuple #[.int .i64 0,.int .i64 12])∧Below w3.heap.size w3 w':=by have:=HKE.out w3 HB3.out;rw[hE] at this;exact this
   have HK2:=hid K2;have HE:=hid hE;clear K2 hE heok';go_wp2_with fail;refine HK2.out.mono ?_;rintro x w4 ⟨rfl,hb4⟩;have HB4:=hid hb4;clear hb4;go_wp2
   go_ret2
   exact⟨FIN.out _ (by rw[HSC.out,HM.out,HE.out];rfl),(HB02.out.trans (HB3.out.mono hz2)).trans (HB4.out.mono (by have:=HB3.out.size;omega))⟩
  | some e =>
   have he0:=heok' e hE;have her:=qk4 hE;have K2:Calls Tryz.prog 148 #[.slice a3 n3 c3] w3 fun x w'=>x=.returned (.tuple #[.int .i64 e,.int .i64 0])∧Below w3.heap.size w3 w':=by have:=HKE.out w3 HB3.out;rw[hE] at this;exact this
   have HK2:=hid K2;have HE:=hid hE;clear K2 hE heok';go_wp2_with fail;refine HK2.out.mono ?_;rintro x w4 ⟨rfl,hb4⟩;have hb04:Below w.heap.size w w4:=(HB02.out.trans (HB3.out.mono hz2)).trans (hb4.mono (by have:=HB3.out.size;omega));have HB04:=hid hb04;clear hb4 hb04;by_cases hneg:bAt (qcJ l).2 0=45
   ·have hd:decide (bAt (qcJ l).2 0=45)=true:=decide_eq_true hneg;have HN:=hid hneg;clear hneg;rw[hd];by_cases he:e=0
    ·subst he;go_wp2
     go_ret2
     exact⟨FIN.out _ (by rw[HSC.out,HM.out,HE.out];simp only[HN.out];rfl),HB04.out⟩
    ·have hz:(e==0)=false:=by simpa using he
     have HZ:=hid he;clear he;cases hof:qaI m (-e)
     ·have HO:=hid hof;clear hof;go_wp2_with (go_at_call 177;refine(qgE m (-e) _ (by omega) (by omega)).mono ?_;rintro x w' ⟨rfl,rfl⟩;rw[HO.out])
      go_ret2
      exact⟨FIN.out _ (by rw[HSC.out,HM.out,HE.out];simp only[HN.out,if_true];rw[if_neg HZ.out,HO.out];rfl),HB04.out⟩
     ·have HO:=hid hof;clear hof;go_wp2_with (first|(go_at_call 177;refine(qgE m (-e) _ (by omega) (by omega)).mono ?_;rintro x w' ⟨rfl,rfl⟩;rw[HO.out])|(go_at_call 178;refine(HF.out m (-e) _ hm0 HO.out).mono ?_;rintro x w' ⟨rfl,rfl⟩))
      go_ret2
      exact⟨FIN.out _ (by rw[HSC.out,HM.out,HE.out];simp only[HN.out,if_true];rw[if_neg HZ.out,HO.out];rfl),HB04.out⟩
   ·have hd:decide (bAt (qcJ l).2 0=45)=false:=decide_eq_false hneg;have HN:=hid hneg;clear hneg;rw[hd];cases hof:qaI m e
    ·have HO:=hid hof;clear hof;go_wp2_with (go_at_call 177;refine(qgE m e _ (by omega) (by omega)).mono ?_;rintro x w' ⟨rfl,rfl⟩;rw[HO.out])
     go_ret2
     exact⟨FIN.out _ (by rw[HSC.out,HM.out,HE.out];simp only[if_neg HN.out];rw[HO.out];rfl),HB04.out⟩
    ·have HO:=hid hof;clear hof;go_wp2_with (first|(go_at_call 177;refine(qgE m e _ (by omega) (by omega)).mono ?_;rintro x w' ⟨rfl,rfl⟩;rw[HO.out])|(go_at_call 178;refine(HF.out m e _ hm0 HO.out).mono ?_;rintro x w' ⟨rfl,rfl⟩))
     go_ret2
     exact⟨FIN.out _ (by rw[HSC.out,HM.out,HE.out];simp only[if_neg HN.out];rw[HO.out];rfl),HB04.out⟩
theorem dS:Ieee.double.signWeight=9223372036854775808:=by decide
theorem dB:Ieee.double.binade=4503599627370496:=by decide
theorem dI:Ieee.double.infRung=9218868437227405312:=by decide
theorem dL:Ieee.double.leastPlace=-1074:=by decide
theorem dF:Ieee.double.fractionBits=52:=rfl
theorem q03:Ieee.double.read 0=.number false 0 (-1074):=by decide
theorem qdH (q r:Nat) (h1:1≤q) (h2:q≤2046) (hr:r<4503599627370496) :
  Ieee.double.read (q * 4503599627370496+r)=.number false (4503599627370496+r) (-1074+((q-1:Nat):Int)):=by
 unfold Ieee.Format.read;rw[dS,dB,dI,dL];have e1:(q * 4503599627370496+r) / 9223372036854775808 % 2=0:=by omega
 have e2:(q * 4503599627370496+r) % 9223372036854775808=q * 4503599627370496+r:=by omega
 have e3:(q * 4503599627370496+r) % 4503599627370496=r:=by omega
 have e4:(q * 4503599627370496+r) / 4503599627370496=q:=by omega
 simp only[e1,e2];rw[if_neg (by omega),if_pos (by omega),e3,e4];rfl
theorem q2B (n d kept:Nat) (h:kept * 2 ^ d=n) (hn:0<n):Ieee.Toward.even.cut false n d=kept:=by
 have hk:0<kept:=by
  rcases Nat.eq_zero_or_pos kept with rfl|h'
  ·simp at h;omega
  ·exact h'
 have hd:d≤n.log2:=by
  rw[Nat.le_log2 (by omega)];rw[← h];exact Nat.le_mul_of_pos_left _ hk
 unfold Ieee.Toward.cut;rw[Nat.min_eq_left (by omega:d≤n.log2+2),Nat.one_shiftLeft];have hp:0<2 ^ d:=Nat.two_pow_pos d;have e1:n / 2 ^ d=kept:=by rw[← h];exact Nat.mul_div_cancel _ hp
 have e2:n % 2 ^ d=0:=by rw[← h];exact Nat.mul_mod_left _ _
 simp only[e1,e2];simp only[Nat.mul_zero];have e3:decide (2 ^ d<0)=false:=by simp
 have e4:(2 ^ d==0)=false:=by rw[beq_eq_false_iff_ne];omega
 rw[e3,e4];rfl
theorem qwD (f:Ieee.Format) (r:Nat):f.word false r=r:=rfl
theorem qhD (mag:Nat) (place last:Int) (kept:Nat) (hm:0<mag) (hl:last=max (place+(mag.log2:Int)-52) (-1074))
  (hk:kept * 2 ^ (last-place).toNat=mag * 2 ^ (place-last).toNat):Ieee.double.nearest false mag place=min ((last+1074).toNat * 4503599627370496+kept) 9218868437227405312:=by
 unfold Ieee.Format.nearest;rw[if_neg (by omega)];simp only[dB,dI,dL,dF];have e:max (place+(mag.log2:Int)-((52:Nat):Int)) (-1074)=last:=by rw[hl];congr 1
 rw[e,Nat.shiftLeft_eq,q2B _ _ kept hk (Nat.mul_pos hm (Nat.two_pow_pos _))];have e2:last - -1074=last+1074:=by omega
 rw[e2,qwD]
theorem qhY {m:Nat} (h:0<m):2 ^ m.log2≤m∧m<2 ^ (m.log2+1):=⟨Nat.log2_self_le (by omega),Nat.lt_log2_self⟩
theorem qd8 {m k:Nat} (h:0<m) (hk:k=m.log2) (hk2:k≤52):4503599627370496≤m * 2 ^ (52-k)∧m * 2 ^ (52-k)<9007199254740992:=by
 obtain⟨h1,h2⟩:=qhY h;rw[← hk] at h1 h2;have e1:2 ^ k * 2 ^ (52-k)=4503599627370496:=by rw[← Nat.pow_add,Nat.add_sub_cancel' hk2]
 have e2:2 ^ (k+1) * 2 ^ (52-k)=9007199254740992:=by rw[← Nat.pow_add,show k+1+(52-k)=53 by omega]
 have hp:0<2 ^ (52-k):=Nat.two_pow_pos _;exact⟨by rw[← e1];exact Nat.mul_le_mul_right _ h1,by rw[← e2];exact Nat.mul_lt_mul_of_pos_right h2 hp⟩
theorem qm3 {m:Nat} (h:0<m) (h2:m<9007199254740992):m.log2≤52:=by
 have:=(qhY h).1;rcases Nat.lt_or_ge 52 m.log2 with h'|h'
 ·have:2 ^ 53≤2 ^ m.log2:=Nat.pow_le_pow_right (by omega) h';omega
 ·exact h'
theorem q5Q (m k:Nat) (h:0<m) (hk:k=m.log2) (hk2:k≤52):floatOfInt .f64 (m:Int)=(k+1023) * 4503599627370496+(m * 2 ^ (52-k)-4503599627370496):=by
 obtain⟨h1,h2⟩:=qd8 h hk hk2;have e:=qhD m 0 ((k:Int)-52) (m * 2 ^ (52-k)) h (by rw[← hk];omega)
  (by rw[show ((k:Int)-52-0).toNat=0 by omega,show (0-((k:Int)-52)).toNat=52-k by omega];simp)
 have e0:floatOfInt .f64 (m:Int)=Ieee.double.nearest false m 0:=by
  show Ieee.double.nearest (decide ((m:Int)<0)) (m:Int).natAbs 0=_;rw[decide_eq_false (by omega),Int.natAbs_natCast]
 rw[e0,e,show ((k:Int)-52+1074).toNat=k+1022 by omega];omega
theorem q4Q (m k q:Nat) (e:Int) (c:Nat) (pc:Int) (h:0<m) (hk:k=m.log2) (hk2:k≤52) (hc:Ieee.double.read c=.number false 4503599627370496 pc)
  (hq1:1≤q) (hq2:q≤2046) (hp:pc+(-1074+((q-1:Nat):Int))=e+(k:Int)-104) (he:-1074≤e) :
  floatBits .mul .f64 c (q * 4503599627370496+(m * 2 ^ (52-k)-4503599627370496))=some (qaA m e):=by
 obtain⟨h1,h2⟩:=qd8 h hk hk2;show Ieee.Format.mul Ieee.double _ _=_;unfold Ieee.Format.mul;rw[hc,qdH q _ hq1 hq2 (by omega)];show some (Ieee.double.nearest (false ^^ false) (4503599627370496 * (4503599627370496+(m * 2 ^ (52-k)-4503599627370496))) _)=_;rw[hp,Nat.add_sub_cancel' h1];obtain⟨L,hL⟩:∃ L:Int,L=max (e+(k:Int)-52) (-1074):=⟨_,rfl⟩
 have hLe:L≤e:=by rw[hL];omega
 have hL2:e+(k:Int)-52≤L:=by rw[hL];omega
 have e52:(4503599627370496:Nat)=2 ^ 52:=by decide
 have hlog:(4503599627370496 * (m * 2 ^ (52-k))).log2=104:=by
  have:2 ^ 104≤4503599627370496 * (m * 2 ^ (52-k)):=by
   have:(2:Nat) ^ 104=4503599627370496 * 4503599627370496:=by decide
   rw[this];exact Nat.mul_le_mul_left _ h1
  have h3:4503599627370496 * (m * 2 ^ (52-k))<2 ^ 105:=by
   have:(2:Nat) ^ 105=4503599627370496 * 9007199254740992:=by decide
   rw[this];exact Nat.mul_lt_mul_of_pos_left h2 (by decide)
  have hne:4503599627370496 * (m * 2 ^ (52-k))≠0:=by omega
  have g1:=(Nat.le_log2 hne).2 this;have g2:=(Nat.log2_lt hne).2 h3;omega
 have r1:=qhD m e L (m * 2 ^ (e-L).toNat) h (by rw[hL,← hk]) (by rw[show (L-e).toNat=0 by omega];simp);have r2:=qhD (4503599627370496 * (m * 2 ^ (52-k))) (e+(k:Int)-104) L (m * 2 ^ (e-L).toNat) (by omega) (by rw[hlog,hL];congr 1;omega) (by
  rw[show (e+(k:Int)-104-L).toNat=0 by omega,Nat.pow_zero,Nat.mul_one,e52,Nat.mul_comm (2 ^ 52),Nat.mul_assoc,Nat.mul_assoc,← Nat.pow_add,← Nat.pow_add]
  congr 2
  omega)
 unfold qaA;rw[Int.toNat_natCast,r1];exact congrArg some r2
theorem qiO (m1 m2:Nat) (p1 p2:Int):Ieee.Datum.order (.number false m1 p1) (.number false m2 p2)=some (compare ((m1 * 2 ^ (p1-min p1 p2).toNat:Nat):Int) ((m2 * 2 ^ (p2-min p1 p2).toNat:Nat):Int)):=by
 simp only[Ieee.Datum.order,Ieee.signed,Nat.shiftLeft_eq];rfl
theorem qy2 (x y:Int) (h:y≤x):(some (compare x y)==some Ordering.lt)=false:=by
 have h1:compare x y≠.lt:=by rw[Ne,Int.compare_eq_lt];omega
 revert h1;cases compare x y <;> simp
theorem qnT (x y:Int) (h:x≤y):(some (compare x y)==some Ordering.gt)=false:=by
 have h1:compare x y≠.gt:=by rw[Ne,Int.compare_eq_gt];omega
 revert h1;cases compare x y <;> simp
theorem qnU (x y:Int) (h:x≠y):(some (compare x y)==some Ordering.eq)=false:=by
 have h1:compare x y≠.eq:=by rw[Ne,Int.compare_eq_eq];exact h
 revert h1;cases compare x y <;> simp
theorem q5K (q r:Nat) (h1:1≤q) (h2:q≤2046) (hr:r<4503599627370496):eqB (q * 4503599627370496+r) (q * 4503599627370496+r)=true:=by
 unfold eqB;show ((Ieee.double.read _).order (Ieee.double.read _)==some Ordering.eq)=true;rw[qdH q r h1 h2 hr,qiO,Int.compare_eq_eq.2 rfl];rfl
theorem q5J (q r:Nat) (h1:1≤q) (h2:q≤2046) (hr:r<4503599627370496):eqB (q * 4503599627370496+r) 0=false:=by
 unfold eqB;show ((Ieee.double.read _).order (Ieee.double.read 0)==some Ordering.eq)=false;rw[qdH q r h1 h2 hr,q03,qiO];refine qnU _ _ ?_;have:0<(4503599627370496+r) * 2 ^ (-1074+((q-1:Nat):Int)-min (-1074+((q-1:Nat):Int)) (-1074)).toNat:=Nat.mul_pos (by omega) (Nat.two_pow_pos _);rw[Nat.zero_mul];omega
theorem q2D (q r:Nat) (h1:1≤q) (h2:q≤2046) (hr:r<4503599627370496):ltB (q * 4503599627370496+r) 4503599627370496=false:=by
 unfold ltB;show ((Ieee.double.read _).order (Ieee.double.read 4503599627370496)==some Ordering.lt)=false;have e:=qdH 1 0 (by omega) (by omega) (by omega);rw[Nat.one_mul,Nat.add_zero] at e;rw[qdH q r h1 h2 hr,e,qiO];refine qy2 _ _ ?_;rw[show (-1074+((1-1:Nat):Int)-min (-1074+((q-1:Nat):Int)) (-1074+((1-1:Nat):Int))).toNat=0 by omega,Nat.pow_zero,Nat.mul_one];have h3:=Nat.le_mul_of_pos_right (4503599627370496+r) (Nat.two_pow_pos (-1074+((q-1:Nat):Int)-min (-1074+((q-1:Nat):Int)) (-1074+((1-1:Nat):Int))).toNat);exact Int.ofNat_le.2 (Nat.le_trans (Nat.le_add_right _ r) h3)
theorem q5L (q r:Nat) (h1:1≤q) (h2:q≤2046) (hr:r<4503599627370496):gtB (q * 4503599627370496+r) 9218868437227405311=false:=by
 unfold gtB;show ((Ieee.double.read _).order (Ieee.double.read 9218868437227405311)==some Ordering.gt)=false;have e:=qdH 2046 4503599627370495 (by omega) (by omega) (by omega);rw[show 2046 * 4503599627370496+4503599627370495=9218868437227405311 from by decide] at e;rw[qdH q r h1 h2 hr,e,qiO];refine qnT _ _ ?_;rw[show (-1074+((q-1:Nat):Int)-min (-1074+((q-1:Nat):Int)) (-1074+((2046-1:Nat):Int))).toNat=0 by omega,Nat.pow_zero,Nat.mul_one];have h3:=Nat.le_mul_of_pos_right (4503599627370496+4503599627370495) (Nat.two_pow_pos (-1074+((2046-1:Nat):Int)-min (-1074+((q-1:Nat):Int)) (-1074+((2046-1:Nat):Int))).toNat);exact Int.ofNat_le.2 (Nat.le_trans (by omega) h3)
theorem qmY (a m:Nat) (ha:a<18446744073709551616) (hm:m<18446744073709551616):bits .andNot .u64 (a:Int) (m:Int)=((a &&& (18446744073709551615-m):Nat):Int):=by
 have h1:(BitVec.ofInt 64 (a:Int)).toNat=a:=by rw[BitVec.ofInt_natCast,BitVec.toNat_ofNat];exact Nat.mod_eq_of_lt (by omega)
 have h2:(BitVec.ofInt 64 (m:Int)).toNat=m:=by rw[BitVec.ofInt_natCast,BitVec.toNat_ofNat];exact Nat.mod_eq_of_lt (by omega)
 have h3:(BitVec.ofInt 64 (a:Int) &&& ~~~(BitVec.ofInt 64 (m:Int))).toNat=a &&& (18446744073709551615-m):=by
  rw[BitVec.toNat_and,BitVec.toNat_not,h1,h2]
 show IntKind.u64.wrap (((BitVec.ofInt 64 (a:Int) &&& ~~~(BitVec.ofInt 64 (m:Int))).toNat:Nat):Int)=_;rw[h3,IntKind.wrap_u64];have h4:a &&& (18446744073709551615-m)≤a:=Nat.and_le_left;omega
theorem q9L (b:Nat) (h:b<9223372036854775808):q5Z b=b:=by
 unfold q5Z;have e:=qmY b 9223372036854775808 (by omega) (by omega);rw[show ((9223372036854775808:Nat):Int)=9223372036854775808 from rfl] at e;rw[e];have h2:(18446744073709551615-9223372036854775808:Nat)=2 ^ 63-1:=by decide
 rw[h2,Nat.and_two_pow_sub_one_eq_mod,Int.toNat_natCast];exact Nat.mod_eq_of_lt h
theorem q8Z (b:Nat) (h:b<9223372036854775808):bits .andNot .u64 (b:Int) 9218868437227405312=((b % 4503599627370496:Nat):Int):=by
 have e:=qmY b 9218868437227405312 (by omega) (by omega);rw[show ((9218868437227405312:Nat):Int)=9218868437227405312 from rfl] at e;rw[e];have h1:b &&& (2 ^ 63-1)=b:=by rw[Nat.and_two_pow_sub_one_eq_mod];exact Nat.mod_eq_of_lt h
 have h2:(2 ^ 63-1) &&& (18446744073709551615-9218868437227405312:Nat)=2 ^ 52-1:=by decide
 have h3:b &&& (18446744073709551615-9218868437227405312:Nat)=b % 4503599627370496:=by
  rw[← h1,Nat.and_assoc,h2,Nat.and_two_pow_sub_one_eq_mod,h1]
 rw[h3]
theorem ql9 (n:Int) (h₀:0≤n) (h₁:n<2 ^ 63):IntKind.u64.wrap n=n:=by rw[IntKind.wrap_u64];omega
theorem qyO (n:Int) (h₀:0≤n) (h₁:n<2 ^ 63):IntKind.i64.wrap n=n:=by rw[IntKind.wrap_i64];omega
theorem q6Z (r q:Nat) (hr:r<4503599627370496) (hq:q≤2046):bits .or .u64 (r:Int) ((q * 4503599627370496:Nat):Int)=((q * 4503599627370496+r:Nat):Int):=by
 have h1:=(bits_nat .u64 63 (by decide) ql9 r (q * 4503599627370496) (by omega) (by omega)).2;have h2:=(bits_nat .u64 63 (by decide) ql9 (q * 4503599627370496) r (by omega) (by omega)).2;have h3:=bits_join .u64 63 (by decide) ql9 52 ((q * 4503599627370496:Nat):Int) (r:Int) (by omega) (by omega) (by omega) (by omega) (by omega) (by omega);rw[h1,Nat.or_comm,← h2,h3];omega
theorem jbJ (q r:Nat) (hr:r<4503599627370496) (hq:q≤2046):bits .and .i64 ((q * 4503599627370496+r:Nat) / 4503599627370496:Int) 2047=(q:Int):=by
 have h:=bits_mask .i64 63 (by decide) qyO 11 (by decide) (((q * 4503599627370496+r:Nat):Int) / 4503599627370496) (by omega) (by omega);have e:((2:Int) ^ 11-1)=2047:=by decide
 have e2:((2:Int) ^ 11)=2048:=by decide
 rw[e,e2] at h;rw[h];omega
theorem q41:Ieee.double.read 4607182418800017408=.number false 4503599627370496 (-52):=by
 have e:=qdH 1023 0 (by omega) (by omega) (by omega);rw[show 1023 * 4503599627370496+0=4607182418800017408 from by decide] at e;rw[e];rfl
theorem qx8:Ieee.double.read 4368491638549381120=.number false 4503599627370496 (-105):=by
 have e:=qdH 970 0 (by omega) (by omega) (by omega);rw[show 970 * 4503599627370496+0=4368491638549381120 from by decide] at e;rw[e];rfl
theorem made (m k r:Nat) (e:Int) (c:Nat) (pc:Int) (x:Int) (h:0<m) (hk:k=m.log2) (hk2:k≤52) (hr:r=m * 2 ^ (52-k)-4503599627370496) (hc:Ieee.double.read c=.number false 4503599627370496 pc)
  (hx1:1≤x) (hx2:x≤2046) (hp:pc+x=e+(k:Int)+971) (he:-1074≤e) (t:TypeId) (w:World) :
  (binOp .mul t (.float .f64 c) (.float .f64 (bits .or .u64 (r:Int) (x * 4503599627370496)).toNat)).run Tryz.prog w=.ok (.float .f64 (qaA m e)) w:=by
 obtain⟨h1,h2⟩:=qd8 h hk hk2;obtain⟨q,rfl⟩:=Int.eq_ofNat_of_zero_le (show 0≤x by omega);have e1:=q6Z r q (by omega) (by omega);rw[Int.natCast_mul] at e1;rw[show ((4503599627370496:Nat):Int)=4503599627370496 from rfl] at e1;rw[e1,Int.toNat_natCast,hr];exact run_float_arith (h:=q4Q m k q e c pc h hk hk2 hc (by omega) (by omega) (by omega) he) ..
set_option maxRecDepth 100000
theorem qxN (m k r b:Nat) (e:Int) (w:World) (hm:0<m) (hk:k=m.log2) (hk2:k≤52) (hr:r=m * 2 ^ (52-k)-4503599627370496) (hr2:r<4503599627370496) (hb:b=(k+1023) * 4503599627370496+r) (h0:-1074≤e) (h1:(k:Int)+1+e≤1024) :
  Calls Tryz.prog 200 #[.float .f64 b,.int .i64 e] w fun x w'=>x=.returned (.float .f64 (qaA m e))∧w=w':=by
 have b1:=qpK b;have b2:=q26;have ha:q5Z b=b:=q9L b (by omega);have t1':(FloatKind.f64.format.order b 0==some Ordering.eq)=false:=by rw[hb];exact q5J (k+1023) r (by omega) (by omega) hr2
 have t2:gtB (q5Z b) 9218868437227405311=false:=by rw[ha,hb];exact q5L (k+1023) r (by omega) (by omega) hr2
 have t3:eqB b b=true:=by rw[hb];exact q5K (k+1023) r (by omega) (by omega) hr2
 have t4:ltB (q5Z b) 4503599627370496=false:=by rw[ha,hb];exact q2D (k+1023) r (by omega) (by omega) hr2
 have T2:=hid t2;have T3:=hid t3;have T4:=hid t4;have x1:bits .and .i64 ((b:Int) / 4503599627370496) 2047=((k+1023:Nat):Int):=by rw[hb];exact jbJ (k+1023) r hr2 (by omega)
 have x2:bits .andNot .u64 (b:Int) 9218868437227405312=(r:Int):=by rw[q8Z b (by omega)];omega
 have wx:wrap64 ((b:Int) / 4503599627370496)=(b:Int) / 4503599627370496:=by unfold wrap64;omega
 have mn:-1022≤e+(k:Int)→∀ (t:TypeId) (w:World),(binOp .mul t (.float .f64 4607182418800017408) (.float .f64 (bits .or .u64 (r:Int) ((e+(k:Int)+1023) * 4503599627370496)).toNat)).run Tryz.prog w=.ok (.float .f64 (qaA m e)) w :=
  fun h=>made m k r e _ _ _ hm hk hk2 hr q41 (by omega) (by omega) (by omega) h0
 have mf:e+(k:Int) < -1022→∀ (t:TypeId) (w:World),(binOp .mul t (.float .f64 4368491638549381120) (.float .f64 (bits .or .u64 (r:Int) ((e+(k:Int)+53+1023) * 4503599627370496)).toNat)).run Tryz.prog w=.ok (.float .f64 (qaA m e)) w :=
  fun h=>made m k r e _ _ _ hm hk hk2 hr qx8 (by omega) (by omega) (by omega) h0
 clear t2 t3 t4 hb hr hr2 hk hm;rcases Int.lt_or_le (e+(k:Int)) (-1022) with hn|hn
 ·have mf':=mf hn;clear mf mn;go_enter Tryz.func200,Tryz.ntmps200;go_wp2_with (first|(go_at_call 226;refine(qrK b _).mono ?_;rintro e w' ⟨rfl,rfl⟩;rw[T2.out])|(go_at_call 210;refine(qiW b _).mono ?_;rintro e w' ⟨rfl,rfl⟩;rw[T3.out])|(go_at_call 227;refine(qk9 b _ T4.out).mono ?_;rintro e w' ⟨rfl,rfl⟩));go_ret;exact⟨rfl,rfl⟩
 ·have mn':=mn hn;clear mf mn;go_enter Tryz.func200,Tryz.ntmps200;go_wp2_with (first|(go_at_call 226;refine(qrK b _).mono ?_;rintro e w' ⟨rfl,rfl⟩;rw[T2.out])|(go_at_call 210;refine(qiW b _).mono ?_;rintro e w' ⟨rfl,rfl⟩;rw[T3.out])|(go_at_call 227;refine(qk9 b _ T4.out).mono ?_;rintro e w' ⟨rfl,rfl⟩));go_ret;exact⟨rfl,rfl⟩
theorem qw9 (b:Nat) (e:Int) (r:Nat) (w:World) (h:Calls Tryz.prog 200 #[.float .f64 b,.int .i64 e] w fun x w'=>x=.returned (.float .f64 r)∧w=w') :
  Calls Tryz.prog 178 #[.float .f64 b,.int .i64 e] w fun x w'=>x=.returned (.float .f64 r)∧w=w':=by
 go_enter Tryz.func178,Tryz.ntmps178;go_wp2_with (go_at_call 200;refine h.mono ?_;rintro e w' ⟨rfl,rfl⟩);go_ret;exact⟨rfl,rfl⟩
theorem qhT:∀ (f m:Nat),0<m→m<2 ^ f→Lib.bitLenAux f m=m.log2+1
 | 0,m,h,h2=>by simp at h2;omega
 | f+1,m,h,h2=>by
  unfold Lib.bitLenAux;rw[if_neg (by omega),Nat.log2_def];split
  ·rw[qhT f (m / 2) (by omega) (by rw[Nat.pow_succ] at h2;omega)];omega
  ·have h3:m / 2=0:=by omega
   rw[h3];cases f <;> rfl
theorem qgI (m:Nat) (h:0<m) (h2:m<18446744073709551616):Lib.bitLen m=m.log2+1:=qhT 64 m h h2
theorem q1D:qg9:=by
 intro m e w hm h;unfold qaI at h;obtain⟨n,rfl⟩:=Int.eq_ofNat_of_zero_le hm;split at h
 ·rename_i h0;have he:e=0:=by simpa using h
  have hn:n=0:=by omega
  subst he hn;have hz:qaA ((0:Nat):Int) 0=0:=by decide
  have hf:floatOfInt .f64 ((0:Nat):Int)=0:=by decide
  rw[hz,hf];refine qw9 0 0 0 w (qxM 0 0 w ?_)
  decide
 ·split at h
  ·simp at h
  ·rename_i h0 h1;simp only[decide_eq_true_eq,Int.toNat_natCast] at h;rw[qgI n (by omega) (by omega)] at h;have hk2:=qm3 (m:=n) (by omega) (by omega);obtain⟨g1,g2⟩:=qd8 (m:=n) (by omega) rfl hk2;refine qw9 _ e _ w ?_;rw[q5Q n n.log2 (by omega) rfl hk2];exact qxN n n.log2 _ _ e w (by omega) rfl hk2 rfl (by omega) rfl (by omega) (by omega)
end Go.Proofs.YtenlhcgpajphhaaGreatDoor
