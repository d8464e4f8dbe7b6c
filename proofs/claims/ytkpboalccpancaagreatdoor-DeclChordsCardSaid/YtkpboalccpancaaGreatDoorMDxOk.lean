import Derived.Test.YtkpboalccpancaaGreatDoorMDwAll
import Derived.Test.YtkpboalccpancaaGreatDoorDpWholeP
import Derived.Test.YtkpboalccpancaaGreatDoorMTextWalks
import Derived.Deep.QuietTactic
import Derived.BigQuiet
import Derived.Laws.MakeOwn
namespace Go.Proofs.YtkpboalccpancaaGreatDoor
open Go.RowKit
set_option linter.all false
theorem rdR_ok {L:List TokE} {k:Nat} {t:Ex} {a f:Int} (h:RdR L k (some t) a f):WfT t∧cnt t≤64:=by
 rcases h with ⟨q,h1,h,_⟩|⟨t',q,h1,hq,h,_⟩|⟨t',q,h1,hf,h,_⟩
 ·cases h
 ·cases h
 ·cases h;refine⟨h1.wf (by omega),?_⟩;rcases faultT_cases t with ⟨_,h,_⟩|h|h
  ·exact h
  ·omega
  ·omega
theorem okE_none:okE none:=fun t h=>by cases h
section
variable {L:List TokE} {n:Nat}
theorem exprS_ok (s:S8):okE (exprS L n s).2:=by
 unfold exprS;split
 ·rcases hx:rdX L s.k with ⟨o,a,f⟩
  cases o with
  | none=>exact okE_none
  | some t =>
   intro t' ht;cases ht;exact rdR_ok (rdX_some hx)
 ·exact okE_none
theorem loopS_all {α:Type} {P:α→Prop} {item:S8→S8 × α} (hi:∀ s,P (item s).2):∀ (f:Nat) (s:S8) (l:List α),(∀ x ∈ l,P x)→∀ x ∈ (loopS L n item f s l).2,P x
 | 0,s,l,h=>h
 | f+1,s,l,h=>by
  unfold loopS;split
  ·split
   ·exact h
   ·refine loopS_all hi f _ _ (fun x hx=>?_);rcases List.mem_append.1 hx with hx|hx
    ·exact h x hx
    ·rcases List.mem_singleton.1 hx with rfl;exact hi _
  ·exact h
theorem listS_all {α:Type} {P:α→Prop} {item:S8→S8 × α} (hi:∀ s,P (item s).2) (s:S8):∀ x ∈ (listS L n item s).2,P x:=by
 unfold listS;split
 ·intro x hx;cases hx
 ·refine loopS_all hi _ _ _ (fun x hx=>?_);rcases List.mem_singleton.1 hx with rfl;exact hi _
theorem upS_all {α:Type} {P:α→Prop} {item:S8→S8 × α} (hi:∀ s,P (item s).2):∀ (f:Nat) (s:S8) (l:List α),(∀ x ∈ l,P x)→∀ x ∈ (upS L item f s l).2,P x
 | 0,s,l,h=>h
 | f+1,s,l,h=>by
  unfold upS;split
  ·split
   ·exact h
   ·refine upS_all hi f _ _ (fun x hx=>?_);rcases List.mem_append.1 hx with hx|hx
    ·exact h x hx
    ·rcases List.mem_singleton.1 hx with rfl;exact hi _
  ·exact h
theorem argsS_ok (s:S8):∀ o ∈ (argsS L n s).2,okE o:=listS_all exprS_ok s
theorem doneS_ok (s:S8):okA (doneS L n s).2:=by
 unfold doneS;split
 ·exact⟨exprS_ok _,argsS_ok _⟩
 split
 ·exact⟨okE_none,fun o h=>by cases h⟩
 split
 ·exact⟨okE_none,argsS_ok _⟩
 split
 ·exact⟨okE_none,fun o h=>by cases h⟩
 ·exact⟨okE_none,fun o h=>by cases h⟩
theorem actS_ok (s:S8):okA (actS L n s).2:=doneS_ok s
theorem chordS_ok (s:S8):okC (chordS L n s).2:=by
 refine⟨?_,upS_all (L:=L) (item:=actS L n) actS_ok (fuel8 L) _ [] (fun x hx=>by cases hx)⟩;show okE (if isB L _ _ then exprS L n (nextS _) else (_,none)).2;split
 ·exact exprS_ok _
 ·exact okE_none
theorem kindDS_ok (s:S8):okK (kindDS L n s).2:=upS_all (L:=L) (item:=chordS L n) chordS_ok (fuel8 L) _ [] (fun x hx=>by cases hx)
theorem progS_ok:∀ (f:Nat) (s:S8) (p:ProgE),okP p→okP (progS L n f s p).2
 | 0,s,p,h=>h
 | f+1,s,p,h=>by
  unfold progS;split
  ·split
   ·exact progS_ok f _ _ h
   ·refine progS_ok f _ _ (fun k hk=>?_);rcases List.mem_append.1 hk with hk|hk
    ·exact h k hk
    ·rcases List.mem_singleton.1 hk with rfl;exact kindDS_ok _
  ·exact h
end
theorem progT_ok (l:List UInt8) (n:Nat):okP (progT l n).1:=by
 have h0:okP zProg:=fun k h=>by cases h
 unfold progT;split
 ·exact h0
 ·split
  ·exact progS_ok _ _ _ h0
  ·exact h0
theorem chordT_ok (l:List UInt8) (n:Nat):okC (chordT l n).1:=by
 have h0:okC zChord:=⟨okE_none,fun a h=>by cases h⟩
 unfold chordT;split
 ·exact h0
 ·split
  ·exact chordS_ok _
  ·exact h0
open Go.Shelf
open Lib(hid)
set_option maxRecDepth 100000
set_option maxHeartbeats 2000000
theorem lent8_any (a:Option Addr) (n cap:Nat) (l:List UInt8) (w:World) (ht:Txt w a n cap l) (hr:n≤140737488351232) :
  Calls Tryz.prog 9 #[.slice a n cap] w fun e w'=>Lent w w' n l e:=by
 obtain⟨i0,hi,hz0,hz1,hz2⟩:=info_parts info5';have HCE:Hid ((n:Int)+2=((n+2:Nat):Int)):=hid (by omega);have HT:=hid ht;clear ht;go_enter Tryz.func9,Tryz.ntmps9;go_upto_region 2 with (at_make;(refine wpList_make_own _ rfl _ _ 22 rfl w.heap.size 5 i0 (.int .u8 0) 1 Tryz.underlying22 hi hz0 hz1 .i64 .i64 _ (n+2) rfl rfl (by first|exact HCE.out|rfl|(go_num;done)|simpa using HCE.out|omega) (by rw[hz2];omega) (by unfold maxLen;omega) (Nat.le_refl _) ?_);intro w0 hown0 hgrow0);have hb0:Below w.heap.size w w0:=(Below.refl _ w).grown hgrow0 (Nat.le_refl _) (fun b hb=>by cases hb);have hs0:=hb0.size;have ht0:=HT.out.below hb0 (Nat.le_refl _);obtain⟨hl,hnc,hm,h4⟩:=ht0;clear hgrow0 HCE HT;rcases h4 with ⟨rfl,rfl,rfl⟩|⟨x,rfl,hx⟩
 ·obtain rfl:l=[]:=List.eq_nil_of_length_eq_zero hl;go_wp2_with (first|(at_builtin;refine wpList_append_own_none rfl (.tmp 8) (.tmp 9) 22 rfl w.heap.size 5 i0 1 Tryz.underlying22 hi _ 0 [] rfl hown0 rfl ?_)|(at_builtin;refine wpList_append_own _ rfl (.tmp 11) (.tmp 12) 22 rfl w.heap.size 5 i0 (.int .u8 0) 1 1 Tryz.underlying22 hi hz0 hz1 hz2 rfl (by decide) _ _ _ rfl (hown0.alloc _) ⟨w0.heap.size,0,none⟩ 2 2 (u8s [201,202]) rfl rfl (cells_new' _ _ _) (u8s_one _) (by unfold maxLen;omega) (by omega) (by simp <;> omega) ?_));intro v' w1 hown hgrow _;obtain⟨g,c,rfl⟩:=ownsRow_succ hown;have hb:Below w.heap.size w w1:=(hb0.alloc hs0 _).grown hgrow (by simp;omega) (fun b hb=>(hown0.lt b hb).1);have hlt:=(hown.lt g rfl).1;have H:Hid (w1.ownsRow w.heap.size 5 1 (.slice (some ⟨g,0,none⟩) (0+2) c) (0+2) ([]++u8s [201,202])):=hown;have hc2:2≤c:=by
   rcases hown.2 with ⟨h,_⟩|⟨_,_,_,he,_,_,h,_⟩
   ·cases h
   ·cases he;exact h
  have hnc2:(0:Int)≤(c:Int):=by omega
  clear hown hgrow hown0;go_wp2;go_ret;exact⟨g,c,rfl,by omega,hlt,H.out,hb⟩
 ·go_wp2_with (at_builtin;refine wpList_append_own _ rfl (.tmp 8) (.tmp 9) 22 rfl w.heap.size 5 i0 (.int .u8 0) 1 1 Tryz.underlying22 hi hz0 hz1 hz2 rfl (by decide) _ _ _ rfl hown0 x n cap (u8s l) rfl (by simp[u8s_length,hl]) hx.cells (u8s_one _) (by unfold maxLen;omega) (by omega) hs0 ?_);intro v1 w1 hown1 hgrow1 _
  try simp only[Nat.zero_add,List.nil_append] at hown1
  have hb1:Below w.heap.size w w1:=hb0.grown hgrow1 hs0 (fun b hb=>(hown0.lt b hb).1);have hsz:=hb1.size;go_wp2_with (at_builtin;refine wpList_append_own _ rfl (.tmp 11) (.tmp 12) 22 rfl w.heap.size 5 i0 (.int .u8 0) 1 1 Tryz.underlying22 hi hz0 hz1 hz2 rfl (by decide) _ _ _ rfl (hown1.alloc _) ⟨w1.heap.size,0,none⟩ 2 2 (u8s [201,202]) rfl rfl (cells_new' _ _ _) (u8s_one _) (by unfold maxLen;omega) (by omega) (by simp <;> omega) ?_);intro v' w2 hown hgrow _;obtain⟨g,c,rfl⟩:=ownsRow_succ hown;have hb:Below w.heap.size w w2:=(hb1.alloc hsz _).grown hgrow (by simp;omega) (fun b hb=>(hown1.lt b hb).1);have hlt:=(hown.lt g rfl).1;rw[← u8s_append] at hown;have hc2:n+2≤c:=by
   rcases hown.2 with ⟨h,_⟩|⟨_,_,_,he,_,_,h,_⟩
   ·cases h
   ·cases he;exact h
  have H:Hid (w2.ownsRow w.heap.size 5 1 (.slice (some ⟨g,0,none⟩) (n+2) c) (n+2) (u8s (l++[201,202]))):=hown;clear hown hgrow hown1 hgrow1 hx hown0;go_wp2;go_ret;exact⟨g,c,rfl,hc2,hlt,H.out,hb⟩
set_option maxHeartbeats 4000000
def HeldE (w wr:World) (g c n:Nat) (zs:List UInt8):Prop :=
 zs.length=n∧wr.ownsRow w.heap.size 5 1 (.slice (some ⟨g,0,none⟩) (n+2) c) (n+2) (u8s (zs++[201,202]))∧Below w.heap.size w wr
section
variable {w wr w':World} {g c n:Nat} {zs:List UInt8}
theorem HeldE.below (h:HeldE w wr g c n zs) (hb:Below wr.heap.size wr w'):HeldE w w' g c n zs:=⟨h.1,own_keep h.2.1 hb (Nat.le_refl _),h.2.2.trans (hb.mono h.2.2.size)⟩
theorem HeldE.cap (h:HeldE w wr g c n zs):n+2≤c∧c≤maxLen:=by
 rcases h.2.1.2 with ⟨h',_⟩|⟨_,_,_,he,_,_,h1,h2,_⟩
 ·cases h'
 ·cases he;exact⟨h1,h2⟩
theorem HeldE.lt (h:HeldE w wr g c n zs):w.heap.size≤g∧g<wr.heap.size:=h.2.1.lt g rfl
theorem HeldE.atAll (h:HeldE w wr g c n zs):At wr ⟨g,0,none⟩ (zs++[201,202]):=At.owned h.2.1
theorem HeldE.txt (h:HeldE w wr g c n zs):Txt wr (some ⟨g,0,none⟩) n c zs:=⟨h.1,by have:=h.cap;omega,h.cap.2,.inr ⟨_,rfl,h.atAll.left⟩⟩
theorem HeldE.cell (h:HeldE w wr g c n zs) {i:Nat} (hi:i<n):wr.cell? ⟨g,i,none⟩=some (.int .u8 ((bAt zs i).toNat:Int)):=by
 obtain⟨b,o,e,hc⟩:=h.txt.cellAt hi;cases e;rw[Nat.zero_add] at hc;exact hc
theorem HeldE.free (h:HeldE w wr g c n zs) (i:Nat):wr.frozen? ⟨g,i,none⟩=false:=h.2.1.frozenAt i
theorem u8s_put (l:List UInt8) (i:Nat) (d:UInt8):u8s (l.set i d)=(u8s l).set i (.int .u8 (d.toNat:Int)):=by unfold u8s;rw[List.map_set]
theorem HeldE.set (h:HeldE w wr g c n zs) {i:Nat} (hi:i<n) (d:UInt8):HeldE w (wr.setCell ⟨g,i,none⟩ (.int .u8 (d.toNat:Int))) g c n (zs.set i d):=by
 obtain⟨h1,h3,h4⟩:=h;refine⟨by simp[h1],?_,h4.setCell (h3.lt g rfl).1 _⟩;have:=(h3.stored i (.int .u8 (d.toNat:Int))).1;rw[← u8s_put,List.set_append_left _ _ (by omega)] at this;exact this
end
theorem num8_any (x:Int) (w:World):Calls Tryz.prog 13 #[.int .i64 x] w fun e w'=>e=.returned (.int .i64 x)∧w=w':=by
 go_enter Tryz.func13,Tryz.ntmps13;go_wp2;go_ret;exact⟨rfl,rfl⟩
theorem same8_any (l:List UInt8) (n c1 c2:Nat) (a1 a2:Option Addr) (w:World) (h1:Txt w a1 n c1 l) (h2:Txt w a2 n c2 l) (hr:n≤140737488351232):Calls Tryz.prog 33 #[.slice a1 n c1,.slice a2 n c2] w (WTrue w):=by
 have H1:=hid h1;have H2:=hid h2;have tk:((n:Int)==(n:Int))=true:=beq_self_eq_true _;clear h1 h2;unfold WTrue;go_enter Tryz.func33,Tryz.ntmps33;go_wp2
 go_loopw [5] (fun i wr=>∃ k:Nat,i=.int .i64 k∧k≤n∧Hid (Below w.heap.size w wr)) (fun i _=>n-(intOf i).toNat)
 case atStart=>exact⟨0,rfl,Nat.zero_le _,hid (Below.refl _ _)⟩
 case round =>
  obtain⟨k,rfl,hk,HBR⟩:=hrel;rcases Nat.lt_or_ge k n with hlt|hge
  ·obtain⟨b1,o1,rfl,y1⟩:=(H1.out.below HBR.out (Nat.le_refl _)).cellAt hlt;obtain⟨b2,o2,rfl,y2⟩:=(H2.out.below HBR.out (Nat.le_refl _)).cellAt hlt;generalize (bAt l k).toNat=x at y1 y2;have e2:(0:Int)≤(k:Int):=by omega
   have e3:(k:Int)<(n:Int):=by omega
   have e4:decide ((k:Int)<(n:Int))=true:=decide_eq_true e3;go_upto_region 6 with (fail);go_quiet (fail);have HB2:=hid (below_dn HBR.out nq);generalize wr.drewN nq=w2 at HB2 ⊢;clear y1 y2;go_wp2;go_roundw
   case rel=>exact⟨k+1,by go_num,by omega,HB2⟩
   case measure=>simp[intOf];omega
  ·obtain rfl:k=n:=by omega
   have d1:decide ((k:Int)<(k:Int))=false:=decide_eq_false (by omega);clear hk hge;go_wp2;go_ret;exact⟨rfl,HBR.out⟩
theorem kept8_any (g n c cap:Nat) (a:Option Addr) (l:List UInt8) (w:World) (hr:n≤140737488351232) (hg:At w ⟨g,0,none⟩ (l++[201,202])) (hc:n+2≤c) (hcm:c≤maxLen) (ht:Txt w a n cap l) (hgl:g<w.heap.size) :
  Calls Tryz.prog 11 #[.slice (some ⟨g,0,none⟩) n c,.slice a n cap] w (WTrue w):=by
 have hl:=ht.1;have htg:Txt w (some ⟨g,0,none⟩) n c l:=⟨hl,by omega,hcm,.inr ⟨_,rfl,hg.left⟩⟩
 have HSM:=hid (same8_any l n c cap _ _ w htg ht hr);have hcells:=(hg.spot (by simp)).2;have c1:=hcells n (by simp;omega);have c2:=hcells (n+1) (by simp;omega);simp only[Nat.zero_add] at c1 c2;have e1:(l++[201,202])[n]'(by simp;omega)=201:=by subst hl;simp
 have e2:(l++[201,202])[n+1]'(by simp;omega)=202:=by subst hl;simp
 rw[e1] at c1;rw[e2] at c2;have C3:Hid (w.cell? ⟨g,n,none⟩=some (.int .u8 201)):=hid c1;have C4:Hid (w.cell? ⟨g,n+1,none⟩=some (.int .u8 202)):=hid c2;clear c1 c2 e1 e2 hcells hl ht hg htg;unfold WTrue at HSM ⊢;go_enter Tryz.func11,Tryz.ntmps11;go_wp2_with (go_at_call 33;(with_reducible refine HSM.out.mono ?_);rintro e w2 ⟨rfl,hb⟩;have c3:=(hb.cell (p:=⟨g,n,none⟩) hgl).trans C3.out;have c4:=(hb.cell (p:=⟨g,n+1,none⟩) hgl).trans C4.out;have HB:=hid hb;clear hb);go_ret;exact⟨rfl,HB.out⟩
theorem turn8_any (w0 w:World) (g c n:Nat) (zs:List UInt8) (hr:n≤140737488351232) (h:HeldE w0 w g c n zs) :
  Calls Tryz.prog 12 #[.slice (some ⟨g,0,none⟩) n c] w fun e w'=>e=.returned (.tuple #[])∧(∀ b,b≠g→w'.heap[b]?=w.heap[b]?)∧w'.heap.size=w.heap.size∧Below w0.heap.size w0 w':=by
 have HH:=hid h;clear h;go_enter Tryz.func12,Tryz.ntmps12;go_wp2
 go_loopw [2] (fun i wr=>∃ (k:Nat) (ys:List UInt8),i=.int .i64 k∧k≤n∧Hid (HeldE w0 wr g c n ys∧(∀ b,b≠g→wr.heap[b]?=w.heap[b]?)∧wr.heap.size=w.heap.size)) (fun i _=>n-(intOf i).toNat)
 case atStart=>exact⟨0,zs,rfl,Nat.zero_le _,hid ⟨HH.out,fun _ _=>rfl,rfl⟩⟩
 case round =>
  obtain⟨k,ys,rfl,hk,HI⟩:=hrel;rcases Nat.lt_or_ge k n with hlt|hge
  ·have hcell:=HI.out.1.cell hlt;have hfz:=HI.out.1.free k;have e2:(0:Int)≤(k:Int):=by omega
   have e3:(k:Int)<(n:Int):=by omega
   have e4:decide ((k:Int)<(n:Int))=true:=decide_eq_true e3;obtain⟨d,hd⟩:∃ d:UInt8,d=bAt ys k+91:=⟨_,rfl⟩
   have hset:HeldE w0 (wr.setCell ⟨g,k,none⟩ (.int .u8 (d.toNat:Int))) g c n (ys.set k d):=HI.out.1.set hlt d;have HSET:=hid (show HeldE w0 (wr.setCell ⟨g,k,none⟩ (.int .u8 (d.toNat:Int))) g c n (ys.set k d)∧(∀ b,b≠g→(wr.setCell ⟨g,k,none⟩ (.int .u8 (d.toNat:Int))).heap[b]?=w.heap[b]?)∧(wr.setCell ⟨g,k,none⟩ (.int .u8 (d.toNat:Int))).heap.size=w.heap.size from ⟨hset,fun b hb=>(Below.heap_setCell _ _ _ _ (by show b≠g;exact hb)).trans (HI.out.2.1 b hb),by simpa using HI.out.2.2⟩);have hw:IntKind.u8.wrap (((bAt ys k).toNat:Int)+91)=(d.toNat:Int):=by
    rw[hd];show (((bAt ys k).toNat:Int)+91) % 256=_;have hlt8:=(bAt ys k).toNat_lt;rw[UInt8.toNat_add];show _=((((bAt ys k).toNat+91) % 256:Nat):Int)
    omega
   generalize (d.toNat:Int)=dn at hw HSET;generalize ((bAt ys k).toNat:Int)=xn at hcell hw;clear hset hd;go_upto_region 2 with (fail);generalize wr.setCell ⟨g,k,none⟩ (.int .u8 dn)=w2 at HSET ⊢;clear hcell hfz hw;go_wp2;go_roundw
   case rel=>exact⟨k+1,_,by go_num,by omega,HSET⟩
   case measure=>simp[intOf];omega
  ·obtain rfl:k=n:=by omega
   have d1:decide ((k:Int)<(k:Int))=false:=decide_eq_false (by omega);clear hk hge;go_wp2;go_end0;exact⟨rfl,HI.out.2.1,HI.out.2.2,HI.out.1.2.2⟩
end Go.Proofs.YtkpboalccpancaaGreatDoor
