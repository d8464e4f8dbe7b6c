import Derived.Test.YtkpboalccpancaaGreatDoorErSeven
import Derived.Deep.AppendLies
import Derived.Deep.RegionLaw
namespace Go.Proofs.YtkpboalccpancaaGreatDoor
open Go.RowKit Go.Shelf
open Lib(hid)
set_option maxRecDepth 100000
set_option linter.all false
set_option maxHeartbeats 2000000
theorem seventh_bracket (p cap k:Nat) (a:Option Addr) (L:List TokE) (w:World) (h:RSt w p cap a L k (-1)) (hk:k<L.length) (hkd:(L.getD k default).kd=5) (ht:(L.getD k default).tx.data.toList=[40]) (hg:gL L k=.mark [40])
  (hL:∀ (k' n':Nat) (W:World),k<k'→1≤n'→n'≤7→RSt W p cap a L k' (-1)→Calls Tryz.prog 90 #[.pointer (some ⟨p,0,none⟩),.int .i64 n'] W (RdT L (.lvl n') k' p cap a W)) :
  Calls Tryz.prog 104 #[.pointer (some ⟨p,0,none⟩)] w (RdT L (.lvl 7) k p cap a w):=by
 have HN:=hid (rnext_any p cap k (-1) a L w h);have HH:=hid h;have HLV:=hid hL;have HGM:=hid hg;have HG:Hid (gL L k≠.no):=hid (by rw[hg];exact fun h=>by cases h);have sf:=store_float;have hlen:=h.len;unfold NextD tkC at HN;generalize L.getD k default=t at *
 have HKD:=hid hkd;have e1:(t.tx.toList==[40])=true:=by rw[tl_dat,ht];rfl
 clear hg h hkd ht hL;go_enter Tryz.func104,Tryz.ntmps104;go_upto_region 2 with (go_at_call 122;refine HN.out.mono ?_;rintro e w1 ⟨hc,hb⟩;rcases hc with ⟨hx,_⟩|⟨_,_,rfl⟩;(exact absurd hx HG.out);have HB1:=hid hb;clear hb);obtain⟨W,hW,hx,hbw,hsw,hpl⟩:=tok_box t HH.out HB1.out;rw[← hW];have x0:=hx.c 0 rfl;have x1:=hx.c 1 rfl;rw[HKD.out] at x0;have HX:=hid hx;have HB:=hid hbw;have HS:=hid hsw;have c1:=hsw.rdr.c1;have fz:=hsw.rdr.fz (o:=1);clear hW hx hbw hsw;go_upto_region 7 with (fail);rw[show (k:Int)+1=((k+1:Nat):Int) from rfl];have HMV:=hid (HS.out.move (k+1) (by omega));have HXM:=hid (HX.out.other (h:=p) (by omega) 1 (.int .i64 ((k+1:Nat):Int)));have HBM:Hid (Below p w (W.setCell ⟨p,1,none⟩ (.int .i64 ((k+1:Nat):Int)))∧Oth p w (W.setCell ⟨p,1,none⟩ (.int .i64 ((k+1:Nat):Int)))):=hid ⟨(HB.out.mono (Nat.le_of_lt HH.out.rdr.lt)).setCell (Nat.le_refl p) _,(Oth.of_below HB.out).set 1 _⟩;generalize W.setCell ⟨p,1,none⟩ (.int .i64 ((k+1:Nat):Int))=WM at HMV HBM HXM ⊢;clear x0 x1 c1 fz;have x0:=HXM.out.c 0 rfl
 try rw[HKD.out] at x0
 have HV:=hid (HLV.out (k+1) 1 WM (by omega) (by omega) (by omega) HMV.out);go_upto_region 16 with (go_at_call 90;refine HV.out.mono ?_;rintro e w3 ⟨he,hb,ho⟩;have HB3:=hid (And.intro (HBM.out.1.trans hb) (HBM.out.2.trans ho));clear hb ho;rcases he with ⟨qe,k1,hqe,rfl,hst⟩|⟨b,q2,qb,hq2,hcq2,rfl,hst2,htr2⟩)
 ·have HQ:=hid hqe;have HST3:=hid hst;clear hqe hst;go_wp2;go_ret;exact⟨.inl ⟨qe,k1,Rd.bracket HGM.out (.inl ⟨qe,HQ.out,rfl⟩),rfl,HST3.out⟩,HB3.out⟩
 have HQ2:=hid hq2;have HC2:=hid hcq2;have HTB3:Hid (TreeAt w3 (w.heap.size-1) b qb):=hid (htr2.mono (by have:=HBM.out.2.1;omega));have HMU:=hid (must_any p cap q2 a L ⟨#[41]⟩ w3 hst2);have hpw:=HH.out.rdr.lt;clear hq2 hst2 htr2 hcq2;go_wp2_with (go_at_call 124;refine HMU.out.mono ?_;rintro e w4 ⟨he,hb,ho⟩;have HB4:=hid (And.intro (HB3.out.1.trans hb) (HB3.out.2.trans ho));have HT4:=hid (HTB3.out.oth2 ho (by omega));clear hb ho;rcases he with ⟨hm,rfl,hst⟩|⟨hm,rfl,hst⟩ <;> (have HM:=hid hm;have HST4:=hid hst;clear hm hst))
 ·go_ret;exact⟨.inl ⟨q2,q2,Rd.bracket HGM.out (.inr ⟨b,q2,HQ2.out,(if_neg (by rw[show isM (gL L q2) [41]=false from HM.out];decide)).symm⟩),rfl,HST4.out⟩,HB4.out⟩
 ·go_ret;exact⟨.inr ⟨b,q2+1,qb,Rd.bracket HGM.out (.inr ⟨b,q2,HQ2.out,(if_pos (show isM (gL L q2) [41]=true from HM.out)).symm⟩),by have:=HC2.out;omega,rfl,HST4.out,HT4.out⟩,HB4.out⟩
theorem RSt.keepP {w w':World} {p cap k:Nat} {bad:Int} {a:Option Addr} {L:List TokE} (h:RSt w p cap a L k bad) (hb:∀ j,j≤p→w'.heap[j]?=w.heap[j]?):RSt w' p cap a L k bad:=by
 refine⟨(hb p (Nat.le_refl p)).trans h.rdr,fun i hi=>?_,h.low,h.len,h.at_,h.sized,h.real⟩;obtain⟨x,hx,h0,h1,h2,h3,h4,h5⟩:=h.toks i hi;have hl:=hb _ (Nat.le_of_lt (h.low x hx (i * 6)));exact⟨x,hx,(World.cell?_of_block hl).trans h0,(World.cell?_of_block (a:=⟨(x.add (i * 6)).block,_,none⟩) hl).trans h1,(World.cell?_of_block (a:=⟨(x.add (i * 6)).block,_,none⟩) hl).trans h2,(World.cell?_of_block (a:=⟨(x.add (i * 6)).block,_,none⟩) hl).trans h3,(World.cell?_of_block (a:=⟨(x.add (i * 6)).block,_,none⟩) hl).trans h4,(World.cell?_of_block (a:=⟨(x.add (i * 6)).block,_,none⟩) hl).trans h5⟩
structure WSt (w wr:World) (p cap:Nat) (a:Option Addr) (L:List TokE) (K X q:Nat) (kv:Value) (ks:List Nat):Prop where
 rst:RSt wr p cap a L q (-1)
 box:Bx wr X 172 (trC (pairN K 0 0) kv)
 row:wr.ownsRow (X+1) 151 1 kv ks.length (ks.map ptrV)
 xlo:w.heap.size≤X
 bel:Below p w wr
 oth:Oth p w wr
 plt:p<w.heap.size
theorem WSt.oth_step {w wr w2:World} {p cap K X q q2:Nat} {a:Option Addr} {L:List TokE} {kv:Value} {ks:List Nat} (h:WSt w wr p cap a L K X q kv ks) (hb:Below p wr w2) (ho:Oth p wr w2) (hr:RSt w2 p cap a L q2 (-1)):WSt w w2 p cap a L K X q2 kv ks:=by
 have hx:=h.box.lt;have hxl:=h.xlo;have hpl:=h.plt;refine⟨hr,(ho.2 X hx (by omega)).trans h.box,⟨h.row.1,?_⟩,h.xlo,h.bel.trans hb,h.oth.trans ho,h.plt⟩;rcases h.row.2 with hn|⟨g,cap,cur,rfl,hbs,hgg,rest⟩
 ·exact .inl hn
 ·exact .inr ⟨g,cap,cur,rfl,hbs,(ho.2 g (lt_of_block hgg) (by omega)).trans hgg,rest⟩
theorem WSt.grow {w w3 w1:World} {p cap K X q g cap' qa:Nat} {a:Option Addr} {L:List TokE} {kv:Value} {ks:List Nat} (h:WSt w w3 p cap a L K X q kv ks) (hg:w3.grownBy w1 kv.ownBlock)
  (hown:w1.ownsRow (X+1) 151 1 (.slice (some ⟨g,0,none⟩) (ks.length+1) cap') (ks.length+1) (ks.map ptrV++[ptrV qa])) :
  WSt w (w1.setCell ⟨X,7,none⟩ (.slice (some ⟨g,0,none⟩) (ks.length+1) cap')) p cap a L K X q (.slice (some ⟨g,0,none⟩) (ks.length+1) cap') (ks++[qa]) ∧
  ∀ j,j<w3.heap.size→j≠X→kv.ownBlock≠some j→(w1.setCell ⟨X,7,none⟩ (.slice (some ⟨g,0,none⟩) (ks.length+1) cap')).heap[j]?=w3.heap[j]?:=by
 have hx:=h.box.lt;have hxl:=h.xlo;have hpl:=h.plt;have hn:∀ b,kv.ownBlock=some b→X+1≤b:=fun b hb=>(h.row.lt b hb).1;have hfar:∀ j,j<w3.heap.size→j≠X→kv.ownBlock≠some j→(w1.setCell ⟨X,7,none⟩ (.slice (some ⟨g,0,none⟩) (ks.length+1) cap')).heap[j]?=w3.heap[j]?:=fun j h1 h2 h3 =>
  (Below.heap_setCell _ _ _ _ (by show j≠X;exact h2)).trans (hg.block j h1 (fun e=>h3 e.symm))
 have hbox1:Bx w1 X 172 (trC (pairN K 0 0) kv):=(hg.block X hx (fun e=>by have:=hn X e.symm;omega)).trans h.box;have hsz:=hg.size;refine⟨⟨h.rst.keepP (fun j hj=>hfar j (by omega) (by omega) (fun e=>by have:=hn j e;omega)),hbox1.set 7 _,?_,h.xlo,(h.bel.grown hg (by omega) (fun b hb=>by have:=hn b hb;omega)).setCell (by show p≤X;omega) _,⟨by have:=h.oth.1;simp;omega,fun j h1 h2=>(hfar j (by have:=h.oth.1;omega) (by omega) (fun e=>by have:=hn j e;omega)).trans (h.oth.2 j h1 h2)⟩,h.plt⟩,hfar⟩;rw[List.length_append,List.map_append];exact ownsRow_setCell_below hown (by show X<X+1;omega) _
set_option maxHeartbeats 4000000
theorem wordK_range (l:List UInt8) (h:wordK l≠0):18≤wordK l∧wordK l≤26:=by
 unfold wordK at h ⊢
 repeat' split
 all_goals first|omega|(exfalso;simp_all;done)|skip
theorem wdN_two (k:Nat):wdN k=1∨wdN k=2:=by unfold wdN;split;exact .inr rfl;exact .inl rfl
theorem infoP:(Tryz.prog.info? 151).map (fun i=>(i.zero,i.size,i.bytes))=some (some (.pointer none),1,8):=by kernel_rfl
theorem wst_alloc {w w5:World} {p cap K X q:Nat} {a:Option Addr} {L:List TokE} {kv:Value} {ks:List Nat} (h:WSt w w5 p cap a L K X q kv ks) (o:Obj):WSt w (w5.alloc o) p cap a L K X q kv ks :=
 h.oth_step (((Below.refl _ w5).alloc (Nat.le_refl _) o).mono (Nat.le_of_lt h.rst.rdr.lt)) (Oth.of_below ((Below.refl _ w5).alloc (Nat.le_refl _) o)) (h.rst.below ((Below.refl _ w5).alloc (Nat.le_refl _) o))
theorem wst_grown {w w5 w7:World} {p cap K X q:Nat} {a:Option Addr} {L:List TokE} {kv:Value} {ks:List Nat} (h:WSt w w5 p cap a L K X q kv ks) (hg:w5.grownBy w7 kv.ownBlock):Bx w7 X 172 (trC (pairN K 0 0) kv) :=
 (hg.block X h.box.lt (fun e=>by have:=(h.row.lt X e.symm).1;omega)).trans h.box
theorem news_one (w:World) (v:Value) (t:TypeId):∀ j u,[v][j]?=some u→(w.alloc (.cells #[v] t)).cell? ((⟨w.heap.size,0,none⟩:Addr).add j)=some u:=cells_laid w [v] t
def Rob (wr:World) (X s:Nat) (t:Ex) (qa:Nat):Prop:=∀ w',wr.heap.size≤w'.heap.size→(∀ j,X<j→j<wr.heap.size→j≠s→w'.heap[j]?=wr.heap[j]?)→TreeAt w' X t qa
def Wd (w:World) (p cap:Nat) (a:Option Addr) (L:List TokE) (K X k:Nat) (i:Int) (kv:Value) (wr:World):Prop :=
 (i=0∧kv=.slice none 0 0∧WSt w wr p cap a L K X (k+1) kv []) ∨
 (i=1∧∃ t q qa s c,isM (gL L (k+1)) [40]=true∧Rd (gL L) (.lvl 1) (k+2) (.ok t q)∧cnt t+(k+2)≤q∧kv=.slice (some ⟨s,0,none⟩) 1 c∧WSt w wr p cap a L K X q kv [qa]∧s<wr.heap.size∧Rob wr X s t qa) ∨
 (i=2∧wdN K≠1∧∃ t q1 u q qa qb s c,isM (gL L (k+1)) [40]=true∧Rd (gL L) (.lvl 1) (k+2) (.ok t q1)∧isM (gL L q1) [44]=true∧Rd (gL L) (.lvl 1) (q1+1) (.ok u q)∧cnt t+cnt u+(k+3)≤q ∧
  kv=.slice (some ⟨s,0,none⟩) 2 c∧WSt w wr p cap a L K X q kv [qa,qb]∧TreeAt wr X t qa∧TreeAt wr X u qb)
theorem wd_one {w w5 w7:World} {p cap K X k q1 qa g cap':Nat} {a:Option Addr} {L:List TokE} {t1:Ex} {o:Obj} (h:WSt w w5 p cap a L K X q1 (.slice none 0 0) []) (ht:TreeAt w5 X t1 qa)
  (hm:isM (gL L (k+1)) [40]=true) (hr:Rd (gL L) (.lvl 1) (k+2) (.ok t1 q1)) (hc:cnt t1+(k+2)≤q1) (hg:(w5.alloc o).grownBy w7 (Value.slice none 0 0).ownBlock)
  (hown:w7.ownsRow (X+1) 151 1 (.slice (some ⟨g,0,none⟩) (0+1) cap') (0+1) ([]++[ptrV qa])) (hat:(Value.slice none 0 0).ownBlock=some g∨g=(w5.alloc o).heap.size) (hlt:g<w7.heap.size) :
  Wd w p cap a L K X k 1 (.slice (some ⟨g,0,none⟩) 1 cap') (w7.setCell ⟨X,7,none⟩ (.slice (some ⟨g,0,none⟩) 1 cap')):=by
 obtain⟨h1,hfar⟩:=(wst_alloc h o).grow hg hown;have hs:(w5.alloc o).heap.size=w5.heap.size+1:=by simp
 have hsz:=hg.size;have hg1:g=w5.heap.size+1:=by
  rcases hat with h|h
  ·cases h
  ·rw[h,hs]
 refine .inr (.inl ⟨rfl,t1,q1,qa,g,cap',hm,hr,hc,rfl,h1,by simpa using hlt,fun w' hw hj=>?_⟩);have hz:(w7.setCell ⟨X,7,none⟩ (.slice (some ⟨g,0,none⟩) 1 cap')).heap.size=w7.heap.size:=by simp
 rw[hz] at hw hj;refine ht.keep (fun j hj1 hj2=>?_) (by omega);refine((hj j hj1 (by omega) (by omega)).trans (hfar j (by omega) (by omega) (by intro e;cases e))).trans ?_;exact heap_alloc_old w5 o hj2
theorem wd_two {w wr w4 w5 w7:World} {p cap K X k q1 q qa qb s c g cap':Nat} {a:Option Addr} {L:List TokE} {t1 u:Ex} {o:Obj} (h:WSt w w5 p cap a L K X q (.slice (some ⟨s,0,none⟩) 1 c) [qa]) (hrob:Rob wr X s t1 qa)
  (hsl:s<wr.heap.size) (ho4:Oth p wr w4) (ho5:Oth p w4 w5) (hpx:p<X) (hx4:X<w4.heap.size) (hu:TreeAt w5 (w4.heap.size-1) u qb) (hn:wdN K≠1)
  (hm:isM (gL L (k+1)) [40]=true) (hr:Rd (gL L) (.lvl 1) (k+2) (.ok t1 q1)) (hm2:isM (gL L q1) [44]=true) (hr2:Rd (gL L) (.lvl 1) (q1+1) (.ok u q)) (hc:cnt t1+cnt u+(k+3)≤q) (hg:(w5.alloc o).grownBy w7 (Value.slice (some ⟨s,0,none⟩) 1 c).ownBlock)
  (hown:w7.ownsRow (X+1) 151 1 (.slice (some ⟨g,0,none⟩) (1+1) cap') (1+1) ([ptrV qa]++[ptrV qb])) :
  Wd w p cap a L K X k 2 (.slice (some ⟨g,0,none⟩) 2 cap') (w7.setCell ⟨X,7,none⟩ (.slice (some ⟨g,0,none⟩) 2 cap')):=by
 obtain⟨h1,hfar⟩:=(wst_alloc h o).grow hg hown;have hs:(w5.alloc o).heap.size=w5.heap.size+1:=by simp
 have hsz:=hg.size;have h14:=ho4.1;have h15:=ho5.1;have hz:(w7.setCell ⟨X,7,none⟩ (.slice (some ⟨g,0,none⟩) 2 cap')).heap.size=w7.heap.size:=by simp
 have hfar2:∀ j,j<w5.heap.size→j≠X→j≠s→(w7.setCell ⟨X,7,none⟩ (.slice (some ⟨g,0,none⟩) 2 cap')).heap[j]?=w5.heap[j]?:=fun j h1 h2 h3 =>
  (hfar j (by omega) h2 (by intro e;injection e with e;exact h3 e.symm)).trans (heap_alloc_old w5 o h1)
 refine .inr (.inr ⟨rfl,hn,t1,q1,u,q,qa,qb,g,cap',hm,hr,hm2,hr2,hc,rfl,h1,hrob _ (by rw[hz];omega) (fun j hj1 hj2 hj3=>?_),(hu.keep (fun j hj1 hj2=>hfar2 j hj2 (by omega) (by omega)) (by rw[hz];omega)).mono (by omega)⟩);exact((hfar2 j (by omega) (by omega) hj3).trans (ho5.2 j (by omega) (by omega))).trans (ho4.2 j hj2 (by omega))
theorem own_cell {w:World} {b s n c i:Nat} {T:TypeId} {ks:List Nat} {q:Nat} (h:w.ownsRow b T 1 (.slice (some ⟨s,0,none⟩) n c) ks.length (ks.map ptrV)) (hq:ks[i]?=some q):w.cell? ⟨s,i,none⟩=some (ptrV q):=by
 have:=h.cells (g:=s) rfl i (ptrV q) (by simp[hq]);have hadd:(⟨s,0,none⟩:Addr).add i=⟨s,i,none⟩:=by unfold Addr.add;split <;> simp_all
 rw[hadd] at this;exact this
theorem wd_un {w w4:World} {p cap K X q qa s c:Nat} {a:Option Addr} {L:List TokE} {t1:Ex} (h:WSt w w4 p cap a L K X q (.slice (some ⟨s,0,none⟩) 1 c) [qa]) (ht:TreeAt w4 X t1 qa):TreeAt w4 (w.heap.size-1) (.un K t1) X:=by
 have hx:=h.xlo;have hp:=h.plt;obtain⟨hb,hl⟩:=h.row.lt s rfl;exact⟨by omega,s,c,qa,by omega,hl,h.box,own_cell (i:=0) h.row rfl,ht.mono (by omega)⟩
theorem wd_bi {w w4:World} {p cap K X q qa qb s c:Nat} {a:Option Addr} {L:List TokE} {t1 u:Ex} (h:WSt w w4 p cap a L K X q (.slice (some ⟨s,0,none⟩) 2 c) [qa,qb]) (ht:TreeAt w4 X t1 qa) (hu:TreeAt w4 X u qb):TreeAt w4 (w.heap.size-1) (.bi K t1 u) X:=by
 have hx:=h.xlo;have hp:=h.plt;obtain⟨hb,hl⟩:=h.row.lt s rfl;exact⟨by omega,s,c,qa,qb,by omega,hl,h.box,own_cell (i:=0) h.row rfl,own_cell (i:=1) h.row rfl,ht.mono (by omega),hu.mono (by omega)⟩
theorem seventh_word (p cap k K:Nat) (a:Option Addr) (L:List TokE) (w:World) (h:RSt w p cap a L k (-1)) (hk:k<L.length) (hkd:(L.getD k default).kd=1) (ht:(L.getD k default).tx.data.toList≠[116,114,117,101]) (hf:(L.getD k default).tx.data.toList≠[102,97,108,115,101])
  (hw:wordK (L.getD k default).tx.data.toList=K) (hK:K≠0) (hg:gL L k=.word K)
  (hL:∀ (k' n':Nat) (W:World),k<k'→1≤n'→n'≤7→RSt W p cap a L k' (-1)→Calls Tryz.prog 90 #[.pointer (some ⟨p,0,none⟩),.int .i64 n'] W (RdT L (.lvl n') k' p cap a W)) :
  Calls Tryz.prog 104 #[.pointer (some ⟨p,0,none⟩)] w (RdT L (.lvl 7) k p cap a w):=by
 have HN:=hid (rnext_any p cap k (-1) a L w h);have HH:=hid h;have HLV:=hid hL;have HGM:=hid hg;have HG:Hid (gL L k≠.no):=hid (by rw[hg];exact fun h=>by cases h);have sf:=store_float;have sc:=store_cplx;have hlen:=h.len;have hrg:=wordK_range _ (by rw[hw];exact hK);rw[hw] at hrg;unfold NextD tkC at HN;generalize L.getD k default=t at *
 have HKD:=hid hkd;have e1:(t.tx.toList==[116,114,117,101])=false:=by rw[tl_dat];exact beq_eq_false_iff_ne.2 ht
 have e2:(t.tx.toList==[102,97,108,115,101])=false:=by rw[tl_dat];exact beq_eq_false_iff_ne.2 hf
 have HWK:=fun W=>hid (wordKind_any t.tx W);have HKI:=fun W=>hid (kids_any K hrg.1 hrg.2 W);rw[hw] at HWK;have dk:((K:Int)==0)=false:=beq_eq_false_iff_ne.2 (by omega);obtain⟨N,hN⟩:∃ N:Int,N=((wdN K:Nat):Int):=⟨_,rfl⟩
 rw[← hN] at HKI;have HNN:Hid (N=1∨N=2):=hid (by rcases wdN_two K with h|h <;> omega);have HNE:=hid hN;clear hg h hkd ht hf hw hL hK hrg hN;go_enter Tryz.func104,Tryz.ntmps104;go_upto_region 2 with (go_at_call 122;refine HN.out.mono ?_;rintro e w1 ⟨hc,hb⟩;rcases hc with ⟨hx,_⟩|⟨_,_,rfl⟩;(exact absurd hx HG.out);have HB1:=hid hb;clear hb);obtain⟨W,hW,hx,hbw,hsw,hpl⟩:=tok_box t HH.out HB1.out;rw[← hW];have x0:=hx.c 0 rfl;rw[HKD.out] at x0;have HX:=hid hx;have HB:=hid hbw;have HS:=hid hsw;have c1:=hsw.rdr.c1;have fz:=hsw.rdr.fz (o:=1);clear hW hx hbw hsw;go_upto_region 7 with (fail);rw[show (k:Int)+1=((k+1:Nat):Int) from rfl];have HMV:=hid (HS.out.move (k+1) (by omega));have HXM:=hid (HX.out.other (h:=p) (by omega) 1 (.int .i64 ((k+1:Nat):Int)));have HBM:Hid (Below p w (W.setCell ⟨p,1,none⟩ (.int .i64 ((k+1:Nat):Int)))∧Oth p w (W.setCell ⟨p,1,none⟩ (.int .i64 ((k+1:Nat):Int)))):=hid ⟨(HB.out.mono (Nat.le_of_lt HH.out.rdr.lt)).setCell (Nat.le_refl p) _,(Oth.of_below HB.out).set 1 _⟩;generalize W.setCell ⟨p,1,none⟩ (.int .i64 ((k+1:Nat):Int))=WM at HMV HBM HXM ⊢;clear x0 c1 fz;have x0:=HXM.out.c 0 rfl;have x1:=HXM.out.c 1 rfl;rw[HKD.out] at x0;go_upto_region 26 with (go_at_call 125;refine(HWK _).out.mono ?_;rintro e w2 ⟨rfl,hb2⟩;have HM2:=hid (HMV.out.below hb2);have HB2:=hid (And.intro (HBM.out.1.trans (hb2.mono (Nat.le_of_lt HMV.out.rdr.lt))) (HBM.out.2.trans (Oth.of_below hb2)));have HX2:=hid (HXM.out.keep hb2 HXM.out.lt);clear hb2;have y1:=HX2.out.c 1 rfl);go_upto_region 27 with (fail);obtain⟨W3,hW3⟩:∃ W3,W3=w2.alloc (.cells (trC (pairN K 0 0) (.slice none 0 0)).toArray 172):=⟨_,rfl⟩
 have hb3:Below w2.heap.size w2 W3:=by rw[hW3];exact(Below.refl _ w2).alloc (Nat.le_refl _) _
 have HWS:Hid (WSt w W3 p cap a L K w2.heap.size (k+1) (.slice none 0 0) []):=hid ⟨HM2.out.below hb3,by rw[hW3];exact Bx.new w2 _ _,World.ownsRow_nil _ _ _ _,HB2.out.2.1,HB2.out.1.trans (hb3.mono (Nat.le_of_lt HM2.out.rdr.lt)),HB2.out.2.trans (Oth.of_below hb3),HH.out.rdr.lt⟩;unfold trC pairN at hW3;rw[← hW3];clear hW3 hb3 x0 x1 y1 HM2 HB2 HX2;generalize w2.heap.size=X at HWS ⊢;clear HN HB1 HX HB HS HMV HBM HXM HWK e1 e2 dk;go_wp2
 go_loopg [8] 2 (fun gk iv wr=>∃ (i:Int) (kv:Value),gk=2-i.toNat∧iv=.int .i64 i∧Hid (Wd w p cap a L K X k i kv wr))
 case atStart=>exact⟨0,_,rfl,rfl,hid (.inl ⟨rfl,rfl,HWS.out⟩)⟩
 case round =>
  obtain⟨i,kv,rfl,rfl,HW⟩:=hrel;clear HWS;have HWD:=HW.out;clear HW;rcases HWD with ⟨rfl,rfl,hws⟩|⟨rfl,t1,q1,qa,s,c,hm0,hr1,hc1,rfl,hws,hsl,hrob⟩|⟨rfl,hn1,t1,q1,u,q,qa,qb,s,c,hm0,hr1,hm1,hr2,hc2,rfl,hws,hta,htb⟩
  ·have HWS:=hid hws;have d0:decide ((0:Int)<N)=true:=by rcases HNN.out with h|h <;> rw[h] <;> rfl
   clear hws;go_upto_region 35 with (first
    | (go_at_call 126;refine(HKI _).out.mono ?_;rintro e w3 ⟨rfl,hb3⟩;have HW3:=hid (HWS.out.oth_step (hb3.mono (Nat.le_of_lt HWS.out.rst.rdr.lt)) (Oth.of_below hb3) (HWS.out.rst.below hb3));clear hb3)
    | (go_at_call 124;refine(must_any p cap (k+1) a L ⟨#[40]⟩ _ HW3.out.rst).mono ?_;rintro e w4 ⟨he,hb,ho⟩;have HB4:=hid (And.intro hb ho);clear hb ho;rcases he with ⟨hm,rfl,hst⟩|⟨hm,rfl,hst⟩ <;> (have HM:=hid hm;have HST4:=hid hst;clear hm hst)))
   ·go_ret;exact⟨.inl ⟨k+1,k+1,Rd.word HGM.out (by rw[if_neg (by rw[show isM (gL L (k+1)) [40]=false from HM.out];decide)]),rfl,HST4.out⟩,HW3.out.bel.trans HB4.out.1,HW3.out.oth.trans HB4.out.2⟩
   have HW4:=hid (HW3.out.oth_step HB4.out.1 HB4.out.2 HST4.out);clear HST4 HB4;have HV:=hid (HLV.out (k+2) 1 w4 (by omega) (by omega) (by omega) HW4.out.rst);go_upto_region 38 with (go_at_call 90;refine HV.out.mono ?_;rintro e w5 ⟨he,hb,ho⟩;have HB5:=hid (And.intro hb ho);clear hb ho;rcases he with ⟨qe,k1,hqe,rfl,hst⟩|⟨t1,q1,qa,hr1,hc1,rfl,hst,htr⟩)
   ·have HQ:=hid hqe;have HST5:=hid hst;clear hqe hst;go_wp2;go_ret;exact⟨.inl ⟨qe,k1,Rd.word HGM.out (by rw[if_pos HM.out];exact .inl ⟨qe,HQ.out,rfl⟩),rfl,HST5.out⟩,HW4.out.bel.trans HB5.out.1,HW4.out.oth.trans HB5.out.2⟩
   have HR1:=hid hr1;have HC1:=hid hc1;have HT1:Hid (TreeAt w5 X t1 qa):=hid (htr.mono (by have:=HW4.out.box.lt;omega));have HW5:=hid (HW4.out.oth_step HB5.out.1 HB5.out.2 hst);have c7:=HW5.out.box.c 7 rfl;have f7:=HW5.out.box.fz 7;clear hr1 hc1 htr hst;obtain⟨i0,hi,hz0,hz1,hz2⟩:=info_parts3 infoP;go_wp2_with (at_builtin;refine wpList_append_lies _ rfl (.tmp 116) (.tmp 118) 170 rfl (X+1) 151 i0 (.pointer none) 1 8 Tryz.underlying170 hi hz0 hz1 hz2 rfl (by decide) (.slice none 0 0) 0 [] rfl (wst_alloc HW5.out (.cells #[.pointer (some ⟨qa,0,none⟩)] 151)).row ⟨w5.heap.size,0,none⟩ 1 1 [ptrV qa] rfl rfl (news_one w5 (ptrV qa) 151) (fun u hu=>by simp at hu;subst hu;rfl) (by decide) (by decide) (by decide) (by have:=HW5.out.box.lt;simp;omega) _ rfl ?_;intro g cap' w7 hown hgrow hat hlt;have hbx:=wst_grown (wst_alloc HW5.out (.cells #[.pointer (some ⟨qa,0,none⟩)] 151)) hgrow;have d7:=hbx.c 7 rfl;have g7:=hbx.fz 7;clear hbx;have HOW:=hid hown;have HGR:=hid hgrow;have HAT:=hid hat;have HLT:=hid hlt;clear hown hgrow hat hlt)
   go_roundg 1
   case measure=>decide
   case rel=>exact⟨1,.slice (some ⟨g,0,none⟩) 1 cap',rfl,rfl,hid (wd_one HW5.out HT1.out HM.out HR1.out HC1.out HGR.out HOW.out HAT.out HLT.out)⟩
  ·have HWS:=hid hws;have HR1:=hid hr1;have HC1:=hid hc1;have HM0:=hid hm0;have HROB:=hid hrob;have HSL:=hid hsl;have hpx:p<X:=by have:=hws.plt;have:=hws.xlo;omega
   clear hws hr1 hc1 hm0 hrob hsl;rcases HNN.out with hN1|hN2
   ·have hk1:wdN K=1:=by have:=HNE.out;omega
    have HK1:=hid hk1;have d1:decide ((1:Int)<N)=false:=by rw[hN1];rfl
    clear hk1 hN1;go_wp2_with (first
     | (go_at_call 126;refine(HKI _).out.mono ?_;rintro e w3 ⟨rfl,hb3⟩;have HW3:=hid (HWS.out.oth_step (hb3.mono (Nat.le_of_lt HWS.out.rst.rdr.lt)) (Oth.of_below hb3) (HWS.out.rst.below hb3));have HO3:=hid (Oth.of_below (b:=p) hb3);clear hb3)
     | (go_at_call 124;refine(must_any p cap q1 a L ⟨#[41]⟩ _ HW3.out.rst).mono ?_;rintro e w4 ⟨he,hb,ho⟩;have HB4:=hid (And.intro hb ho);clear hb ho;rcases he with ⟨hm,rfl,hst⟩|⟨hm,rfl,hst⟩ <;> (have HM:=hid hm;have HST4:=hid hst;clear hm hst)))
    ·go_ret;exact⟨.inl ⟨q1,q1,Rd.word HGM.out (by rw[if_pos HM0.out];exact .inr ⟨t1,q1,HR1.out,by show (if wdN K=1 then _ else _);rw[if_pos HK1.out];exact(if_neg (by rw[show isM (gL L q1) [41]=false from HM.out];decide)).symm⟩),rfl,HST4.out⟩,HW3.out.bel.trans HB4.out.1,HW3.out.oth.trans HB4.out.2⟩
    ·have HW4:=hid (HW3.out.oth_step HB4.out.1 HB4.out.2 HST4.out);have ho:=HO3.out.trans HB4.out.2;have htr:=HROB.out w4 ho.1 (fun j hj1 hj2 _=>ho.2 j hj2 (by omega));have HTT:=hid (wd_un HW4.out htr);clear ho htr;go_ret;exact⟨.inr ⟨.un K t1,q1+1,X,Rd.word HGM.out (by rw[if_pos HM0.out];exact .inr ⟨t1,q1,HR1.out,by show (if wdN K=1 then _ else _);rw[if_pos HK1.out];exact(if_pos (show isM (gL L q1) [41]=true from HM.out)).symm⟩),by have:=HC1.out;show cnt t1+1+k≤q1+1;omega,rfl,HW4.out.rst,HTT.out⟩,HW4.out.bel,HW4.out.oth⟩
   ·have hk1:wdN K≠1:=by have:=HNE.out;omega
    have HK1:=hid hk1;have d1:decide ((1:Int)<N)=true:=by rw[hN2];rfl
    clear hk1 hN2;go_upto_region 35 with (first
     | (go_at_call 126;refine(HKI _).out.mono ?_;rintro e w3 ⟨rfl,hb3⟩;have HW3:=hid (HWS.out.oth_step (hb3.mono (Nat.le_of_lt HWS.out.rst.rdr.lt)) (Oth.of_below hb3) (HWS.out.rst.below hb3));have HO3:=hid (Oth.of_below (b:=p) hb3);clear hb3)
     | (go_at_call 124;refine(must_any p cap q1 a L ⟨#[44]⟩ _ HW3.out.rst).mono ?_;rintro e w4 ⟨he,hb,ho⟩;have HB4:=hid (And.intro hb ho);clear hb ho;rcases he with ⟨hm,rfl,hst⟩|⟨hm,rfl,hst⟩ <;> (have HM:=hid hm;have HST4:=hid hst;clear hm hst)))
    ·go_ret;exact⟨.inl ⟨q1,q1,Rd.word HGM.out (by rw[if_pos HM0.out];exact .inr ⟨t1,q1,HR1.out,by show (if wdN K=1 then _ else _);rw[if_neg HK1.out,if_neg (by rw[show isM (gL L q1) [44]=false from HM.out];decide)]⟩),rfl,HST4.out⟩,HW3.out.bel.trans HB4.out.1,HW3.out.oth.trans HB4.out.2⟩
    have HW4:=hid (HW3.out.oth_step HB4.out.1 HB4.out.2 HST4.out);have HO4:=hid (HO3.out.trans HB4.out.2);clear HST4 HB4;have HV:=hid (HLV.out (q1+1) 1 w4 (by have:=HC1.out;omega) (by omega) (by omega) HW4.out.rst);go_upto_region 38 with (go_at_call 90;refine HV.out.mono ?_;rintro e w5 ⟨he,hb,ho⟩;have HB5:=hid (And.intro hb ho);clear hb ho;rcases he with ⟨qe,k1,hqe,rfl,hst⟩|⟨u,q,qb,hr2,hc2,rfl,hst,htr⟩)
    ·have HQ:=hid hqe;have HST5:=hid hst;clear hqe hst;go_wp2;go_ret;exact⟨.inl ⟨qe,k1,Rd.word HGM.out (by rw[if_pos HM0.out];exact .inr ⟨t1,q1,HR1.out,by show (if wdN K=1 then _ else _);rw[if_neg HK1.out,if_pos (show isM (gL L q1) [44]=true from HM.out)];exact .inl ⟨qe,HQ.out,rfl⟩⟩),rfl,HST5.out⟩,HW4.out.bel.trans HB5.out.1,HW4.out.oth.trans HB5.out.2⟩
    have HR2:=hid hr2;have HC2:Hid (cnt t1+cnt u+(k+3)≤q):=hid (by have:=HC1.out;omega);have HTU:=hid htr;have HW5:=hid (HW4.out.oth_step HB5.out.1 HB5.out.2 hst);have c7:=HW5.out.box.c 7 rfl;have f7:=HW5.out.box.fz 7;clear hr2 hc2 htr hst;obtain⟨i0,hi,hz0,hz1,hz2⟩:=info_parts3 infoP;go_wp2_with (at_builtin;refine wpList_append_lies _ rfl (.tmp 116) (.tmp 118) 170 rfl (X+1) 151 i0 (.pointer none) 1 8 Tryz.underlying170 hi hz0 hz1 hz2 rfl (by decide) (.slice (some ⟨s,0,none⟩) 1 c) 1 [ptrV qa] rfl (wst_alloc HW5.out (.cells #[.pointer (some ⟨qb,0,none⟩)] 151)).row ⟨w5.heap.size,0,none⟩ 1 1 [ptrV qb] rfl rfl (news_one w5 (ptrV qb) 151) (fun u hu=>by simp at hu;subst hu;rfl) (by decide) (by decide) (by decide) (by have:=HW5.out.box.lt;simp;omega) _ rfl ?_;intro g cap' w7 hown hgrow hat hlt;have hbx:=wst_grown (wst_alloc HW5.out (.cells #[.pointer (some ⟨qb,0,none⟩)] 151)) hgrow;have d7:=hbx.c 7 rfl;have g7:=hbx.fz 7;clear hbx;have HOW:=hid hown;have HGR:=hid hgrow;clear hown hgrow hat hlt)
    go_roundg 0
    case measure=>decide
    case rel=>exact⟨2,.slice (some ⟨g,0,none⟩) 2 cap',rfl,rfl,hid (wd_two HW5.out HROB.out HSL.out HO4.out HB5.out.2 hpx HW4.out.box.lt HTU.out HK1.out HM0.out HR1.out HM.out HR2.out HC2.out HGR.out HOW.out)⟩
  ·have HWS:=hid hws;have HR1:=hid hr1;have HR2:=hid hr2;have HC2:=hid hc2;have HM0:=hid hm0;have HM1:=hid hm1;have HTA:=hid hta;have HTB:=hid htb;have HK1:=hid hn1;have hpx:p<X:=by have:=hws.plt;have:=hws.xlo;omega
   have d2:decide ((2:Int)<N)=false:=by rcases HNN.out with h|h <;> rw[h] <;> rfl
   clear hws hr1 hr2 hc2 hm0 hm1 hta htb hn1;go_wp2_with (first
    | (go_at_call 126;refine(HKI _).out.mono ?_;rintro e w3 ⟨rfl,hb3⟩;have HW3:=hid (HWS.out.oth_step (hb3.mono (Nat.le_of_lt HWS.out.rst.rdr.lt)) (Oth.of_below hb3) (HWS.out.rst.below hb3));have HO3:=hid (Oth.of_below (b:=p) hb3);clear hb3)
    | (go_at_call 124;refine(must_any p cap q a L ⟨#[41]⟩ _ HW3.out.rst).mono ?_;rintro e w4 ⟨he,hb,ho⟩;have HB4:=hid (And.intro hb ho);clear hb ho;rcases he with ⟨hm,rfl,hst⟩|⟨hm,rfl,hst⟩ <;> (have HM:=hid hm;have HST4:=hid hst;clear hm hst)))
   ·go_ret;exact⟨.inl ⟨q,q,Rd.word HGM.out (by rw[if_pos HM0.out];exact .inr ⟨t1,q1,HR1.out,by show (if wdN K=1 then _ else _);rw[if_neg HK1.out,if_pos HM1.out];exact .inr ⟨u,q,HR2.out,(if_neg (by rw[show isM (gL L q) [41]=false from HM.out];decide)).symm⟩⟩),rfl,HST4.out⟩,HW3.out.bel.trans HB4.out.1,HW3.out.oth.trans HB4.out.2⟩
   ·have HW4:=hid (HW3.out.oth_step HB4.out.1 HB4.out.2 HST4.out);have ho:=HO3.out.trans HB4.out.2;have HTT:=hid (wd_bi HW4.out (HTA.out.oth2 ho (by omega)) (HTB.out.oth2 ho (by omega)));clear ho;go_ret;exact⟨.inr ⟨.bi K t1 u,q+1,X,Rd.word HGM.out (by rw[if_pos HM0.out];exact .inr ⟨t1,q1,HR1.out,by show (if wdN K=1 then _ else _);rw[if_neg HK1.out,if_pos HM1.out];exact .inr ⟨u,q,HR2.out,(if_pos (show isM (gL L q) [41]=true from HM.out)).symm⟩⟩),by have:=HC2.out;show cnt t1+cnt u+1+k≤q+1;omega,rfl,HW4.out.rst,HTT.out⟩,HW4.out.bel,HW4.out.oth⟩
theorem seventh_in (p cap k:Nat) (a:Option Addr) (L:List TokE) (w:World) (h:RSt w p cap a L k (-1))
  (hL:∀ (k' n':Nat) (W:World),k<k'→1≤n'→n'≤7→RSt W p cap a L k' (-1)→Calls Tryz.prog 90 #[.pointer (some ⟨p,0,none⟩),.int .i64 n'] W (RdT L (.lvl n') k' p cap a W)) :
  Calls Tryz.prog 104 #[.pointer (some ⟨p,0,none⟩)] w (RdT L (.lvl 7) k p cap a w):=by
 by_cases hno:gL L k=.no
 ·exact seventh_no p cap k a L w h hno
 obtain⟨hk,hg⟩:=gL_tok hno;have hleaf:∀ l,clT (L.getD k default)=.leaf l→Rd (gL L) (.lvl 7) k (.ok (.lf l) (k+1)):=fun l hl=>Rd.leaf (hg.trans hl);have hno2:clT (L.getD k default)≠.no:=fun e=>hno (hg.trans e);by_cases h5:(L.getD k default).kd=5
 ·have hc:clT (L.getD k default)=.mark (L.getD k default).tx.data.toList:=by unfold clT;rw[if_pos h5]
  by_cases ht:(L.getD k default).tx.data.toList=[40]
  ·exact seventh_bracket p cap k a L w h hk h5 ht (by rw[hg,hc,ht]) hL
  ·exact seventh_mark p cap k a L w h hk h5 (beq_eq_false_iff_ne.2 ht) (hg.trans hc)
 by_cases h2:(L.getD k default).kd=2
 ·refine seventh_int p cap k a L w h hk h2 hno (hleaf _ ?_);unfold clT at hno2 ⊢;rw[if_neg h5,if_pos h2] at hno2 ⊢;by_cases hv:0≤(L.getD k default).iv
  ·rw[if_pos hv]
  ·rw[if_neg hv] at hno2;exact absurd rfl hno2
 by_cases h3:(L.getD k default).kd=3
 ·refine seventh_real p cap k a L w h hk h3 hno (hleaf _ ?_);unfold clT at hno2 ⊢;rw[if_neg h5,if_neg h2,if_pos h3] at hno2 ⊢;by_cases hv:(L.getD k default).rl<9218868437227405312
  ·rw[if_pos hv]
  ·rw[if_neg hv] at hno2;exact absurd rfl hno2
 by_cases h4:(L.getD k default).kd=4
 ·refine seventh_text p cap k a L w h hk h4 hno (hleaf _ ?_);unfold clT at hno2 ⊢;rw[if_neg h5,if_neg h2,if_neg h3,if_pos h4] at hno2 ⊢;by_cases hv:(L.getD k default).tx.size≤256
  ·rw[if_pos hv]
  ·rw[if_neg hv] at hno2;exact absurd rfl hno2
 by_cases h1:(L.getD k default).kd=1
 ·by_cases hn:nameB (L.getD k default).tx.data.toList=true
  ·have hc:clT (L.getD k default)=(if (L.getD k default).tx.data.toList=[116,114,117,101] then .leaf (.bool true) else if (L.getD k default).tx.data.toList=[102,97,108,115,101] then .leaf (.bool false)
    else if wordK (L.getD k default).tx.data.toList=0 then .leaf (.var (L.getD k default).tx) else .word (wordK (L.getD k default).tx.data.toList)):=by
    unfold clT;rw[if_neg h5,if_neg h2,if_neg h3,if_neg h4,if_pos h1,if_pos hn]
   by_cases ht:(L.getD k default).tx.data.toList=[116,114,117,101]
   ·exact seventh_true p cap k a L w h hk h1 ht hno (hleaf _ (hc.trans (if_pos ht)))
   rw[if_neg ht] at hc;by_cases hf:(L.getD k default).tx.data.toList=[102,97,108,115,101]
   ·exact seventh_false p cap k a L w h hk h1 hf hno (hleaf _ (hc.trans (if_pos hf)))
   rw[if_neg hf] at hc;by_cases hw:wordK (L.getD k default).tx.data.toList=0
   ·exact seventh_var p cap k a L w h hk h1 ht hf hw hno (hleaf _ (hc.trans (if_pos hw)))
   rw[if_neg hw] at hc;exact seventh_word p cap k _ a L w h hk h1 ht hf rfl hw (hg.trans hc) hL
  ·exfalso;unfold clT at hno2;rw[if_neg h5,if_neg h2,if_neg h3,if_neg h4,if_pos h1,if_neg hn] at hno2;exact hno2 rfl
 ·exfalso;unfold clT at hno2;rw[if_neg h5,if_neg h2,if_neg h3,if_neg h4,if_neg h1] at hno2;exact hno2 rfl
theorem rreads_all (p cap:Nat) (a:Option Addr) (L:List TokE) (hcap:L.length≤1000000000000) :
  ∀ (m k:Nat),L.length<k+m→∀ (W:World),RSt W p cap a L k (-1)→∀ n:Nat,1≤n→n≤7→Calls Tryz.prog 90 #[.pointer (some ⟨p,0,none⟩),.int .i64 n] W (RdT L (.lvl n) k p cap a W):=by
 intro m
 induction m with
 | zero =>
  intro k hk W h;have:=h.at_;omega
 | succ m ih =>
  intro k hk W h;have hL:∀ (k' n':Nat) (W:World),k<k'→1≤n'→n'≤7→RSt W p cap a L k' (-1)→Calls Tryz.prog 90 #[.pointer (some ⟨p,0,none⟩),.int .i64 n'] W (RdT L (.lvl n') k' p cap a W) :=
   fun k' n' W hkk h1 h7 hst=>ih k' (by omega) W hst n' h1 h7
  have h7:∀ W,RSt W p cap a L k (-1)→Calls Tryz.prog 90 #[.pointer (some ⟨p,0,none⟩),.int .i64 7] W (RdT L (.lvl 7) k p cap a W):=fun W hst=>rseven_in p cap k a L W (seventh_in p cap k a L W hst hL);have h6:∀ W,RSt W p cap a L k (-1)→Calls Tryz.prog 90 #[.pointer (some ⟨p,0,none⟩),.int .i64 6] W (RdT L (.lvl 6) k p cap a W):=fun W hst=>rsix_in p cap k a L W hcap hst (fun _ W' hst'=>h7 W' hst') hL;have hd:∀ (d n:Nat),n+d=6→1≤n→Calls Tryz.prog 90 #[.pointer (some ⟨p,0,none⟩),.int .i64 n] W (RdT L (.lvl n) k p cap a W):=by
   intro d
   induction d with
   | zero =>
    intro n hn h1;obtain rfl:n=6:=by omega
    exact h6 W h
   | succ d ihd =>
    intro n hn h1;exact rlevel_in p cap k n a L W h1 (by omega) h.rdr.lt hcap (ihd (n+1) (by omega) (by omega)) hL
  intro n h1 hn7;rcases Nat.lt_or_ge n 7 with hlt|hge
  ·exact hd (6-n) n (by omega) h1
  ·obtain rfl:n=7:=by omega
   exact h7 W h
theorem rlevel_any (p cap k n:Nat) (a:Option Addr) (L:List TokE) (hcap:L.length≤1000000000000) (W:World) (h:RSt W p cap a L k (-1)) (h1:1≤n) (h7:n≤7) :
  Calls Tryz.prog 90 #[.pointer (some ⟨p,0,none⟩),.int .i64 n] W (RdT L (.lvl n) k p cap a W) :=
 rreads_all p cap a L hcap (L.length+1) k (by omega) W h n h1 h7
end Go.Proofs.YtkpboalccpancaaGreatDoor
