import Derived.Test.YtenlhcgpajphhaaGreatDoorDoChord
namespace Go.Proofs.YtenlhcgpajphhaaGreatDoor
open Go.RowKit Go.Shelf
set_option maxRecDepth 100000
open Lib(hid)
set_option linter.all false
set_option maxHeartbeats 8000000
def fewP (x:ProgE):Prop:=x.tags.length≤900000∧(∀ t ∈ x.tags,t.tys.length≤900000)∧x.kinds.length≤900000∧∀ k ∈ x.kinds,k.chords.length≤900000∧∀ c ∈ k.chords,fewC c
theorem infoInt8:(Tryz.prog.info? 3).map (fun i=>(i.zero,i.size,i.bytes))=some (some (.int .i64 0),1,8):=by kernel_rfl
theorem infoChord8:(Tryz.prog.info? 44).map (fun i=>(i.zero,i.size,i.bytes))=some (some (.agg #[.string ⟨#[]⟩,.slice none 0 0,.slice none 0 0,.slice none 0 0]),4,88):=by kernel_rfl
theorem infoTag9:(Tryz.prog.info? 78).map (fun i=>(i.zero,i.size,i.bytes))=some (some (.agg #[.string ⟨#[]⟩,.slice none 0 0]),2,40):=by kernel_rfl
theorem infoKind9:(Tryz.prog.info? 69).map (fun i=>(i.zero,i.size,i.bytes))=some (some (.agg #[.string ⟨#[]⟩,.slice none 0 0]),2,40):=by kernel_rfl
theorem spoil_any (ap ab:Option Addr) (np cp nb cb:Nat) (Fp Fb:List Nat) (dp db:List Value) (x:ProgE) (w:World) (hp:ListV tagE 78 2 w Fp (.slice ap np cp) x.tags dp) (hb:ListV kindE 69 2 w Fb (.slice ab nb cb) x.kinds db)
  (hu:(Fp++Fb).Nodup) (hl:∀ b ∈ Fp++Fb,b<w.heap.size) (hf:fewP x) :
  Calls Tryz.prog 23 #[.agg #[.slice ap np cp,.slice ab nb cb]] w fun e w'=>e=.returned (.tuple #[])∧Out (Fp++Fb) w w':=by
 obtain⟨W0,hW0⟩:∃ W0,W0=w.alloc (.cells #[.slice ap np cp,.slice ab nb cb] 26):=⟨_,rfl⟩
 have hb0:Below w.heap.size w W0:=by rw[hW0];exact(Below.refl _ w).alloc (Nat.le_refl _) _
 obtain⟨ps,bd⟩:=x;simp only at hp hb;have hnp:=own_of_slice hp.row;have hnb:=own_of_slice hb.row;subst hnp hnb;have HX1:=hid (show Bx W0 w.heap.size 26 [.slice ap ps.length cp,.slice ab bd.length cb] by rw[hW0];exact Bx.new w _ _);have HOT1:=hid (Out.of_below (F:=Fp++Fb) hb0);have hdj:=List.nodup_append.1 hu;have keep0:∀ G:List Nat,(∀ b ∈ G,b ∈ Fp++Fb)→SameB G w W0:=fun G hG b hb1=>hb0.block b (hl b (hG b hb1));have HP1:=hid (hp.keep tagK (keep0 Fp (fun b hb=>List.mem_append_left _ hb)));have HA1:=hid (hb.keep kindK (keep0 Fb (fun b hb=>List.mem_append_right _ hb)));have HU:=hid (And.intro hdj hf);have HS1:=hid (show w.heap.size<W0.heap.size by rw[hW0];simp);have HFE:=hid hl;have HW0:=hid hW0;clear hb0 hp hb hu hl hf hdj keep0 hW0;go_enter Tryz.func23,Tryz.ntmps23;go_upto_region 1 with (fail);rw[← HW0.out];generalize hE:w.heap.size=E at HX1 HS1 HFE ⊢;have HE:=hid hE;clear HW0 hE;obtain⟨w1,hw1⟩:∃ w1,w1=W0:=⟨_,rfl⟩
 rw[← hw1] at HX1 HOT1 HP1 HA1 HS1 ⊢;clear hw1;obtain⟨F0,hF0,hF0s,hF0r⟩:=rest_start HP1.out HU.out.1.1;have HF0:=hid (And.intro hF0 (And.intro hF0s hF0r));have HROW0:=hid (RowC.of_own HP1.out.row);have HBX:=hid (fun W (hW:Out Fp w1 W)=>(hW.block E HS1.out (fun e=>by have:=HFE.out E (List.mem_append_left _ e);omega)).trans HX1.out);clear hF0 hF0s hF0r;obtain⟨i0,hi0,hz0,hz1,hz2⟩:=info_parts3 infoInt8;have HIS:=hid (And.intro hi0 (And.intro hz0 (And.intro hz1 hz2)));clear hi0 hz0 hz1 hz2;go_wp2
 go_loopw [2] (fun i wr=>∃ (k:Nat) (F2:List Nat),i=.int .i64 k∧k≤ps.length∧Hid (RowC 78 2 wr ap ps.length cp)∧Hid (Out Fp w1 wr)∧Hid (F2.Nodup∧∀ b ∈ F2,b ∈ Fp)∧Hid (∀ g,ap=some ⟨g,0,none⟩→Rest tagE 2 wr g k (ps.drop k) F2∧g ∉ F2∧g ∈ Fp)) (fun i _=>ps.length-(intOf i).toNat)
 case atStart=>exact⟨0,F0,rfl,Nat.zero_le _,HROW0,hid (Out.refl _ _),hid ⟨HF0.out.1,HF0.out.2.1⟩,hid HF0.out.2.2⟩
 case round =>
 obtain⟨k,F2,rfl,hk,HROW,HOO,HF2,HREST⟩:=hrel;clear HROW0 HF0;have hpl:ps.length≤900000:=HU.out.2.1;have b1:wr.cell? ⟨E,0,none⟩=some (.slice ap ps.length cp):=(show Bx wr E 26 _ from HBX.out wr HOO.out).c 0 rfl;rcases Nat.lt_or_ge k ps.length with hlt|hge
 ·obtain⟨g,rfl⟩:=HROW.out.some hlt;obtain⟨hR,hgn,hgF⟩:=HREST.out g rfl;rw[List.drop_eq_getElem_cons hlt] at hR;obtain⟨F1,F3,c1,hF,hx,hcl,hR3⟩:=hR.head tagK;obtain⟨v,d,hc1,hvs⟩:=hx;subst hc1 hF;obtain⟨av,cv,rfl⟩:=own_slice hvs.row;have hcv:=hcl 1 _ rfl;obtain⟨F',hF1,_⟩:=hvs.els;have HVF:=hid (show ∀ b,av=some ⟨b,0,none⟩→b ∈ F1 from fun b hb=>by rw[hF1];exact List.mem_append_left _ (own_mem8 hb));have HV:=hid (RowC.of_own hvs.row);have hfew:(ps[k]).tys.length≤900000:=HU.out.2.2.1 _ (List.getElem_mem hlt);have HR3:=hid hR3;have hgl:=HROW.out.lt g rfl;have hnd:=List.nodup_append.1 HF2.out.1;have HND:=hid (And.intro hgn (And.intro hgF hnd));generalize (ps[k]).tys.length=m at hcv HV hfew;clear hcl hF1 hvs hR hR3 hgn hgF hnd;have e2:(0:Int)≤(k:Int):=by omega
  have e3:(k:Int)<(ps.length:Int):=by omega
  have e4:decide ((k:Int)<(ps.length:Int))=true:=decide_eq_true e3;obtain⟨V,hV⟩:∃ V,V=wr:=⟨_,rfl⟩
  rw[← hV] at HROW HOO b1 hcv HV HR3 hgl ⊢;clear HREST hV;go_upto_region 4 with (fail);go_wp2
  go_loopw [3] (fun i wj=>∃ j:Nat,i=.int .i64 j∧j≤m∧Hid (RowC 3 1 wj av m cv)∧Hid (Out F1 V wj)) (fun i _=>m-(intOf i).toNat)
  case atStart=>exact⟨0,rfl,Nat.zero_le _,HV,hid (Out.refl _ _)⟩
  case round =>
  obtain⟨j,rfl,hj,HVJ,HOJ⟩:=hrel;have hgs:wr.heap[g]?=V.heap[g]?:=HOJ.out.block g hgl (fun e=>HND.out.1 (List.mem_append_left _ e));have HOF:=hid (HOO.out.then HOJ.out (fun b hb=>.inl (HF2.out.2 b (List.mem_append_left _ hb))));have b2:wr.cell? ⟨E,0,none⟩=some (.slice (some ⟨g,0,none⟩) ps.length cp):=(show Bx wr E 26 _ from HBX.out wr HOF.out).c 0 rfl;have hcv2:=(World.cell?_of_block (a:=⟨g,k * 2+1,none⟩) hgs).trans hcv;clear b1 HV;rcases Nat.lt_or_ge j m with hltj|hgej
  ·obtain⟨gv,rfl⟩:=HVJ.out.some hltj;obtain⟨u,q⟩:=HVJ.out.cell hltj 0 (by decide);rw[Nat.mul_one,Nat.add_zero] at q;have f:=HVJ.out.fz j;have e5:(0:Int)≤(j:Int):=by omega
   have e6:(j:Int)<(m:Int):=by omega
   have e7:decide ((j:Int)<(m:Int))=true:=decide_eq_true e6;have e8:IntKind.i64.wrap (70+(k:Int))=70+(k:Int):=by rw[IntKind.wrap_i64];omega
   have e9:IntKind.i64.wrap (70+(k:Int)+(j:Int))=70+(k:Int)+(j:Int):=by rw[IntKind.wrap_i64];omega
   go_upto_region 6 with (fail);generalize hW2:World.setCell _ _ _=W2;have HV2:=hid (show RowC 3 1 W2 (some ⟨gv,0,none⟩) m cv by rw[← hW2];exact HVJ.out.set _ _);have hgF:=HVF.out gv rfl;have HO2:=hid (show Out F1 V W2 by rw[← hW2];exact HOJ.out.setCell (.inl hgF) _ _);clear hW2 q f b2 hcv2 hgF HVJ HOJ HOF hgs;go_wp2;go_roundw
   case rel=>exact⟨j+1,by go_num,by omega,HV2,HO2⟩
   case measure=>simp[intOf];omega
  ·obtain rfl:j=m:=by omega
   have d1:decide ((j:Int)<(j:Int))=false:=decide_eq_false (by omega);go_upto_region 8 with (fail);have HOJD:=hid HOJ.out.drew;have HVD:=hid (show RowC 3 1 wr.drew av j cv from HVJ.out);have hal:Below wr.heap.size wr (wr.alloc (.cells #[.int .i64 88,.int .i64 89] 3)):=(Below.refl wr.heap.size wr).alloc (Nat.le_refl _) _;have hgw:g<wr.heap.size:=Nat.lt_of_lt_of_le hgl HOJ.out.size;have b3:=(World.cell?_of_block (a:=⟨E,0,none⟩) (hal.block E (Nat.lt_of_lt_of_le HS1.out HOF.out.size))).trans b2;have hcv3:=(World.cell?_of_block (a:=⟨g,k * 2+1,none⟩) (hal.block g hgw)).trans hcv2;have HGS:=hid hgs;have HGL:=hid hgl;have HGW:=hid hgw;have HAVG:=hid (show av≠some ⟨g,0,none⟩ from fun e=>HND.out.1 (List.mem_append_left _ (HVF.out g e)));have HAVE:=hid (show av≠some ⟨E,0,none⟩ from fun e=>by have:=HFE.out E (List.mem_append_left _ (HF2.out.2 E (List.mem_append_left _ (HVF.out E e))));omega);have HEW:=hid (Nat.lt_of_lt_of_le HS1.out HOF.out.size);clear hal hgs hgl hgw HVJ HOJ HOF
   go_region_law (first
    | (refine step_append_rowC (w0:=wr.drew) rfl (.tmp 47) (.tmp 48) 53 rfl i0 (.int .i64 0) 8 Tryz.underlying53 HIS.out.1 HIS.out.2 rfl (by decide) av j cv rfl HVD.out 2 2 [.int .i64 88,.int .i64 89] _ _ rfl rfl rfl (by decide) (by simp[Value.oneCell']) (by omega) (by decide) F1 V HOJD.out (fun b hb=>.inl (HVF.out b hb)) ?_;intro g' c' w5 hO5 hs5 hk5;have hg5:w5.heap[g]?=V.heap[g]?:=(hk5 g HGW.out HAVG.out).trans HGS.out;have b5:=(World.cell?_of_block (a:=⟨E,0,none⟩) (hk5 E HEW.out HAVE.out)).trans b2;have HG5:=hid hg5;have HO5:=hid hO5;have d5:=(World.cell?_of_block (a:=⟨g,k * 2+1,none⟩) hg5).trans hcv;have f5:=(HROW.out.keep (w':=w5) (fun b hb=>by cases hb;exact hg5)).fz (k * 2+1);clear hO5 hs5 hk5 hg5))
   all_goals
    generalize hW6:World.setCell _ _ _=W6;have HR6:=hid (show RowC 78 2 W6 (some ⟨g,0,none⟩) ps.length cp by rw[← hW6];exact(HROW.out.keep (w':=w5) (fun b hb=>by cases hb;exact HG5.out)).set _ _);have HO6:=hid (show Out Fp w1 W6 by rw[← hW6];exact(HOO.out.then HO5.out (fun b hb=>.inl (HF2.out.2 b (List.mem_append_left _ hb)))).setCell (.inl HND.out.2.1) _ _);have HR7:=hid (show Rest tagE 2 W6 g (k+1) (ps.drop (k+1)) F3 by
     rw[← hW6];refine HR3.out.keep tagK (fun b hb=>?_) (fun i hi=>?_)
     ·refine(heap_setCell_other w5 _ b _ ?_).trans (HO5.out.block b ?_ (fun e=>HND.out.2.2.2.2 b e b hb rfl))
      ·rintro rfl;exact HND.out.1 (List.mem_append_right _ hb)
      ·have:=HFE.out b (List.mem_append_left _ (HF2.out.2 b (List.mem_append_right _ hb)));have:=HS1.out;have:=HOO.out.size;omega
     ·have hne:(⟨g,k * 2+1,none⟩:Addr)≠⟨g,i,none⟩:=fun e=>by
       simp at e <;> omega
      exact(World.cell?_setCell_other _ _ _ _ hne).trans (World.cell?_of_block (a:=⟨g,i,none⟩) HG5.out))
    clear hW6 d5 f5 b5 b2 b3 hcv2 hcv3 hcv;go_wp2;go_roundw
    case rel=>exact⟨k+1,F3,by go_num,hlt,HR6,HO6,hid ⟨HND.out.2.2.2.1,fun b hb=>HF2.out.2 b (List.mem_append_right _ hb)⟩,hid (fun g' hg=>by cases hg;exact⟨HR7.out,fun e=>HND.out.1 (List.mem_append_right _ e),HND.out.2.1⟩)⟩
    case measure=>simp[intOf];omega
 ·obtain rfl:k=ps.length:=by omega
  clear hge hk;obtain⟨w2,hw2⟩:∃ w2,w2=wr:=⟨_,rfl⟩
  rw[← hw2] at HROW HOO b1 ⊢;clear HREST hw2 HF2;have HOT2:=hid (HOT1.out.then HOO.out (fun b hb=>.inl (List.mem_append_left _ hb)));have HS2:=hid (Nat.lt_of_lt_of_le HS1.out HOO.out.size);have hX2:Bx w2 E 26 [.slice ap ps.length cp,.slice ab bd.length cb]:=HBX.out w2 HOO.out;have HA2:=hid (HA1.out.keep kindK (HOO.out.same (fun b hb=>⟨Nat.lt_trans (HFE.out b (List.mem_append_right _ hb)) HS1.out,fun e=>HU.out.1.2.2 b e b hb rfl⟩)));have HBY:=hid (fun W (hW:Out Fb w2 W)=>(hW.block E HS2.out (fun e=>by have:=HFE.out E (List.mem_append_right _ e);omega)).trans hX2);have HPF:=hid (show ∀ b,ap=some ⟨b,0,none⟩→b ∈ Fp from fun b hb=>by
   obtain⟨F',hF1,_⟩:=HP1.out.els;rw[hF1];exact List.mem_append_left _ (own_mem8 hb))
  obtain⟨F0,hF0,hF0s,hF0r⟩:=rest_start HA2.out HU.out.1.2.1;have HF0:=hid (And.intro hF0 (And.intro hF0s hF0r));have HROWA:=hid (RowC.of_own HA2.out.row);obtain⟨j0,hj0,hk0,hk1,hk2⟩:=info_parts3 infoChord8;have HJS:=hid (And.intro hj0 (And.intro hk0 (And.intro hk1 hk2)));clear hj0 hk0 hk1 hk2 hF0 hF0s hF0r hX2 HBX HX1 HA1 b1;have d1:decide ((ps.length:Int)<(ps.length:Int))=false:=decide_eq_false (by omega);have b1:w2.cell? ⟨E,0,none⟩=some (.slice ap ps.length cp):=(show Bx w2 E 26 _ from HBY.out w2 (Out.refl _ _)).c 0 rfl;go_wp2;clear b1 d1
  go_loopw [4] (fun i wr=>∃ (k:Nat) (F2:List Nat),i=.int .i64 k∧k≤bd.length∧Hid (RowC 69 2 wr ab bd.length cb)∧Hid (Out Fb w2 wr)∧Hid (F2.Nodup∧∀ b ∈ F2,b ∈ Fb)∧Hid (∀ g,ab=some ⟨g,0,none⟩→Rest kindE 2 wr g k (bd.drop k) F2∧g ∉ F2∧g ∈ Fb)) (fun i _=>bd.length-(intOf i).toNat)
  case atStart=>exact⟨0,F0,rfl,Nat.zero_le _,HROWA,hid (Out.refl _ _),hid ⟨HF0.out.1,HF0.out.2.1⟩,hid HF0.out.2.2⟩
  case round =>
  obtain⟨k,F2,rfl,hk,HROWB,HOB,HF2,HREST⟩:=hrel;clear HROWA HF0;have b3:wr.cell? ⟨E,1,none⟩=some (.slice ab bd.length cb):=(show Bx wr E 26 _ from HBY.out wr HOB.out).c 1 rfl;have hbl:bd.length≤900000:=HU.out.2.2.2.1;rcases Nat.lt_or_ge k bd.length with hlt|hge
  ·obtain⟨g,rfl⟩:=HROWB.out.some hlt;obtain⟨hR,hgn,hgF⟩:=HREST.out g rfl;rw[List.drop_eq_getElem_cons hlt] at hR;obtain⟨F1,F3,c1,hF,hx,hcl,hR3⟩:=hR.head kindK;obtain⟨v,d,hc1,hvs⟩:=hx;subst hc1 hF;obtain⟨av,cv,rfl⟩:=own_slice hvs.row;have hcv:=hcl 1 _ rfl;have hfa:=HU.out.2.2.2.2 _ (List.getElem_mem hlt);have HR3:=hid hR3;have hgl:=HROWB.out.lt g rfl;have HVS:=hid hvs;have hnd:=List.nodup_append.1 HF2.out.1;have HND:=hid (And.intro hgn (And.intro hgF hnd));have HFA:=hid hfa;obtain⟨chs,has⟩:∃ chs,chs=bd[k].chords:=⟨_,rfl⟩
   rw[← has] at HVS HFA hcv;clear hcl hvs hR hR3 hgn hgF hnd hfa has HREST;have e2:(0:Int)≤(k:Int):=by omega
   have e3:(k:Int)<(bd.length:Int):=by omega
   have e4:decide ((k:Int)<(bd.length:Int))=true:=decide_eq_true e3;obtain⟨V,hV⟩:∃ V,V=wr:=⟨_,rfl⟩
   rw[← hV] at HROWB HOB b3 hcv HVS HR3 hgl ⊢;clear hV;have HVL:=hid (show ∀ b ∈ F1++F3,b<V.heap.size from fun b hb=>by
    have:=HFE.out b (List.mem_append_right _ (HF2.out.2 b hb));have:=HS2.out;have:=HOB.out.size;omega)
   obtain⟨F5,hF5,hF5s,hF5r⟩:=rest_start HVS.out HND.out.2.2.1;have HF5:=hid (And.intro hF5 (And.intro hF5s hF5r));have hml:=HFA.out.1;obtain⟨m,hm⟩:∃ m,m=chs.length:=⟨_,rfl⟩
   rw[← hm] at hcv hml;have HVR:=hid (show RowC 44 4 V av m cv by
    have:=RowC.of_own HVS.out.row;rw[← hm] at this;exact this)
   have HVF:=hid (show ∀ b,av=some ⟨b,0,none⟩→b ∈ F1 from fun b hb=>by
    obtain⟨F',hF1,_⟩:=HVS.out.els;rw[hF1];exact List.mem_append_left _ (own_mem8 hb))
   have HM:=hid hm;have HGL:=hid hgl;clear hF5 hF5s hF5r hm hgl;go_upto_region 12 with (fail);go_wp2
   go_loopw [5] (fun i wj=>∃ (j:Nat) (F6:List Nat),i=.int .i64 j∧j≤m∧Hid (RowC 44 4 wj av m cv)∧Hid (Out F1 V wj)∧Hid (F6.Nodup∧∀ b ∈ F6,b ∈ F1)∧Hid (∀ ga,av=some ⟨ga,0,none⟩→Rest chordE 4 wj ga j (chs.drop j) F6∧ga ∉ F6∧ga ∈ F1)) (fun i _=>m-(intOf i).toNat)
   case atStart=>exact⟨0,F5,rfl,Nat.zero_le _,HVR,hid (Out.refl _ _),hid ⟨HF5.out.1,HF5.out.2.1⟩,hid HF5.out.2.2⟩
   case round =>
   obtain⟨j,F6,rfl,hj,HVJ,HOJ,HF6,HRESTJ⟩:=hrel;have hgs:wr.heap[g]?=V.heap[g]?:=HOJ.out.block g HGL.out (fun e=>HND.out.1 (List.mem_append_left _ e));have HOF:=hid (HOB.out.then HOJ.out (fun b hb=>.inl (HF2.out.2 b (List.mem_append_left _ hb))));have b5:wr.cell? ⟨E,1,none⟩=some (.slice (some ⟨g,0,none⟩) bd.length cb):=(show Bx wr E 26 _ from HBY.out wr HOF.out).c 1 rfl;have hcv5:=(World.cell?_of_block (a:=⟨g,k * 2+1,none⟩) hgs).trans hcv;clear b3 HVR HF5;rcases Nat.lt_or_ge j m with hltj|hgej
   ·obtain⟨ga,rfl⟩:=HVJ.out.some hltj;obtain⟨hR,hgn,hgF⟩:=HRESTJ.out ga rfl;have hlt2:j<chs.length:=by rw[← HM.out];exact hltj
    rw[List.drop_eq_getElem_cons hlt2] at hR;obtain⟨F7,F8,c1,hF,hx,hcl,hR3⟩:=hR.head chordK;obtain⟨pv,gv,bv,dq,db2,G1,G2,G3,hc1,hF7,hpp,hgg,hbb⟩:=hx;obtain⟨apv,cpv,rfl⟩:=own_slice hpp.row;obtain⟨abv,cbv,rfl⟩:=own_slice hbb.row;obtain⟨gv2,hg2,hg3,hgr⟩:=id hgg;cases hg2;obtain⟨agv,cgv,rfl⟩:=own_slice hgr;subst hc1 hF;have q0:=hcl 0 _ rfl;have q1:=hcl 1 _ rfl;have q2:=hcl 2 _ rfl;have q3:=hcl 3 _ rfl;rw[Nat.add_zero] at q0;have hndj:=List.nodup_append.1 HF6.out.1;have hbU:∀ b ∈ F7++F8,b<wr.heap.size:=fun b hb=>Nat.lt_of_lt_of_le (HVL.out b (List.mem_append_left _ (HF6.out.2 b hb))) HOJ.out.size;have HBU:=hid hbU;have HQN:=hid (spoilChord_any chs[j].nm _ _ _ _ _ _ _ _ _ G1 G2 G3 dq db2 chs[j] wr hpp hgg hbb (by rw[← hF7];exact hndj.1) (fun b hb=>hbU b (List.mem_append_left _ (by rw[hF7];exact hb))) (HFA.out.2 _ (List.getElem_mem hlt2)));rw[← hF7] at HQN;have HR4:=hid hR3;have HNDJ:=hid (And.intro hgn (And.intro hgF hndj));generalize chs[j].parts.length=mp at q1 HQN;generalize chs[j].body.length=mb at q3 HQN;generalize (exN chs[j].guard).length=mg at q2 HQN;generalize chs[j].nm=cnm at q0 HQN;clear hcl hR hR3 hgn hgF hndj hgr hgg hpp hbb hg3 HRESTJ hF7 hbU;have e5:(0:Int)≤(j:Int):=by omega
    have e6:(j:Int)<(m:Int):=by omega
    have e7:decide ((j:Int)<(m:Int))=true:=decide_eq_true e6;obtain⟨U,hU⟩:∃ U,U=wr:=⟨_,rfl⟩
    rw[← hU] at HVJ HOJ HR4 HQN HOF hgs b5 hcv5 q0 q1 q2 q3 HBU ⊢;clear hU;go_upto_region 14 with (go_at_call 24;(with_reducible refine HQN.out.mono ?_);rintro e w6 ⟨rfl,ho⟩;have HO6:=hid ho;clear ho);have hga:=HVJ.out.lt ga rfl;have hgo:=HO6.out.block ga hga (fun e=>HNDJ.out.1 (List.mem_append_left _ e));have HR8:=hid (HVJ.out.keep (w':=w6) (fun b hb=>by cases hb;exact hgo));have HO8:=hid (HOJ.out.then HO6.out (fun b hb=>.inl (HF6.out.2 b (List.mem_append_left _ hb))));have HR9:=hid (show Rest chordE 4 w6 ga (j+1) (chs.drop (j+1)) F8 from
     HR4.out.keep chordK (fun b hb=>HO6.out.block b (HBU.out b (List.mem_append_right _ hb)) (fun e=>HNDJ.out.2.2.2.2 b e b hb rfl)) (fun i _=>World.cell?_of_block (a:=⟨ga,i,none⟩) hgo))
    clear hga hgo q0 q1 q2 q3 b5 hcv5 hgs HVJ HOJ HOF;go_wp2;go_roundw
    case rel=>exact⟨j+1,F8,by go_num,hltj,HR8,HO8,hid ⟨HNDJ.out.2.2.2.1,fun b hb=>HF6.out.2 b (List.mem_append_right _ hb)⟩,hid (fun g' hg=>by cases hg;exact⟨HR9.out,fun e=>HNDJ.out.1 (List.mem_append_right _ e),HNDJ.out.2.1⟩)⟩
    case measure=>simp[intOf];omega
   ·obtain rfl:j=m:=by omega
    clear HRESTJ HF6 HOF hgej hj;have d1:decide ((j:Int)<(j:Int))=false:=decide_eq_false (by omega);go_wp2;clear b5 hcv5 hgs d1
    go_loopw [6] (fun i wj=>∃ i2:Nat,i=.int .i64 i2∧i2≤j∧Hid (RowC 44 4 wj av j cv)∧Hid (Out F1 V wj)) (fun i _=>j-(intOf i).toNat)
    case atStart=>exact⟨0,rfl,Nat.zero_le _,HVJ,HOJ⟩
    case round =>
    obtain⟨i2,rfl,hi2,HVK,HOK⟩:=hrel;clear HVJ HOJ;have hgs:wr.heap[g]?=V.heap[g]?:=HOK.out.block g HGL.out (fun e=>HND.out.1 (List.mem_append_left _ e));have HOF:=hid (HOB.out.then HOK.out (fun b hb=>.inl (HF2.out.2 b (List.mem_append_left _ hb))));have b5:wr.cell? ⟨E,1,none⟩=some (.slice (some ⟨g,0,none⟩) bd.length cb):=(show Bx wr E 26 _ from HBY.out wr HOF.out).c 1 rfl;have hcv5:=(World.cell?_of_block (a:=⟨g,k * 2+1,none⟩) hgs).trans hcv;rcases Nat.lt_or_ge i2 j with hltj|hgej
    ·obtain⟨ga,rfl⟩:=HVK.out.some hltj;obtain⟨u0,q0⟩:=HVK.out.cell hltj 0 (by decide);obtain⟨u1,q1⟩:=HVK.out.cell hltj 1 (by decide);obtain⟨u2,q2⟩:=HVK.out.cell hltj 2 (by decide);obtain⟨u3,q3⟩:=HVK.out.cell hltj 3 (by decide);have f0:=HVK.out.fz (i2 * 4+0);have f1:=HVK.out.fz (i2 * 4+1);have f2:=HVK.out.fz (i2 * 4+2);have f3:=HVK.out.fz (i2 * 4+3);rw[Nat.add_zero] at q0 f0;have e5:(0:Int)≤(i2:Int):=by omega
     have e6:(i2:Int)<(j:Int):=by omega
     have e7:decide ((i2:Int)<(j:Int))=true:=decide_eq_true e6;go_upto_region 18 with (fail);generalize hW2:World.setCell _ _ _=W2;have hgF:=HVF.out ga rfl;have HV2:=hid (show RowC 44 4 W2 (some ⟨ga,0,none⟩) j cv by rw[← hW2];(repeat refine RowC.set ?_ _ _);exact HVK.out);have HO2:=hid (show Out F1 V W2 by rw[← hW2];(repeat refine Out.setCell ?_ (.inl hgF) _ _);exact HOK.out);clear hW2 q0 q1 q2 q3 f0 f1 f2 f3 b5 hcv5 hgF HVK HOK HOF hgs;go_wp2;go_roundw
     case rel=>exact⟨i2+1,by go_num,by omega,HV2,HO2⟩
     case measure=>simp[intOf];omega
    ·obtain rfl:i2=j:=by omega
     have d1:decide ((i2:Int)<(i2:Int))=false:=decide_eq_false (by omega);go_upto_region 20 with (fail);have HOJD:=hid HOK.out.drew;have HVD:=hid (show RowC 44 4 wr.drew av i2 cv from HVK.out);have hal:Below wr.heap.size wr (wr.alloc (.cells #[.string ⟨#[109,111,114,101]⟩,.slice none 0 0,.slice none 0 0,.slice none 0 0,.string ⟨#[109,111,114,101]⟩,.slice none 0 0,.slice none 0 0,.slice none 0 0] 44)):=(Below.refl wr.heap.size wr).alloc (Nat.le_refl _) _;have hgw:g<wr.heap.size:=Nat.lt_of_lt_of_le HGL.out HOK.out.size;have b6:=(World.cell?_of_block (a:=⟨E,1,none⟩) (hal.block E (Nat.lt_of_lt_of_le HS2.out HOF.out.size))).trans b5;have hcv6:=(World.cell?_of_block (a:=⟨g,k * 2+1,none⟩) (hal.block g hgw)).trans hcv5;have HGS:=hid hgs;have HGW:=hid hgw;have HAVG:=hid (show av≠some ⟨g,0,none⟩ from fun e=>HND.out.1 (List.mem_append_left _ (HVF.out g e)));have HAVE:=hid (show av≠some ⟨E,0,none⟩ from fun e=>by have:=HFE.out E (List.mem_append_right _ (HF2.out.2 E (List.mem_append_left _ (HVF.out E e))));omega);have HEW:=hid (Nat.lt_of_lt_of_le HS2.out HOF.out.size);clear hal hgs hgw HVK HOK HOF
     go_region_law (first
      | (refine step_append_rowC (w0:=wr.drew) rfl (.tmp 108) (.tmp 111) 67 rfl j0 _ 88 Tryz.underlying67 HJS.out.1 HJS.out.2 rfl (by decide) av i2 cv rfl HVD.out 2 2 [.string ⟨#[109,111,114,101]⟩,.slice none 0 0,.slice none 0 0,.slice none 0 0,.string ⟨#[109,111,114,101]⟩,.slice none 0 0,.slice none 0 0,.slice none 0 0] _ _ rfl rfl rfl (by decide) (by simp[Value.oneCell']) (by omega) (by decide) F1 V HOJD.out (fun b hb=>.inl (HVF.out b hb)) ?_;intro g' c' w5 hO5 hs5 hk5;have hg5:w5.heap[g]?=V.heap[g]?:=(hk5 g HGW.out HAVG.out).trans HGS.out;have b7:=(World.cell?_of_block (a:=⟨E,1,none⟩) (hk5 E HEW.out HAVE.out)).trans b5;have HG5:=hid hg5;have HO5:=hid hO5;have d5:=(World.cell?_of_block (a:=⟨g,k * 2+1,none⟩) hg5).trans hcv;have f5:=(HROWB.out.keep (w':=w5) (fun b hb=>by cases hb;exact hg5)).fz (k * 2+1);clear hO5 hs5 hk5 hg5))
     all_goals
      generalize hW6:World.setCell _ _ _=W6;have HR6:=hid (show RowC 69 2 W6 (some ⟨g,0,none⟩) bd.length cb by rw[← hW6];exact(HROWB.out.keep (w':=w5) (fun b hb=>by cases hb;exact HG5.out)).set _ _);have HO6:=hid (show Out Fb w2 W6 by rw[← hW6];exact(HOB.out.then HO5.out (fun b hb=>.inl (HF2.out.2 b (List.mem_append_left _ hb)))).setCell (.inl HND.out.2.1) _ _);have HR7:=hid (show Rest kindE 2 W6 g (k+1) (bd.drop (k+1)) F3 by
       rw[← hW6];refine HR3.out.keep kindK (fun b hb=>?_) (fun i hi=>?_)
       ·have hbV:=HVL.out b (List.mem_append_right _ hb);refine(heap_setCell_other w5 _ b _ ?_).trans (HO5.out.block b hbV (fun e=>HND.out.2.2.2.2 b e b hb rfl));rintro rfl;exact HND.out.1 (List.mem_append_right _ hb)
       ·have hne:(⟨g,k * 2+1,none⟩:Addr)≠⟨g,i,none⟩:=fun e=>by
         simp at e <;> omega
        exact(World.cell?_setCell_other _ _ _ _ hne).trans (World.cell?_of_block (a:=⟨g,i,none⟩) HG5.out))
      clear hW6 d5 f5 b5 b6 b7 hcv5 hcv6 hcv;go_wp2;go_roundw
      case rel=>exact⟨k+1,F3,by go_num,hlt,HR6,HO6,hid ⟨HND.out.2.2.2.1,fun b hb=>HF2.out.2 b (List.mem_append_right _ hb)⟩,hid (fun g' hg=>by cases hg;exact⟨HR7.out,fun e=>HND.out.1 (List.mem_append_right _ e),HND.out.2.1⟩)⟩
      case measure=>simp[intOf];omega
  ·obtain rfl:k=bd.length:=by omega
   clear hge hk;obtain⟨w3,hw3⟩:∃ w3,w3=wr:=⟨_,rfl⟩
   rw[← hw3] at HROWB HOB b3 ⊢;clear HREST hw3 HF2;have HOT3:=hid (HOT2.out.then HOB.out (fun b hb=>.inl (List.mem_append_right _ hb)));have HS3:=hid (Nat.lt_of_lt_of_le HS2.out HOB.out.size);have hX3:Bx w3 E 26 [.slice ap ps.length cp,.slice ab bd.length cb]:=HBY.out w3 HOB.out;have HBZ:=hid (fun W (hW:Out (Fp++Fb) w3 W)=>(hW.block E HS3.out (fun e=>by have:=HFE.out E e;omega)).trans hX3);have HRP:=hid (HROW.out.keep (w':=w3) (fun g hg=>HOB.out.block g (HROW.out.lt g hg) (fun e=>HU.out.1.2.2 g (HPF.out g hg) g e rfl)));have HAF:=hid (show ∀ b,ab=some ⟨b,0,none⟩→b ∈ Fb from fun b hb=>by
    obtain⟨F',hF1,_⟩:=HA2.out.els;rw[hF1];exact List.mem_append_left _ (own_mem8 hb))
   have hpl2:ps.length≤900000:=HU.out.2.1;clear HBY HA2 HOB HROW hX3;have d1:decide ((bd.length:Int)<(bd.length:Int))=false:=decide_eq_false (by omega);go_wp2;clear b3 d1
   go_loopw [7] (fun i wr=>∃ k:Nat,i=.int .i64 k∧k≤ps.length∧Hid (RowC 78 2 wr ap ps.length cp)∧Hid (RowC 69 2 wr ab bd.length cb)∧Hid (Out (Fp++Fb) w3 wr)) (fun i _=>ps.length-(intOf i).toNat)
   case atStart=>exact⟨0,rfl,Nat.zero_le _,HRP,HROWB,hid (Out.refl _ _)⟩
   case round =>
   obtain⟨k,rfl,hk,HR1,HR2,HOZ⟩:=hrel;clear HRP HROWB;have b1:wr.cell? ⟨E,0,none⟩=some (.slice ap ps.length cp):=(show Bx wr E 26 _ from HBZ.out wr HOZ.out).c 0 rfl;rcases Nat.lt_or_ge k ps.length with hlt|hge
   ·obtain⟨g,rfl⟩:=HR1.out.some hlt;obtain⟨u0,q0⟩:=HR1.out.cell hlt 0 (by decide);obtain⟨u1,q1⟩:=HR1.out.cell hlt 1 (by decide);have f0:=HR1.out.fz (k * 2+0);have f1:=HR1.out.fz (k * 2+1);rw[Nat.add_zero] at q0 f0;have e2:(0:Int)≤(k:Int):=by omega
    have e3:(k:Int)<(ps.length:Int):=by omega
    have e4:decide ((k:Int)<(ps.length:Int))=true:=decide_eq_true e3;go_upto_region 23 with (fail);generalize hW2:World.setCell _ _ _=W2;have hgF:=HPF.out g rfl;have HR3:=hid (show RowC 78 2 W2 (some ⟨g,0,none⟩) ps.length cp by rw[← hW2];(repeat refine RowC.set ?_ _ _);exact HR1.out);have HR4:=hid (show RowC 69 2 W2 ab bd.length cb by
     rw[← hW2];refine HR2.out.keep (fun b hb=>?_);have hne:b≠g:=fun e=>HU.out.1.2.2 g hgF g (by rw[← e];exact HAF.out b hb) rfl;exact(heap_setCell_other _ ⟨g,_,none⟩ b _ hne).trans (heap_setCell_other _ ⟨g,_,none⟩ b _ hne))
    have HO2:=hid (show Out (Fp++Fb) w3 W2 by rw[← hW2];(repeat refine Out.setCell ?_ (.inl (List.mem_append_left _ hgF)) _ _);exact HOZ.out);clear hW2 q0 q1 f0 f1 b1 hgF;go_wp2;go_roundw
    case rel=>exact⟨k+1,by go_num,by omega,HR3,HR4,HO2⟩
    case measure=>simp[intOf];omega
   ·obtain rfl:k=ps.length:=by omega
    clear hge hk;obtain⟨w5,hw5⟩:∃ w5,w5=wr:=⟨_,rfl⟩
    rw[← hw5] at HR1 HR2 HOZ b1 ⊢;clear hw5;have d1:decide ((ps.length:Int)<(ps.length:Int))=false:=decide_eq_false (by omega);go_wp2;clear b1 d1
    go_loopw [8] (fun i wr=>∃ k:Nat,i=.int .i64 k∧k≤bd.length∧Hid (RowC 78 2 wr ap ps.length cp)∧Hid (RowC 69 2 wr ab bd.length cb)∧Hid (Out (Fp++Fb) w3 wr)) (fun i _=>bd.length-(intOf i).toNat)
    case atStart=>exact⟨0,rfl,Nat.zero_le _,HR1,HR2,HOZ⟩
    case round =>
    obtain⟨k,rfl,hk,HR3,HR4,HOY⟩:=hrel;clear HR1 HR2 HOZ;have b3:wr.cell? ⟨E,1,none⟩=some (.slice ab bd.length cb):=(show Bx wr E 26 _ from HBZ.out wr HOY.out).c 1 rfl;rcases Nat.lt_or_ge k bd.length with hlt|hge
    ·obtain⟨g,rfl⟩:=HR4.out.some hlt;obtain⟨u0,q0⟩:=HR4.out.cell hlt 0 (by decide);obtain⟨u1,q1⟩:=HR4.out.cell hlt 1 (by decide);have f0:=HR4.out.fz (k * 2+0);have f1:=HR4.out.fz (k * 2+1);rw[Nat.add_zero] at q0 f0;have e2:(0:Int)≤(k:Int):=by omega
     have e3:(k:Int)<(bd.length:Int):=by omega
     have e4:decide ((k:Int)<(bd.length:Int))=true:=decide_eq_true e3;go_upto_region 27 with (fail);generalize hW2:World.setCell _ _ _=W2;have hgF:=HAF.out g rfl;have HR5:=hid (show RowC 69 2 W2 (some ⟨g,0,none⟩) bd.length cb by rw[← hW2];(repeat refine RowC.set ?_ _ _);exact HR4.out);have HR6:=hid (show RowC 78 2 W2 ap ps.length cp by
      rw[← hW2];refine HR3.out.keep (fun b hb=>?_);have hne:b≠g:=fun e=>HU.out.1.2.2 b (HPF.out b hb) b (by rw[e];exact hgF) rfl;exact(heap_setCell_other _ ⟨g,_,none⟩ b _ hne).trans (heap_setCell_other _ ⟨g,_,none⟩ b _ hne))
     have HO2:=hid (show Out (Fp++Fb) w3 W2 by rw[← hW2];(repeat refine Out.setCell ?_ (.inl (List.mem_append_right _ hgF)) _ _);exact HOY.out);clear hW2 q0 q1 f0 f1 b3 hgF;go_wp2;go_roundw
     case rel=>exact⟨k+1,by go_num,by omega,HR6,HR5,HO2⟩
     case measure=>simp[intOf];omega
    ·obtain rfl:k=bd.length:=by omega
     clear hge hk;have d1:decide ((bd.length:Int)<(bd.length:Int))=false:=decide_eq_false (by omega);go_upto_region 29 with (fail);obtain⟨p0,hp0,hpz,hp1,hp2⟩:=info_parts3 infoTag9;have HPI:=hid (And.intro hp0 (And.intro hpz (And.intro hp1 hp2)));clear hp0 hpz hp1 hp2 d1 b3;obtain⟨q0,hp0,hpz,hp1,hp2⟩:=info_parts3 infoKind9;have HAI:=hid (And.intro hp0 (And.intro hpz (And.intro hp1 hp2)));clear hp0 hpz hp1 hp2;have HBE:=hid (show Bx wr E 26 _ from HBZ.out wr HOY.out);have b1:=HBE.out.c 0 rfl;go_upto_region 30 with (at_builtin;refine wpList_append_rowC rfl (.tmp 140) (.tmp 143) _ rfl p0 _ 40 Tryz.underlying23 HPI.out.1 HPI.out.2 rfl (by decide) ap ps.length cp rfl HR3.out 2 2 [.string ⟨#[109,111,114,101]⟩,.slice none 0 0,.string ⟨#[109,111,114,101]⟩,.slice none 0 0] _ _ rfl rfl rfl (by simp[Value.oneCell']) (by omega) (by decide) (Fp++Fb) w3 HOY.out (fun g hg=>.inl (List.mem_append_left _ (HPF.out g hg))) ?_;intro a' c' w6 hO6 hs6 hk6;have HO6:=hid hO6;have hbe:=(hk6 E HBE.out.lt (fun e=>by have:=HFE.out E (List.mem_append_left _ (HPF.out E e));omega)).trans HBE.out;have HBE6:=hid (show Bx w6 E 26 _ from hbe);have HR5:=hid (HR4.out.keep (w':=w6) (fun b hb=>hk6 b (HR4.out.lt b hb) (fun e=>HU.out.1.2.2 b (HPF.out b e) b (HAF.out b hb) rfl)));have x1:=HBE6.out.c 0 rfl;have f1:=HBE6.out.fz 0;clear hO6 hs6 hk6 hbe);obtain⟨W7,hW7⟩:∃ W7,W7=w6.setCell ⟨E,0,none⟩ (.slice a' (ps.length+2) c'):=⟨_,rfl⟩
     rw[← hW7];have hEn:w3.heap.size≤E∨E<w3.heap.size:=by omega
     have HOE:=hid (HOT3.out.then HO6.out (fun b hb=>.inl hb));have HO7:=hid (show Out (Fp++Fb) w W7 by rw[hW7];exact HOE.out.setCell (.inr (by rw[HE.out];exact Nat.le_refl _)) _ _);have HBE7:=hid (show Bx W7 E 26 [.slice a' (ps.length+2) c',.slice ab bd.length cb] by rw[hW7];exact HBE6.out.set 0 _);have HR7:=hid (show RowC 69 2 W7 ab bd.length cb by
      rw[hW7];exact HR5.out.keep (fun b hb=>heap_setCell_other _ ⟨E,0,none⟩ b _ (by show b≠E;have:=HFE.out b (List.mem_append_right _ (HAF.out b hb));omega)))
     clear hW7 x1 f1 b1 hEn HR3 HR4 HR5 HBE HBE6 HO6 HOE HOY;have b3:=HBE7.out.c 1 rfl;go_wp2_with (at_builtin;refine wpList_append_rowC rfl (.tmp 147) (.tmp 150) _ rfl q0 _ 40 Tryz.underlying24 HAI.out.1 HAI.out.2 rfl (by decide) ab bd.length cb rfl HR7.out 2 2 [.string ⟨#[109,111,114,101]⟩,.slice none 0 0,.string ⟨#[109,111,114,101]⟩,.slice none 0 0] _ _ rfl rfl rfl (by simp[Value.oneCell']) (by omega) (by decide) (Fp++Fb) w HO7.out (fun g hg=>.inl (List.mem_append_right _ (HAF.out g hg))) ?_;intro a2 c2 w8 hO8 hs8 hk8;have HO8:=hid hO8;have hbe:=(hk8 E HBE7.out.lt (fun e=>by have:=HFE.out E (List.mem_append_right _ (HAF.out E e));omega)).trans HBE7.out;have HBE8:=hid (show Bx w8 E 26 _ from hbe);have x3:=HBE8.out.c 1 rfl;have f3:=HBE8.out.fz 1;clear hO8 hs8 hk8 hbe);go_end0;exact⟨rfl,HO8.out.setCell (.inr (by rw[HE.out];exact Nat.le_refl _)) _ _⟩
end Go.Proofs.YtenlhcgpajphhaaGreatDoor
