import Derived.Test.YtkpboalccpancaaGreatDoorMErWord
import Derived.Test.YtkpboalccpancaaGreatDoorMEbPlace
namespace Go.Proofs.YtkpboalccpancaaGreatDoor
open Go.RowKit Go.Shelf
open Lib(hid)
set_option maxRecDepth 100000
set_option linter.all false
set_option maxHeartbeats 2000000
theorem size_any:∀ (t:Ex) (lo q:Nat) (w:World),TreeAt w lo t q→cnt t≤1048576 →
  Calls Tryz.prog 106 #[.pointer (some ⟨q,0,none⟩),.int .i64 1048576] w fun e w'=>e=.returned (.tuple #[.int .i64 (cnt t:Nat),.int .i64 (dep t:Nat)])∧w=w':=by
 intro t
 induction t with
 | lf l =>
  intro lo q w h hc;have c7:=h.2.c 7 rfl;clear h hc;go_enter Tryz.func106,Tryz.ntmps106;go_wp2;go_loop [6,7,8] (fun n d v=>n=.int .i64 1∧d=.int .i64 0∧v=.int .i64 0) (fun _ _ _=>0)
  case atStart=>exact⟨rfl,rfl,rfl⟩
  case round =>
   obtain⟨rfl,rfl,rfl⟩:=hrel;go_wp2
   go_ret2
   exact⟨rfl,rfl⟩
 | un k a ih =>
  intro lo q w h hc;obtain⟨_,s,c,qa,_,_,hx,hs,ha⟩:=h;have hc2:cnt a+1≤1048576:=hc;have HA:=hid (ih lo qa w ha (by omega));have hd:=dep_cnt a;have e1:((cnt (.un k a):Nat):Int)=1+(cnt a:Int):=by show ((cnt a+1:Nat):Int)=_;omega
  have e2:((dep (.un k a):Nat):Int)=(dep a:Int)+1:=rfl;rw[e1,e2];generalize cnt a=C at *
  generalize dep a=D at *
  have c7:=hx.c 7 rfl;have s0:w.cell? ⟨s,0,none⟩=some (.pointer (some ⟨qa,0,none⟩)):=hs;clear ih ha hx hc e1 e2 hs;go_enter Tryz.func106,Tryz.ntmps106;go_wp2;go_loop [6,7,8] (fun n d v=>(n=.int .i64 1∧d=.int .i64 0∧v=.int .i64 0)∨(n=.int .i64 (1+(C:Int))∧d=.int .i64 (D:Int)∧v=.int .i64 1)) (fun _ _ v=>1-(intOf v).toNat)
  case atStart=>exact .inl ⟨rfl,rfl,rfl⟩
  case round =>
   rcases hrel with ⟨rfl,rfl,rfl⟩|⟨rfl,rfl,rfl⟩
   ·go_wp2_with (go_at_call 106;refine HA.out.mono ?_;rintro e w' ⟨rfl,rfl⟩);exact⟨.inr ⟨rfl,rfl,rfl⟩,by decide⟩
   ·go_wp2
    go_ret2
    exact⟨rfl,rfl⟩
 | bi k a b iha ihb =>
  intro lo q w h hc;obtain⟨_,s,c,qa,qb,_,_,hx,hs,hs1,ha,hb⟩:=h;have hc2:cnt a+cnt b+1≤1048576:=hc;have HA:=hid (iha lo qa w ha (by omega));have HB:=hid (ihb lo qb w hb (by omega));have hd:=dep_cnt a;have hdb:=dep_cnt b;have e1:((cnt (.bi k a b):Nat):Int)=1+(cnt a:Int)+(cnt b:Int):=by show ((cnt a+cnt b+1:Nat):Int)=_;omega
  have e2:((dep (.bi k a b):Nat):Int)=max (dep a:Int) (dep b:Int)+1:=by show ((max (dep a) (dep b)+1:Nat):Int)=_;omega
  rw[e1,e2];generalize cnt a=C at *
  generalize dep a=D at *
  generalize cnt b=C2 at *
  generalize dep b=D2 at *
  have c7:=hx.c 7 rfl;have s0:w.cell? ⟨s,0,none⟩=some (.pointer (some ⟨qa,0,none⟩)):=hs;have s1:w.cell? ⟨s,1,none⟩=some (.pointer (some ⟨qb,0,none⟩)):=hs1;clear iha ihb ha hb hx hc e1 e2 hs hs1;go_enter Tryz.func106,Tryz.ntmps106;go_wp2;go_loop [6,7,8] (fun n d v=>(n=.int .i64 1∧d=.int .i64 0∧v=.int .i64 0)∨(n=.int .i64 (1+(C:Int))∧d=.int .i64 (D:Int)∧v=.int .i64 1)∨(n=.int .i64 (1+(C:Int)+(C2:Int))∧d=.int .i64 (max (D:Int) (D2:Int))∧v=.int .i64 2)) (fun _ _ v=>2-(intOf v).toNat)
  case atStart=>exact .inl ⟨rfl,rfl,rfl⟩
  case round =>
   rcases hrel with ⟨rfl,rfl,rfl⟩|⟨rfl,rfl,rfl⟩|⟨rfl,rfl,rfl⟩
   ·go_wp2_with (go_at_call 106;with_reducible refine HA.out.mono ?_;rintro e w' ⟨rfl,rfl⟩);exact⟨.inr (.inl ⟨rfl,rfl,rfl⟩),by decide⟩
   ·go_wp2_with (go_at_call 106;with_reducible refine HB.out.mono ?_;rintro e w' ⟨rfl,rfl⟩);exact⟨.inr (.inr ⟨rfl,rfl,rfl⟩),by decide⟩
   ·go_wp2
    go_ret2
    exact⟨rfl,rfl⟩
theorem limits_any (t:Ex) (lo q:Nat) (w:World) (h:TreeAt w lo t q) (hc:cnt t≤1048576):Calls Tryz.prog 91 #[.pointer (some ⟨q,0,none⟩)] w fun e w'=>e=.returned (.int .i64 (faultT t))∧w=w':=by
 have HS:=hid (size_any t lo q w h hc);unfold faultT;generalize cnt t=C at *
 generalize dep t=D at *
 clear h;by_cases h1:64<C
 ·have d1:decide ((64:Int)<(C:Int))=true:=decide_eq_true (by omega);rw[if_pos h1];clear h1 hc;go_enter Tryz.func91,Tryz.ntmps91;go_wp2_with (go_at_call 106;refine HS.out.mono ?_;rintro e w' ⟨rfl,rfl⟩);go_ret;exact⟨rfl,rfl⟩
 ·have d1:decide ((64:Int)<(C:Int))=false:=decide_eq_false (by omega);rw[if_neg h1];by_cases h2:12<D
  ·have d2:decide ((12:Int)<(D:Int))=true:=decide_eq_true (by omega);rw[if_pos h2];clear h1 h2 hc;go_enter Tryz.func91,Tryz.ntmps91;go_wp2_with (go_at_call 106;refine HS.out.mono ?_;rintro e w' ⟨rfl,rfl⟩);go_ret;exact⟨rfl,rfl⟩
  ·have d2:decide ((12:Int)<(D:Int))=false:=decide_eq_false (by omega);rw[if_neg h2];clear h1 h2 hc;go_enter Tryz.func91,Tryz.ntmps91;go_wp2_with (go_at_call 106;refine HS.out.mono ?_;rintro e w' ⟨rfl,rfl⟩);go_ret;exact⟨rfl,rfl⟩
set_option maxHeartbeats 4000000
def LaidD (B:Nat) (ns:List Nd) (t:Ex) (v:Value) (w:World) (e:Ending) (w':World):Prop :=
 ∃ g c,e=.returned (.slice (some ⟨g,0,none⟩) (ns.length+cnt t) c)∧w'.ownsRow B 104 9 (.slice (some ⟨g,0,none⟩) (ns.length+cnt t) c) (ns.length+cnt t) (flatN (ns++lay ns.length t))∧(v.ownBlock=some g∨w.heap.size≤g) ∧
  w.heap.size≤w'.heap.size∧(∀ k,k<w.heap.size→v.ownBlock≠some k→w'.heap[k]?=w.heap[k]?)∧Below B w w'
theorem own_blk {w w':World} {base size n:Nat} {e:TypeId} {v:Value} {xs:List Value} (h:w.ownsRow base e size v n xs) (hk:∀ g,v.ownBlock=some g→w'.heap[g]?=w.heap[g]?):w'.ownsRow base e size v n xs:=by
 refine⟨h.1,?_⟩;rcases h.2 with hn|⟨g,cap,cur,rfl,hbs,hgg,rest⟩
 ·exact .inl hn
 ·exact .inr ⟨g,cap,cur,rfl,hbs,(hk g rfl).trans hgg,rest⟩
structure LSt (B:Nat) (w:World) (v:Value) (W:World) (n:Nd) (v':Value) (xs:List Nd):Prop where
 row:W.ownsRow B 104 9 v' xs.length (flatN xs)
 box:Bx W w.heap.size 104 (ndCells n)
 nb:v'.ownBlock≠some w.heap.size
 lies:∀ g,v'.ownBlock=some g→v.ownBlock=some g∨w.heap.size≤g
 far:∀ k,k<w.heap.size→v.ownBlock≠some k→W.heap[k]?=w.heap[k]?
 bel:Below B w W
 base:B≤w.heap.size
theorem LSt.start {B:Nat} {w:World} {v:Value} {ns:List Nd} (n:Nd) (hr:w.ownsRow B 104 9 v ns.length (flatN ns)) (hb:B≤w.heap.size) :
  LSt B w v (w.alloc (.cells (ndCells n).toArray 104)).drew n v ns:=by
 have hb1:Below w.heap.size w (w.alloc (.cells (ndCells n).toArray 104)).drew:=((Below.refl _ w).alloc (Nat.le_refl _) _).drew;exact⟨own_keep hr hb1 (Nat.le_refl _),Bx.new w 104 (ndCells n),fun e=>by have:=(hr.lt _ e).2;omega,fun g hg=>.inl hg,fun k hk _=>hb1.block k hk,hb1.mono hb,hb⟩
theorem LSt.child {B:Nat} {w W w2:World} {v v':Value} {n:Nd} {xs:List Nd} {t:Ex} {e:Ending} (h:LSt B w v W n v' xs) (hl:LaidD B xs t v' W e w2) :
  ∃ g c,e=.returned (.slice (some ⟨g,0,none⟩) (xs.length+cnt t) c)∧LSt B w v w2 n (.slice (some ⟨g,0,none⟩) (xs.length+cnt t) c) (xs++lay xs.length t):=by
 obtain⟨g,c,rfl,hr,hg,hs,hf,hb⟩:=hl;have hB:=h.box.lt;refine⟨g,c,rfl,by rw[List.length_append,lay_len];exact hr,(hf _ hB h.nb).trans h.box,fun e=>?_,fun g' e=>?_,fun k hk hv=>?_,h.bel.trans hb,h.base⟩
 ·injection e with e
  simp only at e;rcases hg with hg|hg
  ·exact h.nb (hg.trans (by rw[e]))
  ·omega
 ·injection e with e
  simp only at e;rcases hg with hg|hg
  ·exact h.lies g' (hg.trans (by rw[e]))
  ·exact .inr (by omega)
 ·refine(hf k (by omega) (fun e=>?_)).trans (h.far k hk hv);rcases h.lies k e with h1|h1
  ·exact hv h1
  ·omega
theorem LSt.child2 {B:Nat} {w W w2:World} {v v':Value} {n:Nd} {xs:List Nd} {t:Ex} {e:Ending} (h:LSt B w v W n v' xs) (hl:LaidD B xs t v' W e w2) :
  ∃ g c m,m=xs.length+cnt t∧e=.returned (.slice (some ⟨g,0,none⟩) m c)∧LSt B w v w2 n (.slice (some ⟨g,0,none⟩) m c) (xs++lay xs.length t):=by
 obtain⟨g,c,he,hs⟩:=h.child hl;exact⟨g,c,_,rfl,he,hs⟩
theorem LSt.set {B:Nat} {w W:World} {v v':Value} {n n':Nd} {xs:List Nd} (h:LSt B w v W n v' xs) (j:Nat) (x:Value) (hn:ndCells n'=(ndCells n).set j x):LSt B w v (W.setCell ⟨w.heap.size,j,none⟩ x) n' v' xs:=by
 refine⟨own_blk h.row (fun g hg=>Below.heap_setCell _ _ _ _ (fun e=>h.nb (by rw[hg,show g=w.heap.size from e]))),by rw[hn];exact h.box.set j x,h.nb,h.lies,fun k hk hv=>(Below.heap_setCell _ _ _ _ (by show k≠w.heap.size;omega)).trans (h.far k hk hv),h.bel.setCell h.base _,h.base⟩
theorem LSt.done {B g c:Nat} {w W w2:World} {v v':Value} {n:Nd} {ns xs:List Nd} {t:Ex} {o:Obj} (h:LSt B w v W n v' xs) (ht:xs++[n]=ns++lay ns.length t) (hg:(W.alloc o).grownBy w2 v'.ownBlock) (hgg:v'.ownBlock=some g∨g=(W.alloc o).heap.size)
  (hown:w2.ownsRow B 104 9 (.slice (some ⟨g,0,none⟩) (xs.length+1) c) (xs.length+1) (flatN xs++ndCells n)):LaidD B ns t v w (.returned (.slice (some ⟨g,0,none⟩) (xs.length+1) c)) w2:=by
 have hlen:xs.length+1=ns.length+cnt t:=by
  have:=congrArg List.length ht;simp only[List.length_append,lay_len,List.length_cons,List.length_nil] at this;omega
 have hs:(W.alloc o).heap.size=W.heap.size+1:=by simp
 have hsz:=hg.size;have hwz:=h.bel.size;have hB:=h.box.lt;refine⟨g,c,by rw[hlen],by rw[← hlen,← ht,flatN_snoc];exact hown,?_,by omega,fun k hk hv=>?_,(h.bel.trans (((Below.refl _ W).alloc (Nat.le_refl _) o).mono (by have:=h.base;omega))).grown hg (by have:=h.base;omega) (fun b hb=>(h.row.lt b hb).1)⟩
 ·rcases hgg with hgg|hgg
  ·exact h.lies g hgg
  ·exact .inr (by omega)
 ·refine((hg.block k (by omega) (fun e=>?_)).trans (heap_alloc_old W o (by omega))).trans (h.far k hk hv);rcases h.lies k e.symm with h1|h1
  ·exact hv h1
  ·omega
theorem laid_lf (l:Lf) (lo q B:Nat) (ns:List Nd) (v:Value) (w0 w:World) (h0:TreeAt w0 lo (.lf l) q) (hB:B=w0.heap.size) (hb:Below B w0 w) (hr:w.ownsRow B 104 9 v ns.length (flatN ns)) (hl:ns.length+1≤1000000000) :
  Calls Tryz.prog 92 #[.pointer (some ⟨q,0,none⟩),v] w (LaidD B ns (.lf l) v w):=by
 have hx:=h0.2.keep hb (by rw[hB];exact h0.2.lt);obtain⟨i0,hi,hz0,hz1,hz2⟩:=info_parts3 infoN;have sf:=store_float;have sc:=store_cplx;have hbs:=hb.size;have hlay:ns++[leafN l]=ns++lay ns.length (.lf l):=rfl;have ha:(leafN l).a=0:=by cases l <;> rfl
 have hb0:(leafN l).b=0:=by cases l <;> rfl
 generalize leafN l=n at hx hlay ha hb0;have hst:=LSt.start (v:=v) n hr (by omega);have c0:=hx.c 0 rfl;have c1:=hx.c 1 rfl;have c2:=hx.c 2 rfl;have c3:=hx.c 3 rfl;have c4:=hx.c 4 rfl;have c5:=hx.c 5 rfl;have c6:=hx.c 6 rfl;have hxa:=fun (o:Obj)=>hx.keep ((Below.refl w.heap.size w).alloc (Nat.le_refl _) o) hx.lt;have k0:=fun o=>(hxa o).c 0 rfl;have k1:=fun o=>(hxa o).c 1 rfl;have k2:=fun o=>(hxa o).c 2 rfl;have k3:=fun o=>(hxa o).c 3 rfl;have k4:=fun o=>(hxa o).c 4 rfl;have k5:=fun o=>(hxa o).c 5 rfl;have k6:=fun o=>(hxa o).c 6 rfl;have c7:=hx.c 7 rfl;have k7:=fun o=>(hxa o).c 7 rfl;have HL:=hid hlay;have hcell:ndCells n=[.int .i64 n.k,.int .i64 0,.int .i64 0,.string n.nm,.int .i64 n.vk,.int .i64 n.vi,.float .f64 n.rl,.complex .f64 n.re n.im,.string n.tx]:=by unfold ndCells;rw[ha,hb0]
 have hbw:B≤w.heap.size:=by omega
 obtain⟨W1,hW1⟩:∃ W1,W1=(w.alloc (.cells #[.int .i64 n.k,.int .i64 0,.int .i64 0,.string n.nm,.int .i64 n.vk,.int .i64 n.vi,.float .f64 n.rl,.complex .f64 n.re n.im,.string n.tx] 104)).drew:=⟨_,rfl⟩
 have hst1:LSt B w v W1 n v ns:=by rw[hW1];rw[hcell] at hst;exact hst
 have hk7:W1.cell? ⟨q,7,none⟩=some (.slice none 0 0):=by rw[hW1];exact k7 _
 have HST:=hid hst1;have HW1:=hid hW1;have HA:=hid (And.intro ha hb0);clear hxa hx hlay ha hb0 hr h0 hb hB hbs hst hcell hst1 hW1 k7;go_enter Tryz.func92,Tryz.ntmps92;go_upto_region 1 with (fail);go_region;rw[← HW1.out];clear c0 c1 c2 c3 c4 c5 c6 c7 k0 k1 k2 k3 k4 k5 k6;go_wp2
 go_loopw [1,6] (fun v' i wr=>v'=v∧i=.int .i64 0∧wr=W1) (fun _ _ _=>0)
 case atStart=>exact⟨rfl,rfl,rfl⟩
 case round =>
  obtain⟨hv,rfl,rfl⟩:=hrel;rw[hv];clear hv;have b0:=HST.out.box.c 0 rfl;have b1:=HST.out.box.c 1 rfl;have b2:=HST.out.box.c 2 rfl;have b3:=HST.out.box.c 3 rfl;have b4:=HST.out.box.c 4 rfl;have b5:=HST.out.box.c 5 rfl;have b6:=HST.out.box.c 6 rfl;have b7:=HST.out.box.c 7 rfl;have b8:=HST.out.box.c 8 rfl;go_wp2_with (at_builtin;refine wpList_append_lies _ rfl (.tmp 48) (.tmp 50) 39 rfl B 104 i0 (.agg #[.int .i64 0,.int .i64 0,.int .i64 0,.string ⟨#[]⟩,.int .i64 0,.int .i64 0,.float .f64 0,.complex .f64 0 0,.string ⟨#[]⟩]) 9 96 Tryz.underlying39 hi hz0 hz1 hz2 rfl (by decide) _ _ _ rfl (HST.out.row.alloc (.cells (ndCells n).toArray 104)) ⟨wr.heap.size,0,none⟩ 1 1 (ndCells n) rfl rfl (cells_laid wr (ndCells n) 104) (nd_one n) (by decide) (by unfold maxLen;omega) (by omega) (by have:=HST.out.bel.size;simp;omega) _ rfl ?_;intro g cap' w7 hown hgrow hat hlt;have HOW:=hid hown;have HGR:=hid hgrow;have HAT:=hid hat;clear hown hgrow hat hlt);go_ret;exact HST.out.done HL.out HGR.out HAT.out HOW.out
theorem laid_un (k:Nat) (a:Ex) (lo q B:Nat) (ns:List Nd) (v:Value) (w0 w:World) (h0:TreeAt w0 lo (.un k a) q) (hB:B=w0.heap.size) (hb:Below B w0 w) (hr:w.ownsRow B 104 9 v ns.length (flatN ns)) (hl:ns.length+cnt (.un k a)≤1000000000)
  (ih:∀ (q:Nat) (ns:List Nd) (v:Value) (w:World),TreeAt w0 lo a q→Below B w0 w→w.ownsRow B 104 9 v ns.length (flatN ns)→ns.length+cnt a≤1000000000→Calls Tryz.prog 92 #[.pointer (some ⟨q,0,none⟩),v] w (LaidD B ns a v w)) :
  Calls Tryz.prog 92 #[.pointer (some ⟨q,0,none⟩),v] w (LaidD B ns (.un k a) v w):=by
 obtain⟨_,s,c,qa,hs1,hs2,hx0,hs0,hta⟩:=h0;have hx:=hx0.keep hb (by rw[hB];exact hx0.lt);have hl2:ns.length+cnt a+1≤1000000000:=hl;have hcp:=cnt_pos a;obtain⟨i0,hi,hz0,hz1,hz2⟩:=info_parts3 infoN;have sf:=store_float;have sc:=store_cplx;have hbs:=hb.size;have hst:=LSt.start (v:=v) (pairN k 0 0) hr (by omega);have c0:w.cell? ⟨q,0,none⟩=some (.int .i64 (k:Int)):=hx.c 0 rfl;have c1:w.cell? ⟨q,1,none⟩=some (.string ⟨#[]⟩):=hx.c 1 rfl;have c2:w.cell? ⟨q,2,none⟩=some (.int .i64 0):=hx.c 2 rfl;have c3:w.cell? ⟨q,3,none⟩=some (.int .i64 0):=hx.c 3 rfl;have c4:w.cell? ⟨q,4,none⟩=some (.float .f64 0):=hx.c 4 rfl;have c5:w.cell? ⟨q,5,none⟩=some (.complex .f64 0 0):=hx.c 5 rfl;have c6:w.cell? ⟨q,6,none⟩=some (.string ⟨#[]⟩):=hx.c 6 rfl;have hxa:=fun (o:Obj)=>hx.keep ((Below.refl w.heap.size w).alloc (Nat.le_refl _) o) hx.lt;have k0:∀ o,(w.alloc o).cell? ⟨q,0,none⟩=some (.int .i64 (k:Int)):=fun o=>(hxa o).c 0 rfl;have k1:∀ o,(w.alloc o).cell? ⟨q,1,none⟩=some (.string ⟨#[]⟩):=fun o=>(hxa o).c 1 rfl;have k2:∀ o,(w.alloc o).cell? ⟨q,2,none⟩=some (.int .i64 0):=fun o=>(hxa o).c 2 rfl;have k3:∀ o,(w.alloc o).cell? ⟨q,3,none⟩=some (.int .i64 0):=fun o=>(hxa o).c 3 rfl;have k4:∀ o,(w.alloc o).cell? ⟨q,4,none⟩=some (.float .f64 0):=fun o=>(hxa o).c 4 rfl;have k5:∀ o,(w.alloc o).cell? ⟨q,5,none⟩=some (.complex .f64 0 0):=fun o=>(hxa o).c 5 rfl;have k6:∀ o,(w.alloc o).cell? ⟨q,6,none⟩=some (.string ⟨#[]⟩):=fun o=>(hxa o).c 6 rfl;have hbw:B≤w.heap.size:=by omega
 obtain⟨W1,hW1⟩:∃ W1,W1=(w.alloc (.cells #[.int .i64 (k:Int),.int .i64 0,.int .i64 0,.string ⟨#[]⟩,.int .i64 0,.int .i64 0,.float .f64 0,.complex .f64 0 0,.string ⟨#[]⟩] 104)).drew:=⟨_,rfl⟩
 have hst1:LSt B w v W1 (pairN k 0 0) v ns:=by rw[hW1];exact hst
 have HST:=hid hst1;have HW1:=hid hW1;have HX0:=hid (And.intro hx0 (And.intro (show q<B by rw[hB];exact hx0.lt) (And.intro (show s<B by omega) hs0)));have HB0:=hid hb;have HTA:=hid hta;have HIH:=hid ih;clear hxa hx hr hb hB hbs hst hst1 hW1 hx0 hs0 hs1 hs2 hta ih hl;go_enter Tryz.func92,Tryz.ntmps92;go_upto_region 1 with (fail);go_region;rw[← HW1.out];clear c0 c1 c2 c3 c4 c5 c6 k0 k1 k2 k3 k4 k5 k6;go_wp2
 go_loopw [1,6] (fun v' i wr=>(v'=v∧i=.int .i64 0∧wr=W1)∨(i=.int .i64 1∧∃ g c m,v'=.slice (some ⟨g,0,none⟩) m c∧Hid (m=ns.length+cnt a)∧Hid (LSt B w v wr (pairN k ((m:Int)-1) 0) (.slice (some ⟨g,0,none⟩) m c) (ns++lay ns.length a)))) (fun _ i _=>1-(intOf i).toNat)
 case atStart=>exact .inl ⟨rfl,rfl,rfl⟩
 case round =>
  rcases hrel with ⟨hv,rfl,rfl⟩|⟨rfl,g,c1,m,hv,hm,HS2⟩
  ·rw[hv];clear hv;have hbk:=HB0.out.trans HST.out.bel;have c7:=(HX0.out.1.keep hbk HX0.out.2.1).c 7 rfl;have s0:wr.cell? ⟨s,0,none⟩=some (.pointer (some ⟨qa,0,none⟩)):=(hbk.cell (p:=⟨s,0,none⟩) HX0.out.2.2.1).trans HX0.out.2.2.2;have HC:=hid (HIH.out qa ns v wr HTA.out hbk HST.out.row (by omega));clear hbk;go_wp2_with (go_at_call 92;refine HC.out.mono ?_;intro e w2 hld;obtain⟨g,c1,m,hm,rfl,hst2⟩:=HST.out.child2 hld;have f1:=hst2.box.fz 1;have b1:=hst2.box.c 1 rfl;have HST2:=hid hst2;have HM:=hid hm;have hm1:1≤m:=(by omega);have hm2:m≤1000000000:=(by omega);clear hst2 hld hm);exact⟨.inr ⟨rfl,g,c1,m,rfl,HM,hid (HST2.out.set 1 _ rfl)⟩,by decide⟩
  ·rw[hv];clear hv HST;have HM:=hm;have hm1:1≤m:=by have:=hm.out;omega
   have hm2:m≤1000000000:=by have:=hm.out;omega
   have hbk:=HB0.out.trans HS2.out.bel;have c7:=(HX0.out.1.keep hbk HX0.out.2.1).c 7 rfl;have hlay:(ns++lay ns.length a)++[pairN k ((m:Int)-1) 0]=ns++lay ns.length (.un k a):=by
    have:=hm.out;rw[show ((m:Int)-1)=((ns.length+cnt a-1:Nat):Int) by omega,List.append_assoc];rfl
   obtain⟨xs,hxs⟩:∃ xs,xs=ns++lay ns.length a:=⟨_,rfl⟩
   have hxl:xs.length≤1000000000:=by rw[hxs,List.length_append,lay_len];omega
   have hxl2:xs.length+1≤1000000000:=by rw[hxs,List.length_append,lay_len];omega
   rw[← hxs] at HS2 hlay;have HLAY:=hid hlay;clear hbk hm hlay hxs;have b0:=HS2.out.box.c 0 rfl;have b1:=HS2.out.box.c 1 rfl;have b2:=HS2.out.box.c 2 rfl;have b3:=HS2.out.box.c 3 rfl;have b4:=HS2.out.box.c 4 rfl;have b5:=HS2.out.box.c 5 rfl;have b6:=HS2.out.box.c 6 rfl;have b7:=HS2.out.box.c 7 rfl;have b8:=HS2.out.box.c 8 rfl;go_wp2_with (at_builtin;refine wpList_append_lies _ rfl (.tmp 48) (.tmp 50) 39 rfl B 104 i0 (.agg #[.int .i64 0,.int .i64 0,.int .i64 0,.string ⟨#[]⟩,.int .i64 0,.int .i64 0,.float .f64 0,.complex .f64 0 0,.string ⟨#[]⟩]) 9 96 Tryz.underlying39 hi hz0 hz1 hz2 rfl (by decide) _ _ _ rfl (HS2.out.row.alloc (.cells (ndCells (pairN k ((m:Int)-1) 0)).toArray 104)) ⟨wr.heap.size,0,none⟩ 1 1 (ndCells (pairN k ((m:Int)-1) 0)) rfl rfl (cells_laid wr (ndCells (pairN k ((m:Int)-1) 0)) 104) (nd_one (pairN k ((m:Int)-1) 0)) (by decide) (by unfold maxLen;omega) (by omega) (by have:=HS2.out.bel.size;simp;omega) _ rfl ?_;intro g cap' w7 hown hgrow hat hlt;have HOW:=hid hown;have HGR:=hid hgrow;have HAT:=hid hat;clear hown hgrow hat hlt);go_ret;exact HS2.out.done HLAY.out HGR.out HAT.out HOW.out
theorem laid_bi (k:Nat) (a b:Ex) (lo q B:Nat) (ns:List Nd) (v:Value) (w0 w:World) (h0:TreeAt w0 lo (.bi k a b) q) (hB:B=w0.heap.size) (hb:Below B w0 w) (hr:w.ownsRow B 104 9 v ns.length (flatN ns)) (hl:ns.length+cnt (.bi k a b)≤1000000000)
  (ih:∀ (q:Nat) (ns:List Nd) (v:Value) (w:World),TreeAt w0 lo a q→Below B w0 w→w.ownsRow B 104 9 v ns.length (flatN ns)→ns.length+cnt a≤1000000000→Calls Tryz.prog 92 #[.pointer (some ⟨q,0,none⟩),v] w (LaidD B ns a v w))
  (ihb:∀ (q:Nat) (ns:List Nd) (v:Value) (w:World),TreeAt w0 lo b q→Below B w0 w→w.ownsRow B 104 9 v ns.length (flatN ns)→ns.length+cnt b≤1000000000→Calls Tryz.prog 92 #[.pointer (some ⟨q,0,none⟩),v] w (LaidD B ns b v w)) :
  Calls Tryz.prog 92 #[.pointer (some ⟨q,0,none⟩),v] w (LaidD B ns (.bi k a b) v w):=by
 obtain⟨_,s,c,qa,qb,hs1,hs2,hx0,hs0,hsb,hta,htb⟩:=h0;have hx:=hx0.keep hb (by rw[hB];exact hx0.lt);have hl2:ns.length+(cnt a+cnt b+1)≤1000000000:=hl;have hcb:=cnt_pos b;have hcp:=cnt_pos a;obtain⟨i0,hi,hz0,hz1,hz2⟩:=info_parts3 infoN;have sf:=store_float;have sc:=store_cplx;have hbs:=hb.size;have hst:=LSt.start (v:=v) (pairN k 0 0) hr (by omega);have c0:w.cell? ⟨q,0,none⟩=some (.int .i64 (k:Int)):=hx.c 0 rfl;have c1:w.cell? ⟨q,1,none⟩=some (.string ⟨#[]⟩):=hx.c 1 rfl;have c2:w.cell? ⟨q,2,none⟩=some (.int .i64 0):=hx.c 2 rfl;have c3:w.cell? ⟨q,3,none⟩=some (.int .i64 0):=hx.c 3 rfl;have c4:w.cell? ⟨q,4,none⟩=some (.float .f64 0):=hx.c 4 rfl;have c5:w.cell? ⟨q,5,none⟩=some (.complex .f64 0 0):=hx.c 5 rfl;have c6:w.cell? ⟨q,6,none⟩=some (.string ⟨#[]⟩):=hx.c 6 rfl;have hxa:=fun (o:Obj)=>hx.keep ((Below.refl w.heap.size w).alloc (Nat.le_refl _) o) hx.lt;have k0:∀ o,(w.alloc o).cell? ⟨q,0,none⟩=some (.int .i64 (k:Int)):=fun o=>(hxa o).c 0 rfl;have k1:∀ o,(w.alloc o).cell? ⟨q,1,none⟩=some (.string ⟨#[]⟩):=fun o=>(hxa o).c 1 rfl;have k2:∀ o,(w.alloc o).cell? ⟨q,2,none⟩=some (.int .i64 0):=fun o=>(hxa o).c 2 rfl;have k3:∀ o,(w.alloc o).cell? ⟨q,3,none⟩=some (.int .i64 0):=fun o=>(hxa o).c 3 rfl;have k4:∀ o,(w.alloc o).cell? ⟨q,4,none⟩=some (.float .f64 0):=fun o=>(hxa o).c 4 rfl;have k5:∀ o,(w.alloc o).cell? ⟨q,5,none⟩=some (.complex .f64 0 0):=fun o=>(hxa o).c 5 rfl;have k6:∀ o,(w.alloc o).cell? ⟨q,6,none⟩=some (.string ⟨#[]⟩):=fun o=>(hxa o).c 6 rfl;have hbw:B≤w.heap.size:=by omega
 obtain⟨W1,hW1⟩:∃ W1,W1=(w.alloc (.cells #[.int .i64 (k:Int),.int .i64 0,.int .i64 0,.string ⟨#[]⟩,.int .i64 0,.int .i64 0,.float .f64 0,.complex .f64 0 0,.string ⟨#[]⟩] 104)).drew:=⟨_,rfl⟩
 have hst1:LSt B w v W1 (pairN k 0 0) v ns:=by rw[hW1];exact hst
 have HST:=hid hst1;have HW1:=hid hW1;have HX0:=hid (And.intro hx0 (And.intro (show q<B by rw[hB];exact hx0.lt) (And.intro (show s<B by omega) (And.intro hs0 hsb))));have HB0:=hid hb;have HTA:=hid hta;have HTB:=hid htb;have HIH:=hid ih;have HIB:=hid ihb;clear hxa hx hr hb hB hbs hst hst1 hW1 hx0 hs0 hsb hs1 hs2 hta htb ih ihb hl;go_enter Tryz.func92,Tryz.ntmps92;go_upto_region 1 with (fail);go_region;rw[← HW1.out];clear c0 c1 c2 c3 c4 c5 c6 k0 k1 k2 k3 k4 k5 k6;go_wp2
 go_loopw [1,6] (fun v' i wr=>(v'=v∧i=.int .i64 0∧wr=W1)∨(i=.int .i64 1∧∃ g c m,v'=.slice (some ⟨g,0,none⟩) m c∧Hid (m=ns.length+cnt a)∧Hid (LSt B w v wr (pairN k ((m:Int)-1) 0) (.slice (some ⟨g,0,none⟩) m c) (ns++lay ns.length a)))∨(i=.int .i64 2∧∃ g c m m0,v'=.slice (some ⟨g,0,none⟩) m c∧Hid (m0=ns.length+cnt a∧m=m0+cnt b)∧Hid (LSt B w v wr (pairN k ((m0:Int)-1) ((m:Int)-1)) (.slice (some ⟨g,0,none⟩) m c) ((ns++lay ns.length a)++lay (ns++lay ns.length a).length b)))) (fun _ i _=>2-(intOf i).toNat)
 case atStart=>exact .inl ⟨rfl,rfl,rfl⟩
 case round =>
  rcases hrel with ⟨hv,rfl,rfl⟩|⟨rfl,g,c1,m,hv,hm,HS2⟩|⟨rfl,g,c1,m,m0,hv,hm,HS2⟩
  ·rw[hv];clear hv;have hbk:=HB0.out.trans HST.out.bel;have c7:=(HX0.out.1.keep hbk HX0.out.2.1).c 7 rfl;have s0:wr.cell? ⟨s,0,none⟩=some (.pointer (some ⟨qa,0,none⟩)):=(hbk.cell (p:=⟨s,0,none⟩) HX0.out.2.2.1).trans HX0.out.2.2.2.1;have HC:=hid (HIH.out qa ns v wr HTA.out hbk HST.out.row (by omega));clear hbk;go_wp2_with (go_at_call 92;refine HC.out.mono ?_;intro e w2 hld;obtain⟨g,c1,m,hm,rfl,hst2⟩:=HST.out.child2 hld;have f1:=hst2.box.fz 1;have b1:=hst2.box.c 1 rfl;have HST2:=hid hst2;have HM:=hid hm;have hm1:1≤m:=(by omega);have hm2:m≤1000000000:=(by omega);clear hst2 hld hm);exact⟨.inr (.inl ⟨rfl,g,c1,m,rfl,HM,hid (HST2.out.set 1 _ rfl)⟩),by decide⟩
  ·rw[hv];clear hv HST;have HM:=hm;have hm1:1≤m:=by have:=hm.out;omega
   have hm2:m≤1000000000:=by have:=hm.out;omega
   have hlx:(ns++lay ns.length a).length=ns.length+cnt a:=by rw[List.length_append,lay_len]
   have hbk:=HB0.out.trans HS2.out.bel;have c7:=(HX0.out.1.keep hbk HX0.out.2.1).c 7 rfl;have s1:wr.cell? ⟨s,1,none⟩=some (.pointer (some ⟨qb,0,none⟩)):=(hbk.cell (p:=⟨s,1,none⟩) HX0.out.2.2.1).trans HX0.out.2.2.2.2;have HC:=hid (HIB.out qb _ _ wr HTB.out hbk HS2.out.row (by rw[hlx];omega));have HLX:=hid hlx;clear hbk hm hlx;go_wp2_with (go_at_call 92;refine HC.out.mono ?_;intro e w2 hld;obtain⟨g2,c2,m2,hm,rfl,hst2⟩:=HS2.out.child2 hld;have f2:=hst2.box.fz 2;have b2:=hst2.box.c 2 rfl;have HST2:=hid hst2;have HM2:Hid (m2=m+cnt b):=hid (by rw[hm,HLX.out,HM.out]);have hm3:1≤m2:=(by have:=HM2.out;omega);have hm4:m2≤1000000000:=(by have:=HM2.out;have:=HM.out;omega);clear hst2 hld hm);exact⟨.inr (.inr ⟨rfl,g2,c2,m2,m,rfl,hid ⟨HM.out,HM2.out⟩,hid (HST2.out.set 2 _ rfl)⟩),by decide⟩
  ·rw[hv];clear hv HST;have hm1:1≤m:=by have:=hm.out;omega
   have hm2:m≤1000000000:=by have:=hm.out;omega
   have hbk:=HB0.out.trans HS2.out.bel;have c7:=(HX0.out.1.keep hbk HX0.out.2.1).c 7 rfl;have hlx:(ns++lay ns.length a).length=ns.length+cnt a:=by rw[List.length_append,lay_len]
   have hlay:((ns++lay ns.length a)++lay (ns++lay ns.length a).length b)++[pairN k ((m0:Int)-1) ((m:Int)-1)]=ns++lay ns.length (.bi k a b):=by
    have:=hm.out;rw[show ((m0:Int)-1)=((ns.length+cnt a-1:Nat):Int) by omega,show ((m:Int)-1)=((ns.length+cnt a+cnt b-1:Nat):Int) by omega,hlx,List.append_assoc,List.append_assoc];rfl
   obtain⟨xs,hxs⟩:∃ xs,xs=(ns++lay ns.length a)++lay (ns++lay ns.length a).length b:=⟨_,rfl⟩
   have hxl2:xs.length+1≤1000000000:=by rw[hxs,List.length_append,lay_len,List.length_append,lay_len];omega
   rw[← hxs] at HS2 hlay;have HLAY:=hid hlay;clear hbk hm hlay hlx hxs;have b0:=HS2.out.box.c 0 rfl;have b1:=HS2.out.box.c 1 rfl;have b2:=HS2.out.box.c 2 rfl;have b3:=HS2.out.box.c 3 rfl;have b4:=HS2.out.box.c 4 rfl;have b5:=HS2.out.box.c 5 rfl;have b6:=HS2.out.box.c 6 rfl;have b7:=HS2.out.box.c 7 rfl;have b8:=HS2.out.box.c 8 rfl;go_wp2_with (at_builtin;refine wpList_append_lies _ rfl (.tmp 48) (.tmp 50) 39 rfl B 104 i0 (.agg #[.int .i64 0,.int .i64 0,.int .i64 0,.string ⟨#[]⟩,.int .i64 0,.int .i64 0,.float .f64 0,.complex .f64 0 0,.string ⟨#[]⟩]) 9 96 Tryz.underlying39 hi hz0 hz1 hz2 rfl (by decide) _ _ _ rfl (HS2.out.row.alloc (.cells (ndCells (pairN k ((m0:Int)-1) ((m:Int)-1))).toArray 104)) ⟨wr.heap.size,0,none⟩ 1 1 (ndCells (pairN k ((m0:Int)-1) ((m:Int)-1))) rfl rfl (cells_laid wr (ndCells (pairN k ((m0:Int)-1) ((m:Int)-1))) 104) (nd_one (pairN k ((m0:Int)-1) ((m:Int)-1))) (by decide) (by unfold maxLen;omega) (by omega) (by have:=HS2.out.bel.size;simp;omega) _ rfl ?_;intro g cap' w7 hown hgrow hat hlt;have HOW:=hid hown;have HGR:=hid hgrow;have HAT:=hid hat;clear hown hgrow hat hlt);go_ret;exact HS2.out.done HLAY.out HGR.out HAT.out HOW.out
theorem laid_any:∀ (t:Ex) (lo q B:Nat) (ns:List Nd) (v:Value) (w0 w:World),TreeAt w0 lo t q→B=w0.heap.size→Below B w0 w→w.ownsRow B 104 9 v ns.length (flatN ns)→ns.length+cnt t≤1000000000 →
  Calls Tryz.prog 92 #[.pointer (some ⟨q,0,none⟩),v] w (LaidD B ns t v w):=by
 intro t
 induction t with
 | lf l=>intro lo q B ns v w0 w h hB hb hr hl;exact laid_lf l lo q B ns v w0 w h hB hb hr hl
 | un k a ih=>intro lo q B ns v w0 w h hB hb hr hl;exact laid_un k a lo q B ns v w0 w h hB hb hr hl (fun q ns v w h hb hr hl=>ih lo q B ns v w0 w h hB hb hr hl)
 | bi k a b iha ihb=>intro lo q B ns v w0 w h hB hb hr hl;exact laid_bi k a b lo q B ns v w0 w h hB hb hr hl (fun q ns v w h hb hr hl=>iha lo q B ns v w0 w h hB hb hr hl) (fun q ns v w h hb hr hl=>ihb lo q B ns v w0 w h hB hb hr hl)
end Go.Proofs.YtkpboalccpancaaGreatDoor
