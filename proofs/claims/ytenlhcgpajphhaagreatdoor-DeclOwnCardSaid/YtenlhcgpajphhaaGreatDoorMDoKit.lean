import Derived.Test.YtenlhcgpajphhaaGreatDoorMDwAll
import Derived.Laws.AppendOwnNone
import Derived.Deep.AppendLies
namespace Go.Proofs.YtenlhcgpajphhaaGreatDoor
open Go.RowKit
set_option linter.all false
structure Out (F:List Nat) (w w':World):Prop where
 os:w'.os=w.os
 tape:w'.tape=w.tape
 output:w'.output=w.output
 size:w.heap.size≤w'.heap.size
 block:∀ b,b<w.heap.size→b ∉ F→w'.heap[b]?=w.heap[b]?
theorem Out.refl (F:List Nat) (w:World):Out F w w:=⟨rfl,rfl,rfl,Nat.le_refl _,fun _ _ _=>rfl⟩
theorem Out.trans {F:List Nat} {a b c:World} (h:Out F a b) (k:Out F b c):Out F a c:=⟨k.os.trans h.os,k.tape.trans h.tape,k.output.trans h.output,Nat.le_trans h.size k.size,fun x hx hn=>(k.block x (Nat.lt_of_lt_of_le hx h.size) hn).trans (h.block x hx hn)⟩
theorem Out.then {F G:List Nat} {a b c:World} (h:Out F a b) (k:Out G b c) (hG:∀ x ∈ G,x ∈ F∨a.heap.size≤x):Out F a c:=⟨k.os.trans h.os,k.tape.trans h.tape,k.output.trans h.output,Nat.le_trans h.size k.size,fun x hx hn=>(k.block x (Nat.lt_of_lt_of_le hx h.size) (fun e=>(hG x e).elim hn (by omega))).trans (h.block x hx hn)⟩
theorem Out.mono {F G:List Nat} {a b:World} (h:Out F a b) (hs:∀ x ∈ F,x ∈ G):Out G a b:=⟨h.os,h.tape,h.output,h.size,fun x hx hn=>h.block x hx (fun e=>hn (hs x e))⟩
theorem Out.of_below {F:List Nat} {a b:World} (h:Below a.heap.size a b):Out F a b:=⟨h.os,h.tape,h.output,h.size,fun x hx _=>h.block x hx⟩
theorem Out.below {F:List Nat} {a b c:World} (h:Out F a b) (k:Below b.heap.size b c):Out F a c:=h.trans (Out.of_below k)
theorem Out.setCell {F:List Nat} {a b:World} (h:Out F a b) {g:Nat} (hg:g ∈ F∨a.heap.size≤g) (k:Nat) (u:Value):Out F a (b.setCell ⟨g,k,none⟩ u):=by
 refine⟨h.os,h.tape,h.output,by rw[World.size_setCell];exact h.size,fun x hx hn=>(heap_setCell_other b ⟨g,k,none⟩ x u ?_).trans (h.block x hx hn)⟩;show x≠g;rintro rfl;exact hg.elim hn (by omega)
theorem Out.grown {F:List Nat} {a b c:World} (h:Out F a b) {row:Option Nat} (k:b.grownBy c row) (hr:∀ g,row=some g→g ∈ F∨a.heap.size≤g):Out F a c :=
 ⟨k.os.trans h.os,k.tape.trans h.tape,k.output.trans h.output,Nat.le_trans h.size k.size,fun x hx hn=>(k.block x (Nat.lt_of_lt_of_le hx h.size) (fun e=>(hr x e.symm).elim hn (by omega))).trans (h.block x hx hn)⟩
theorem Out.alloc {F:List Nat} {a b:World} (h:Out F a b) (o:Obj):Out F a (b.alloc o):=h.below ((Below.refl _ b).alloc (Nat.le_refl _) o)
theorem Out.drew {F:List Nat} {a b:World} (h:Out F a b):Out F a b.drew:=h.below (Below.refl _ b).drew
theorem Out.toBelow {F:List Nat} {B:Nat} {w a b:World} (h:Out F a b) (hb:Below B w a) (hB:B≤a.heap.size) (hF:∀ x ∈ F,B≤x):Below B w b :=
 ⟨h.os.trans hb.os,h.tape.trans hb.tape,h.output.trans hb.output,Nat.le_trans hb.size h.size,fun k hk=>(h.block k (Nat.lt_of_lt_of_le hk hB) (fun e=>by have:=hF k e;omega)).trans (hb.block k hk)⟩
theorem Out.same {F G:List Nat} {a b:World} (h:Out F a b) (hG:∀ x ∈ G,x<a.heap.size∧x ∉ F):SameB G a b:=fun x hx=>h.block x (hG x hx).1 (hG x hx).2
def RowC (T:TypeId) (sz:Nat) (w:World) (a:Option Addr) (n cap:Nat):Prop:=n≤cap∧cap≤maxLen∧((a=none∧n=0∧cap=0)∨∃ g cs,a=some ⟨g,0,none⟩∧Bx w g T cs∧cs.length=cap * sz)
section
variable {T:TypeId} {sz n cap:Nat} {w:World} {a:Option Addr}
theorem RowC.of_own {base:Nat} {d:List Value} (h:w.ownsRow base T sz (.slice a n cap) n d):RowC T sz w a n cap:=by
 rcases h.2 with ⟨hn,h0⟩|⟨g,cap',cur,hv,_,hg,h1,h2,h3,_⟩
 ·cases hn;exact⟨Nat.le_refl _,Nat.zero_le _,.inl ⟨rfl,rfl,rfl⟩⟩
 ·cases hv;exact⟨h1,h2,.inr ⟨g,cur.toList,rfl,by unfold Bx;simpa using hg,by simpa using h3⟩⟩
theorem RowC.own (h:RowC T sz w a n cap) (base:Nat) (hb:∀ g,a=some ⟨g,0,none⟩→base≤g):∃ d,w.ownsRow base T sz (.slice a n cap) n d:=by
 obtain⟨h1,h2,⟨rfl,rfl,rfl⟩|⟨g,cs,rfl,hx,hl⟩⟩:=h
 ·exact⟨[],World.ownsRow_nil _ _ _ _⟩
 ·refine⟨cs.take (n * sz),?_,.inr ⟨g,cap,cs.toArray,rfl,hb g rfl,hx,h1,h2,by simpa using hl,by simp⟩⟩;have:=Nat.mul_le_mul_right sz h1;rw[List.length_take,hl];omega
theorem RowC.keep {w':World} (h:RowC T sz w a n cap) (hk:∀ g,a=some ⟨g,0,none⟩→w'.heap[g]?=w.heap[g]?):RowC T sz w' a n cap:=by
 obtain⟨h1,h2,h0|⟨g,cs,rfl,hx,hl⟩⟩:=h
 ·exact⟨h1,h2,.inl h0⟩
 ·exact⟨h1,h2,.inr ⟨g,cs,rfl,(hk g rfl).trans hx,hl⟩⟩
theorem RowC.lt (h:RowC T sz w a n cap):∀ g,a=some ⟨g,0,none⟩→g<w.heap.size:=by
 obtain⟨_,_,⟨rfl,_⟩|⟨g,cs,rfl,hx,_⟩⟩:=h
 ·intro g hg;cases hg
 ·intro g hg;cases hg;exact hx.lt
theorem RowC.some (h:RowC T sz w a n cap) {k:Nat} (hk:k<n):∃ g,a=.some ⟨g,0,none⟩:=by
 obtain⟨_,_,⟨rfl,rfl,_⟩|⟨g,cs,rfl,_⟩⟩:=h
 ·omega
 ·exact⟨g,rfl⟩
theorem RowC.cell {g k:Nat} (h:RowC T sz w (.some ⟨g,0,none⟩) n cap) (hk:k<n) (j:Nat) (hj:j<sz):∃ u,w.cell? ⟨g,k * sz+j,none⟩=.some u:=by
 obtain⟨h1,_,⟨h0,_⟩|⟨g',cs,h0,hx,hl⟩⟩:=h
 ·cases h0
 ·cases h0;have h2:k * sz+sz≤n * sz:=by rw[← Nat.succ_mul];exact Nat.mul_le_mul_right sz hk
  have h3:=Nat.mul_le_mul_right sz h1;exact⟨_,hx.c _ (List.getElem?_eq_getElem (by omega))⟩
theorem RowC.fz {g:Nat} (h:RowC T sz w (.some ⟨g,0,none⟩) n cap) (i:Nat):w.frozen? ⟨g,i,none⟩=false:=by
 obtain⟨_,_,⟨h0,_⟩|⟨g',cs,h0,hx,_⟩⟩:=h
 ·cases h0
 ·cases h0;exact hx.fz i
theorem RowC.set {g:Nat} (h:RowC T sz w (.some ⟨g,0,none⟩) n cap) (i:Nat) (u:Value):RowC T sz (w.setCell ⟨g,i,none⟩ u) (.some ⟨g,0,none⟩) n cap:=by
 obtain⟨h1,h2,⟨h0,_⟩|⟨g',cs,h0,hx,hl⟩⟩:=h
 ·cases h0
 ·cases h0;exact⟨h1,h2,.inr ⟨g,_,rfl,hx.set i u,by simpa using hl⟩⟩
end
theorem new_cells (w:World) (news:List Value) (t:TypeId) (fr:Nat × Nat) (j:Nat) (u:Value) (h:news[j]?=some u):(w.alloc (.cells news.toArray t fr)).cell? ((⟨w.heap.size,0,none⟩:Addr).add j)=some u:=by
 have:(w.alloc (.cells news.toArray t fr)).heap[w.heap.size]?=some (.cells news.toArray t fr):=heap_alloc_new w _;have e1:(⟨w.heap.size,0,none⟩:Addr).add j=⟨w.heap.size,j,none⟩:=by unfold Addr.add;simp;intro h;exact h.symm
 rw[e1];unfold World.cell?;simp only[this]
 simpa using h
theorem own_slice {w:World} {base sz N:Nat} {T:TypeId} {v:Value} {xs:List Value} (h:w.ownsRow base T sz v N xs):∃ a c,v=.slice a N c:=by
 rcases h.2 with ⟨h,h0⟩|⟨g,cap,cur,h,_⟩
 ·exact⟨none,0,by rw[h,h0]⟩
 ·exact⟨_,_,h⟩
theorem wpList_append_rowC {w w0:World} {T:TypeId} {sz:Nat} {ops:Array Oper} {rest:List Oper} {o:Oper} {act:Act} {Q:Exit→Act→World→Prop} (hgd:o.guard=none) (s x:Operand) (t:TypeId)
  (ho:o.op=.call { callee:=.builtin .append,args:=#[s,x],argTypes:=#[t,t] }) (i:TypeInfo) (z:Value) (bytes:Nat) (ht:Tryz.prog.underlying t=some (.slice T)) (hi:Tryz.prog.info? T=some i) (hz:i.zero=some z∧i.size=sz∧i.bytes=bytes)
  (hzs:z.cells.size=sz) (hsz:0<sz) (a:Option Addr) (n cap:Nat) (hs:act.eval s=.slice a n cap) (hR:RowC T sz w0 a n cap) (m c:Nat) (news:List Value) (t':TypeId) (fr:Nat × Nat) (hw:w=w0.alloc (.cells news.toArray t' fr))
  (hx:act.eval x=.slice (some ⟨w0.heap.size,0,none⟩) m c) (hl:news.length=m * sz) (h1:∀ u ∈ news,u.oneCell'=true) (hlen:n+m≤1000000) (hbb:bytes≤1000000) (F:List Nat) (wo:World) (hO:Out F wo w0) (hF:∀ g,a=some ⟨g,0,none⟩→g ∈ F∨wo.heap.size≤g)
  (h:∀ a' c' w',Out F wo w'→w0.heap.size≤w'.heap.size→(∀ b,b<w0.heap.size→a≠some ⟨b,0,none⟩→w'.heap[b]?=w0.heap[b]?)→wpList Tryz.prog ops Q rest (act.put o.dst (.slice a' (n+m) c')) w'):wpList Tryz.prog ops Q (o :: rest) act w:=by
 subst hw;have hR2:RowC T sz (w0.alloc (.cells news.toArray t' fr)) a n cap:=hR.keep (fun g hg=>((Below.refl _ w0).alloc (Nat.le_refl _) _).block g (hR.lt g hg));obtain⟨d,hown⟩:=hR2.own 0 (fun _ _=>Nat.zero_le _);have hmul:(n+m) * bytes≤1000000 * 1000000:=Nat.mul_le_mul hlen hbb;have hob:∀ g,(Value.slice a n cap).ownBlock=some g→a=some ⟨g,0,none⟩:=by
  intro g hg;obtain⟨_,_,⟨rfl,_⟩|⟨g',cs,rfl,_⟩⟩:=hR
  ·cases hg
  ·cases hg;rfl
 refine wpList_append_own _ hgd s x t ho 0 T i z sz bytes ht hi hz.1 hz.2.1 hz.2.2 hzs hsz _ n d hs hown _ m c news hx hl (new_cells w0 news t' fr) h1 (by unfold maxLen;omega) (by omega) (Nat.zero_le _) fun v' w' hv hg _=>?_;obtain⟨a',c',rfl⟩:=own_slice hv;have hz:=hg.size;rw[World.size_alloc] at hz;refine h a' c' w' ((hO.alloc _).grown hg (fun g hg=>hF g (hob g hg))) (by omega) (fun b hb hne=>?_);refine(hg.block b (by rw[World.size_alloc];omega) (fun e=>hne (hob b e.symm))).trans ?_;exact((Below.refl _ w0).alloc (Nat.le_refl _) _).block b hb
theorem step_append_rowC {w w0:World} {T:TypeId} {sz:Nat} {ops:Array Oper} {o:Oper} {act:Act} {K:Act→World→Prop} {Q:Exit→Act→World→Prop} {E:Prop} (hgd:o.guard=none) (s x:Operand) (t:TypeId)
  (ho:o.op=.call { callee:=.builtin .append,args:=#[s,x],argTypes:=#[t,t] }) (i:TypeInfo) (z:Value) (bytes:Nat) (ht:Tryz.prog.underlying t=some (.slice T)) (hi:Tryz.prog.info? T=some i) (hz:i.zero=some z∧i.size=sz∧i.bytes=bytes)
  (hzs:z.cells.size=sz) (hsz:0<sz) (a:Option Addr) (n cap:Nat) (hs:act.eval s=.slice a n cap) (hR:RowC T sz w0 a n cap) (m c:Nat) (news:List Value) (t':TypeId) (fr:Nat × Nat) (hw:w=w0.alloc (.cells news.toArray t' fr))
  (hx:act.eval x=.slice (some ⟨w0.heap.size,0,none⟩) m c) (hl:news.length=m * sz) (hm:0<m) (h1:∀ u ∈ news,u.oneCell'=true) (hlen:n+m≤1000000) (hbb:bytes≤1000000) (F:List Nat) (wo:World) (hO:Out F wo w0) (hF:∀ g,a=some ⟨g,0,none⟩→g ∈ F∨wo.heap.size≤g)
  (h:∀ g' c' w',Out F wo w'→w0.heap.size≤w'.heap.size→(∀ b,b<w0.heap.size→a≠some ⟨b,0,none⟩→w'.heap[b]?=w0.heap[b]?)→K (act.put o.dst (.slice (some ⟨g',0,none⟩) (n+m) c')) w') :
  if Region.wanted o (yielded ops act.tmps)=true then Oper.wp Tryz.prog o act w K Q else E:=by
 subst hw;have hR2:RowC T sz (w0.alloc (.cells news.toArray t' fr)) a n cap:=hR.keep (fun g hg=>((Below.refl _ w0).alloc (Nat.le_refl _) _).block g (hR.lt g hg));obtain⟨d,hown⟩:=hR2.own 0 (fun _ _=>Nat.zero_le _);have hmul:(n+m) * bytes≤1000000 * 1000000:=Nat.mul_le_mul hlen hbb;have hob:∀ g,(Value.slice a n cap).ownBlock=some g→a=some ⟨g,0,none⟩:=by
  intro g hg;obtain⟨_,_,⟨rfl,_⟩|⟨g',cs,rfl,_⟩⟩:=hR
  ·cases hg
  ·cases hg;rfl
 refine step_append_lies _ hgd s x t ho 0 T i z sz bytes ht hi hz.1 hz.2.1 hz.2.2 hzs hsz _ n d hs hown _ m c news hx hl (new_cells w0 news t' fr) h1 hm (by unfold maxLen;omega) (by omega) (Nat.zero_le _) _ rfl fun g' c' w' hv hg _ _=>?_;have hz:=hg.size;rw[World.size_alloc] at hz;refine h g' c' w' ((hO.alloc _).grown hg (fun g hg=>hF g (hob g hg))) (by omega) (fun b hb hne=>?_);refine(hg.block b (by rw[World.size_alloc];omega) (fun e=>hne (hob b e.symm))).trans ?_;exact((Below.refl _ w0).alloc (Nat.le_refl _) _).block b hb
def Rest {α:Type} (E:Shp α) (sz:Nat) (w:World) (g k:Nat) (xs:List α) (F:List Nat):Prop:=∃ c,Elems E w F c xs∧∀ j u,c[j]?=some u→w.cell? ⟨g,k * sz+j,none⟩=some u
section
variable {α:Type} {E:Shp α} {T:TypeId} {sz g k:Nat} {w w':World} {xs:List α} {F:List Nat}
theorem Rest.head (ke:KE E sz) {x:α} (h:Rest E sz w g k (x :: xs) F):∃ F1 F3 c1,F=F1++F3∧E w F1 c1 x∧(∀ j u,c1[j]?=some u→w.cell? ⟨g,k * sz+j,none⟩=some u)∧Rest E sz w g (k+1) xs F3:=by
 obtain⟨c,⟨F1,F3,c1,c3,hF,hc,hx,hr⟩,hcl⟩:=h;have hl:=ke.len hx;subst hc;refine⟨F1,F3,c1,hF,hx,fun j u hj=>hcl j u ?_,c3,hr,fun j u hj=>?_⟩
 ·have:=(List.getElem?_eq_some_iff.1 hj).1;rw[List.getElem?_append_left this];exact hj
 ·have:=hcl (sz+j) u (by rw[List.getElem?_append_right (by omega),hl,Nat.add_sub_cancel_left];exact hj);rw[← Nat.add_assoc] at this;rw[Nat.succ_mul];exact this
theorem Rest.keep (ke:KE E sz) (h:Rest E sz w g k xs F) (hs:SameB F w w') (hc:∀ j,k * sz≤j→w'.cell? ⟨g,j,none⟩=w.cell? ⟨g,j,none⟩):Rest E sz w' g k xs F:=by
 obtain⟨c,he,hcl⟩:=h;exact⟨c,he.keep ke hs,fun j u hj=>(hc _ (Nat.le_add_right _ _)).trans (hcl j u hj)⟩
theorem Rest.of_list {n cap:Nat} {d:List Value} (h:ListV E T sz w F (.slice (some ⟨g,0,none⟩) n cap) xs d):∃ F2,F=g :: F2∧Rest E sz w g 0 xs F2:=by
 obtain⟨F2,hF,he⟩:=h.els;refine⟨F2,hF,d,he,fun j u hj=>?_⟩;have:=h.row.cells (g:=g) rfl j u hj;rw[Nat.zero_mul,Nat.zero_add];have e1:(⟨g,0,none⟩:Addr).add j=⟨g,j,none⟩:=by unfold Addr.add;simp;intro h;exact h.symm
 rwa [e1] at this
theorem cell_set_off {i j:Nat} {u:Value} {cs:List Value} (h:Bx w g T cs) (hne:j≠i):(w.setCell ⟨g,i,none⟩ u).cell? ⟨g,j,none⟩=w.cell? ⟨g,j,none⟩:=by
 rw[cell_of_row _ g j _ _ _ (h.set i u),cell_of_row w g j _ _ _ h];simp[List.getElem?_set_ne (Ne.symm hne)]
end
theorem rest_start {α:Type} {E:Shp α} {T:TypeId} {sz n cap:Nat} {w:World} {xs:List α} {F:List Nat} {a:Option Addr} {d:List Value} (h:ListV E T sz w F (.slice a n cap) xs d) (hu:F.Nodup) :
  ∃ F2,F2.Nodup∧(∀ b ∈ F2,b ∈ F)∧∀ g,a=some ⟨g,0,none⟩→Rest E sz w g 0 xs F2∧g ∉ F2∧g ∈ F:=by
 rcases h.row.2 with ⟨hn,_⟩|⟨g,cap',cur,hv,_⟩
 ·cases hn;exact⟨[],List.nodup_nil,(fun _ h=>by cases h),(fun g hg=>by cases hg)⟩
 ·cases hv;obtain⟨F2,rfl,hr⟩:=Rest.of_list h;obtain⟨h1,h2⟩:=List.nodup_cons.1 hu;exact⟨F2,h2,fun b hb=>List.mem_cons_of_mem _ hb,fun g' hg=>by cases hg;exact⟨hr,h1,List.mem_cons_self ..⟩⟩
open Go.Shelf
open Lib(hid)
set_option maxRecDepth 100000
set_option maxHeartbeats 8000000
theorem nodes_any (a:Option Addr) (n cap:Nat) (F:List Nat) (w:World) (h:RowC 109 9 w a n cap) (hn:n≤900000) (hF:∀ g,a=some ⟨g,0,none⟩→g ∈ F) :
  Calls Tryz.prog 50 #[.agg #[.slice a n cap]] w fun e w'=>e=.returned (.tuple #[])∧Out F w w':=by
 obtain⟨W0,hW0⟩:∃ W0,W0=w.alloc (.cells #[.slice a n cap] 41):=⟨_,rfl⟩
 have hz0:W0.heap.size=w.heap.size+1:=by rw[hW0];simp
 have hb0:Below w.heap.size w W0:=by rw[hW0];exact(Below.refl _ w).alloc (Nat.le_refl _) _
 have HB:=hid (show Bx W0 w.heap.size 41 [.slice a n cap] by rw[hW0];exact Bx.new w _ _);have HO:=hid (Out.of_below (F:=F) hb0);have HLT:=hid h.lt;have HR:=hid (h.keep (w':=W0) (fun g hg=>hb0.block g (h.lt g hg)));have HF:=hid hF;have HW0:=hid hW0;have HZ:=hid hz0;clear h hF hW0 hb0 hz0;obtain⟨i0,hi,hz0,hz1,hz2⟩:=info_parts3 infoN;have HI:=hid hi;have HI2:=hid (And.intro hz0 (And.intro hz1 hz2));clear hi hz0 hz1 hz2;go_enter Tryz.func50,Tryz.ntmps50;go_upto_region 1 with (fail);rw[← HW0.out];generalize hE:w.heap.size=E at HB ⊢;have HE:=hid hE;clear HW0 hE;go_wp2
 go_loopw [2] (fun i wr=>∃ k:Nat,i=.int .i64 k∧k≤n∧Hid (RowC 109 9 wr a n cap)∧Hid (Bx wr E 41 [.slice a n cap])∧Hid (Out F w wr)) (fun i _=>n-(intOf i).toNat)
 case atStart=>exact⟨0,rfl,Nat.zero_le _,HR,HB,HO⟩
 case round =>
  obtain⟨k,rfl,hk,HRR,HBB,HOO⟩:=hrel;have c0:=HBB.out.c 0 rfl;rcases Nat.lt_or_ge k n with hlt|hge
  ·obtain⟨g,rfl⟩:=HRR.out.some hlt;have hgE:E≠g:=by have:=HLT.out g rfl;have:=HE.out;omega
   obtain⟨u0,q0⟩:=HRR.out.cell hlt 0 (by decide);obtain⟨u1,q1⟩:=HRR.out.cell hlt 1 (by decide);obtain⟨u2,q2⟩:=HRR.out.cell hlt 2 (by decide);obtain⟨u3,q3⟩:=HRR.out.cell hlt 3 (by decide);obtain⟨u4,q4⟩:=HRR.out.cell hlt 4 (by decide);obtain⟨u5,q5⟩:=HRR.out.cell hlt 5 (by decide);obtain⟨u6,q6⟩:=HRR.out.cell hlt 6 (by decide);obtain⟨u7,q7⟩:=HRR.out.cell hlt 7 (by decide);obtain⟨u8,q8⟩:=HRR.out.cell hlt 8 (by decide);have f0:=HRR.out.fz (k * 9+0);have f1:=HRR.out.fz (k * 9+1);have f2:=HRR.out.fz (k * 9+2);have f3:=HRR.out.fz (k * 9+3);have f4:=HRR.out.fz (k * 9+4);have f5:=HRR.out.fz (k * 9+5);have f6:=HRR.out.fz (k * 9+6);have f7:=HRR.out.fz (k * 9+7);have f8:=HRR.out.fz (k * 9+8);rw[Nat.add_zero] at q0 f0;have sf:=store_float;have sc:=store_cplx;have e2:(0:Int)≤(k:Int):=by omega
   have e3:(k:Int)<(n:Int):=by omega
   have e4:decide ((k:Int)<(n:Int))=true:=decide_eq_true e3;have hwr:IntKind.i64.wrap (90+(k:Int))=90+(k:Int):=by rw[IntKind.wrap_i64];omega
   go_upto_region 3 with (fail);generalize hW2:World.setCell _ _ _=W2;have HR2:=hid (show RowC 109 9 W2 (some ⟨g,0,none⟩) n cap by rw[← hW2];(repeat refine RowC.set ?_ _ _);exact HRR.out);have HB2:=hid (show Bx W2 E 41 [.slice (some ⟨g,0,none⟩) n cap] by rw[← hW2];(repeat refine Bx.other ?_ hgE _ _);exact HBB.out);have hgF:=HF.out g rfl;have HO2:=hid (show Out F w W2 by rw[← hW2];(repeat refine Out.setCell ?_ (.inl hgF) _ _);exact HOO.out);clear hW2 q0 q1 q2 q3 q4 q5 q6 q7 q8 f0 f1 f2 f3 f4 f5 f6 f7 f8 c0 hwr hgF HRR HBB HOO;go_wp2;go_roundw
   case rel=>exact⟨k+1,by go_num,by omega,HR2,HB2,HO2⟩
   case measure=>simp[intOf];omega
  ·obtain rfl:k=n:=by omega
   have d1:decide ((k:Int)<(k:Int))=false:=decide_eq_false (by omega);clear hge hk HR HB HO;have fb:=HBB.out.fz 0;go_wp2_with (at_builtin;refine wpList_append_rowC rfl (.tmp 18) (.tmp 21) _ rfl i0 _ 96 Tryz.underlying39 HI.out HI2.out rfl (by decide) a k cap rfl HRR.out 2 2 [.int .i64 77,.int .i64 0,.int .i64 0,.string ⟨#[]⟩,.int .i64 0,.int .i64 0,.float .f64 0,.complex .f64 0 0,.string ⟨#[]⟩,.int .i64 78,.int .i64 0,.int .i64 0,.string ⟨#[]⟩,.int .i64 0,.int .i64 0,.float .f64 0,.complex .f64 0 0,.string ⟨#[]⟩] _ _ rfl rfl rfl (by simp[Value.oneCell']) (by omega) (by decide) F w HOO.out (fun g hg=>.inl (HF.out g hg)) ?_;intro a' c' w5 hO5 hs5 hk5;have HO5:=hid hO5;have HB5:=hid (show Bx w5 E 41 [.slice a k cap] from (hk5 E (HBB.out.lt) (fun e=>by have:=HLT.out E e;have:=HE.out;omega)).trans HBB.out);have c5:=HB5.out.c 0 rfl;have f5:=HB5.out.fz 0;clear hO5 hs5 hk5);go_end0;exact⟨rfl,HO5.out.setCell (.inr (by rw[HE.out];exact Nat.le_refl _)) _ _⟩
end Go.Proofs.YtenlhcgpajphhaaGreatDoor
