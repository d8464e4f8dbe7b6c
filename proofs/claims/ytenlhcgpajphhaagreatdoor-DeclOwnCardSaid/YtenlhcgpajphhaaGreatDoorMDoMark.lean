import Derived.Test.YtenlhcgpajphhaaGreatDoorMBlApp
import Derived.Test.YtenlhcgpajphhaaGreatDoorMDxOk
import Derived.StillTailTactics
namespace Go.Proofs.YtenlhcgpajphhaaGreatDoor
open Go.RowKit Go.Shelf
set_option maxRecDepth 100000
set_option linter.all false
theorem step_append_rowL {w w0:World} {T:TypeId} {sz:Nat} {ops:Array Oper} {o:Oper} {act:Act} {K:Act→World→Prop} {Q:Exit→Act→World→Prop} {E:Prop} (hgd:o.guard=none) (s x:Operand) (t:TypeId)
  (ho:o.op=.call { callee:=.builtin .append,args:=#[s,x],argTypes:=#[t,t] }) (i:TypeInfo) (z:Value) (bytes:Nat) (ht:Tryz.prog.underlying t=some (.slice T)) (hi:Tryz.prog.info? T=some i) (hz:i.zero=some z∧i.size=sz∧i.bytes=bytes)
  (hzs:z.cells.size=sz) (hsz:0<sz) (a:Option Addr) (n cap:Nat) (hs:act.eval s=.slice a n cap) (hR:RowC T sz w0 a n cap) (m c:Nat) (news:List Value) (t':TypeId) (fr:Nat × Nat) (hw:w=w0.alloc (.cells news.toArray t' fr))
  (hx:act.eval x=.slice (some ⟨w0.heap.size,0,none⟩) m c) (hl:news.length=m * sz) (hm:0<m) (h1:∀ u ∈ news,u.oneCell'=true) (hlen:n+m≤1000000) (hbb:bytes≤1000000) (F:List Nat) (wo:World) (hO:Out F wo w0) (hF:∀ g,a=some ⟨g,0,none⟩→g ∈ F∨wo.heap.size≤g)
  (h:∀ g' c' w',Out F wo w'→w0.heap.size≤w'.heap.size→(∀ b,b<w0.heap.size→a≠some ⟨b,0,none⟩→w'.heap[b]?=w0.heap[b]?)→RowC T sz w' (some ⟨g',0,none⟩) (n+m) c'→(a=some ⟨g',0,none⟩∨w0.heap.size≤g')→(∀ g,a=some ⟨g,0,none⟩→∀ q,q<n * sz→w'.cell? ⟨g',q,none⟩=w0.cell? ⟨g,q,none⟩)→K (act.put o.dst (.slice (some ⟨g',0,none⟩) (n+m) c')) w') :
  if Region.wanted o (yielded ops act.tmps)=true then Oper.wp Tryz.prog o act w K Q else E:=by
 subst hw;have hb0:Below w0.heap.size w0 (w0.alloc (.cells news.toArray t' fr)):=(Below.refl _ w0).alloc (Nat.le_refl _) _;have hR2:RowC T sz (w0.alloc (.cells news.toArray t' fr)) a n cap:=hR.keep (fun g hg=>hb0.block g (hR.lt g hg));obtain⟨d,hown⟩:=hR2.own 0 (fun _ _=>Nat.zero_le _);have hmul:(n+m) * bytes≤1000000 * 1000000:=Nat.mul_le_mul hlen hbb;have hob:∀ g,(Value.slice a n cap).ownBlock=some g→a=some ⟨g,0,none⟩:=by
  intro g hg;obtain⟨_,_,⟨rfl,_⟩|⟨g',cs,rfl,_⟩⟩:=hR
  ·cases hg
  ·cases hg;rfl
 refine step_append_lies _ hgd s x t ho 0 T i z sz bytes ht hi hz.1 hz.2.1 hz.2.2 hzs hsz _ n d hs hown _ m c news hx hl (new_cells w0 news t' fr) h1 hm (by unfold maxLen;omega) (by omega) (Nat.zero_le _) _ rfl fun g' c' w' hv hg hat _=>?_;have hz:=hg.size;rw[World.size_alloc] at hz;refine h g' c' w' ((hO.alloc _).grown hg (fun g hg=>hF g (hob g hg))) (by omega) (fun b hb hne=>?_) (RowC.of_own hv) ?_ (fun g hg q hq=>?_)
 ·refine(hg.block b (by rw[World.size_alloc];omega) (fun e=>hne (hob b e.symm))).trans ?_;exact hb0.block b hb
 ·rcases hat with hat|hat
  ·exact .inl (hob g' hat)
  ·right;rw[hat,World.size_alloc];omega
 ·subst hg;have hdl:d.length=n * sz:=hown.1;have hqd:q<d.length:=by omega
  have k1:=hown.cellAt q hq;have k2:=hv.cellAt q (by rw[Nat.add_mul];omega);rw[List.getElem?_append_left hqd] at k2;rw[k2,← k1];exact World.cell?_of_block (a:=⟨g,q,none⟩) (hb0.block g (hR.lt g rfl))
def Mks (T:TypeId) (sz:Nat) (m:Nat→Nat→Value) (w:World) (ts:List Trip) (k j:Nat):Prop :=
 ∀ (i:Nat) (t:Trip),ts[i]?=some t→RowC T sz w t.1 t.2.1 t.2.2∧∀ g,t.1=some ⟨g,0,none⟩→∀ q,(i<k∧q<t.2.1∨i=k∧q<j)→w.cell? ⟨g,q * sz,none⟩=some (m i q)
section
variable {T:TypeId} {sz k j:Nat} {m:Nat→Nat→Value} {w w':World} {ts:List Trip}
theorem mem_blk {i g:Nat} {t:Trip} (h:ts[i]?=some t) (hg:t.1=some ⟨g,0,none⟩):g ∈ ts.flatMap blk:=by
 refine List.mem_flatMap.2 ⟨t,List.mem_of_getElem? h,?_⟩;unfold blk slv;rw[hg];simp[Value.ownBlock]
theorem blk_ne:∀ {ts:List Trip},(ts.flatMap blk).Nodup→∀ {i k g g':Nat} {t t':Trip},ts[i]?=some t→ts[k]?=some t'→i≠k→t.1=some ⟨g,0,none⟩→t'.1=some ⟨g',0,none⟩→g≠g'
 | [],_,i,_,_,_,_,_,h,_,_,_,_=>by simp at h
 | x :: ts,hn,0,0,_,_,_,_,_,_,hne,_,_=>absurd rfl hne
 | x :: ts,hn,i+1,k+1,g,g',t,t',h,h',hne,hg,hg'=>by
  rw[List.flatMap_cons] at hn;exact blk_ne (List.nodup_append.1 hn).2.1 (by simpa using h) (by simpa using h') (by omega) hg hg'
 | x :: ts,hn,0,k+1,g,g',t,t',h,h',_,hg,hg'=>by
  rw[List.flatMap_cons] at hn;have h1:g ∈ blk x:=by simp at h;subst h;unfold blk slv;rw[hg];simp[Value.ownBlock]
  exact(List.nodup_append.1 hn).2.2 g h1 g' (mem_blk (by simpa using h') hg')
 | x :: ts,hn,i+1,0,g,g',t,t',h,h',_,hg,hg'=>by
  rw[List.flatMap_cons] at hn;have h1:g' ∈ blk x:=by simp at h';subst h';unfold blk slv;rw[hg'];simp[Value.ownBlock]
  exact fun e=>(List.nodup_append.1 hn).2.2 g' h1 g (mem_blk (by simpa using h) hg) e.symm
theorem Mks.start (h:∀ t ∈ ts,RowC T sz w t.1 t.2.1 t.2.2):Mks T sz m w ts 0 0:=fun i t ht=>⟨h t (List.mem_of_getElem? ht),fun g _ q hq=>by omega⟩
theorem Mks.next (h:Mks T sz m w ts k j) (hj:∀ t,ts[k]?=some t→t.2.1≤j):Mks T sz m w ts (k+1) 0:=fun i t ht=>⟨(h i t ht).1,fun g hg q hq=>(h i t ht).2 g hg q (by
 rcases Nat.lt_or_ge i k with hlt|hge
 ·exact .inl ⟨hlt,by omega⟩
 ·obtain rfl:i=k:=by omega
  have:=hj t ht;exact .inr ⟨rfl,by omega⟩)⟩
theorem Mks.keep (h:Mks T sz m w ts k j) (hs:SameB (ts.flatMap blk) w w'):Mks T sz m w' ts k j:=fun i t ht =>
 ⟨(h i t ht).1.keep (fun g hg=>hs g (mem_blk ht hg)),fun g hg q hq=>(World.cell?_of_block (a:=⟨g,q * sz,none⟩) (hs g (mem_blk ht hg))).trans ((h i t ht).2 g hg q hq)⟩
theorem Mks.row {t:Trip} (h:Mks T sz m w ts k j) {i:Nat} (ht:ts[i]?=some t):RowC T sz w t.1 t.2.1 t.2.2:=(h i t ht).1
theorem Mks.other (hn:(ts.flatMap blk).Nodup) {g n c:Nat} (ht:ts[k]?=some (some ⟨g,0,none⟩,n,c)) {x:Nat} (hx:∀ q,q<j→q * sz≠x) (u:Value) (h:Mks T sz m w ts k j):Mks T sz m (w.setCell ⟨g,x,none⟩ u) ts k j:=by
 intro i t hti;by_cases hik:i=k
 ·subst hik;obtain rfl:t=(some ⟨g,0,none⟩,n,c):=Option.some.inj (hti.symm.trans ht);refine⟨(h i _ hti).1.set x u,fun g' hg q hq=>?_⟩;have e:g=g':=by simp at hg;exact hg
  subst e;refine(World.cell?_setCell_other _ _ _ _ (fun e=>?_)).trans ((h i _ hti).2 g rfl q hq);simp at e;have:=hx q (by omega);omega
 ·refine⟨(h i t hti).1.keep (fun g' hg=>heap_setCell_other w _ g' u (fun e=>blk_ne hn hti ht hik hg rfl e)),fun g' hg q hq=>?_⟩;refine(World.cell?_of_block (a:=⟨g',q * sz,none⟩) (heap_setCell_other w ⟨g,x,none⟩ g' u (fun e=>blk_ne hn hti ht hik hg rfl e))).trans ((h i t hti).2 g' hg q hq)
theorem Mks.mark (hn:(ts.flatMap blk).Nodup) (hsz:0<sz) {g n c:Nat} (ht:ts[k]?=some (some ⟨g,0,none⟩,n,c)) (hj:j<n) {x:Nat} (hx:x=j * sz) {u:Value} (hu:u=m k j) (h:Mks T sz m w ts k j):Mks T sz m (w.setCell ⟨g,x,none⟩ u) ts k (j+1):=by
 subst hx hu;have h2:=Mks.other hn ht (x:=j * sz) (fun q hq e=>by have:=Nat.eq_of_mul_eq_mul_right hsz e;omega) (m k j) h;intro i t hti;refine⟨(h2 i t hti).1,fun g' hg q hq=>?_⟩;by_cases hqk:i=k∧q=j
 ·obtain⟨rfl,rfl⟩:=hqk;obtain rfl:t=(some ⟨g,0,none⟩,n,c):=Option.some.inj (hti.symm.trans ht);have e:g=g':=by simp at hg;exact hg
  subst e;obtain⟨v,hv⟩:=(h i _ hti).1.cell hj 0 hsz;rw[Nat.add_zero] at hv;obtain⟨_,_,⟨h0,_⟩|⟨g',cs,h0,hx,hl⟩⟩:=(h i _ hti).1
  ·cases h0
  ·cases h0;have hlt:q * sz<cs.length:=by
    rw[cell_of_row w g (q * sz) _ _ _ hx] at hv;simp at hv;exact(List.getElem?_eq_some_iff.1 hv).1
   have:=hx.set (q * sz) (m i q);rw[cell_of_row _ g (q * sz) _ _ _ this];simp[hlt]
 ·exact(h2 i t hti).2 g' hg q (by omega)
end
structure Gon (T:TypeId) (sz:Nat) (m:Nat→Nat→Value) (B:Nat) (w:World) (ts us:List Trip) (k:Nat):Prop where
 len:us.length=ts.length
 late:∀ (i:Nat) (t:Trip),k≤i→ts[i]?=some t→us[i]?=some t
 done:∀ (i:Nat) (t u:Trip),i<k→ts[i]?=some t→us[i]?=some u→u.2.1=t.2.1+2
 lies:∀ (i:Nat) (t u:Trip),ts[i]?=some t→us[i]?=some u→u.1=t.1∨∃ g,u.1=some ⟨g,0,none⟩∧B≤g
 row:∀ (i:Nat) (u:Trip),us[i]?=some u→RowC T sz w u.1 u.2.1 u.2.2
 mark:∀ (i:Nat) (t u:Trip),ts[i]?=some t→us[i]?=some u→∀ g,u.1=some ⟨g,0,none⟩→∀ q,q<t.2.1→w.cell? ⟨g,q * sz,none⟩=some (m i q)
section
variable {T:TypeId} {sz k B:Nat} {m:Nat→Nat→Value} {w w':World} {ts us:List Trip}
theorem Gon.start (h:Mks T sz m w ts ts.length 0):Gon T sz m B w ts ts 0 :=
 ⟨rfl,fun _ _ _ h=>h,fun _ _ _ h=>by omega,fun _ t u ht hu=>by rw[ht] at hu;cases hu;exact .inl rfl,fun i u hu=>(h i u hu).1,fun i t u ht hu g hg q hq=>by
  rw[ht] at hu;cases hu;exact(h i t ht).2 g hg q (.inl ⟨(List.getElem?_eq_some_iff.1 ht).1,hq⟩)⟩
theorem Gon.blocks (h:Gon T sz m B w ts us k) {i g:Nat} {u:Trip} (hu:us[i]?=some u) (hg:u.1=some ⟨g,0,none⟩):g ∈ ts.flatMap blk∨B≤g:=by
 have hlt:i<ts.length:=by rw[← h.len];exact(List.getElem?_eq_some_iff.1 hu).1
 rcases h.lies i ts[i] u (List.getElem?_eq_getElem hlt) hu with h1|⟨g',h1,h2⟩
 ·exact .inl (mem_blk (List.getElem?_eq_getElem hlt) (h1.symm.trans hg))
 ·rw[hg] at h1;simp at h1;subst h1;exact .inr h2
theorem Gon.keep (h:Gon T sz m B w ts us k) (hs:∀ g,(g ∈ ts.flatMap blk∨B≤g)→g<w.heap.size→w'.heap[g]?=w.heap[g]?):Gon T sz m B w' ts us k :=
 ⟨h.len,h.late,h.done,h.lies,fun i u hu=>(h.row i u hu).keep (fun g hg=>hs g (h.blocks hu hg) ((h.row i u hu).lt g hg)),fun i t u ht hu g hg q hq=>(World.cell?_of_block (a:=⟨g,q * sz,none⟩) (hs g (h.blocks hu hg) ((h.row i u hu).lt g hg))).trans (h.mark i t u ht hu g hg q hq)⟩
theorem Gon.next (h:Gon T sz m B w ts us k) (hn:(ts.flatMap blk).Nodup) (hB:∀ g ∈ ts.flatMap blk,g<B) (hBw:B≤w.heap.size) {t:Trip} (ht:ts[k]?=some t) {g' c':Nat} (hk:∀ b,b<w.heap.size→t.1≠some ⟨b,0,none⟩→w'.heap[b]?=w.heap[b]?)
  (hR:RowC T sz w' (some ⟨g',0,none⟩) (t.2.1+2) c') (hl:t.1=some ⟨g',0,none⟩∨w.heap.size≤g') (hsz:0<sz) (hc:∀ g,t.1=some ⟨g,0,none⟩→∀ q,q<t.2.1 * sz→w'.cell? ⟨g',q,none⟩=w.cell? ⟨g,q,none⟩):Gon T sz m B w' ts (us.set k (some ⟨g',0,none⟩,t.2.1+2,c')) (k+1):=by
 have hkt:k<ts.length:=(List.getElem?_eq_some_iff.1 ht).1;have hku:k<us.length:=by rw[h.len];exact hkt
 have hset:∀ i,us.length=ts.length→(us.set k (some ⟨g',0,none⟩,t.2.1+2,c'))[i]?=if i=k then some (some ⟨g',0,none⟩,t.2.1+2,c') else us[i]?:=by
  intro i _;rw[List.getElem?_set];by_cases hik:k=i
  ·subst hik;simp[hku]
  ·simp[hik,Ne.symm hik]
 have hfar:∀ {i:Nat} {u:Trip},i≠k→us[i]?=some u→∀ g,u.1=some ⟨g,0,none⟩→w'.heap[g]?=w.heap[g]?:=by
  intro i u hik hu g hg;have hlt:i<ts.length:=by rw[← h.len];exact(List.getElem?_eq_some_iff.1 hu).1
  refine hk g ((h.row i u hu).lt g hg) (fun e=>?_);rcases h.lies i ts[i] u (List.getElem?_eq_getElem hlt) hu with h1|⟨g2,h1,h2⟩
  ·exact blk_ne hn (List.getElem?_eq_getElem hlt) ht hik (h1.symm.trans hg) e rfl
  ·rw[hg] at h1;simp at h1;subst h1;have:=hB g (mem_blk ht e);omega
 refine⟨by simp[h.len],fun i t' hi hti=>?_,fun i t' u hi hti hu=>?_,fun i t' u hti hu=>?_,fun i u hu=>?_,fun i t' u hti hu g hg q hq=>?_⟩
 ·rw[hset i h.len,if_neg (by omega)];exact h.late i t' (by omega) hti
 ·rw[hset i h.len] at hu;by_cases hik:i=k
  ·subst hik;simp at hu;subst hu;rw[ht] at hti;cases hti;rfl
  ·rw[if_neg hik] at hu;exact h.done i t' u (by omega) hti hu
 ·rw[hset i h.len] at hu;by_cases hik:i=k
  ·subst hik;simp at hu;subst hu;rw[ht] at hti;cases hti;rcases hl with hl|hl
   ·exact .inl hl.symm
   ·exact .inr ⟨g',rfl,by omega⟩
  ·rw[if_neg hik] at hu;exact h.lies i t' u hti hu
 ·rw[hset i h.len] at hu;by_cases hik:i=k
  ·subst hik;simp at hu;subst hu;exact hR
  ·rw[if_neg hik] at hu;exact(h.row i u hu).keep (hfar hik hu)
 ·rw[hset i h.len] at hu;by_cases hik:i=k
  ·subst hik;simp at hu;subst hu;rw[ht] at hti;cases hti;have e:g'=g:=by simpa using hg
   subst e;have hold:=h.late i t (Nat.le_refl _) ht;obtain⟨g0,hg0⟩:=(h.row i t hold).some (k:=q) hq;have hq2:q * sz<t.2.1 * sz:=Nat.mul_lt_mul_of_lt_of_le hq (Nat.le_refl _) hsz;exact(hc g0 hg0 (q * sz) hq2).trans (h.mark i t t ht hold g0 hg0 q hq)
  ·rw[if_neg hik] at hu;exact(World.cell?_of_block (a:=⟨g,q * sz,none⟩) (hfar hik hu g hg)).trans (h.mark i t' u hti hu g hg q hq)
end
theorem split_nodup {α:Type} (f v e:α→List Nat) (h:∀ x,(f x).Nodup→(v x++e x).Nodup) (hv:∀ x,∀ b ∈ v x++e x,b ∈ f x):∀ xs:List α,(xs.flatMap f).Nodup→(xs.flatMap v++xs.flatMap e).Nodup
 | [],_=>List.nodup_nil
 | x :: xs,hn=>by
  simp only[List.flatMap_cons] at hn ⊢;obtain⟨h1,h2,h3⟩:=List.nodup_append.1 hn;have k1:=h x h1;have k2:=split_nodup f v e h hv xs h2;obtain⟨a1,a2,a3⟩:=List.nodup_append.1 k1;obtain⟨b1,b2,b3⟩:=List.nodup_append.1 k2;have hin:∀ b,b ∈ xs.flatMap v∨b ∈ xs.flatMap e→b ∈ xs.flatMap f:=by
   rintro b (hb|hb) <;> obtain⟨y,hy,hb⟩:=List.mem_flatMap.1 hb
   ·exact List.mem_flatMap.2 ⟨y,hy,hv y b (List.mem_append_left _ hb)⟩
   ·exact List.mem_flatMap.2 ⟨y,hy,hv y b (List.mem_append_right _ hb)⟩
  have hvx:∀ b,b ∈ v x→b ∈ f x:=fun b hb=>hv x b (List.mem_append_left _ hb);have hex:∀ b,b ∈ e x→b ∈ f x:=fun b hb=>hv x b (List.mem_append_right _ hb);refine List.nodup_append.2 ⟨List.nodup_append.2 ⟨a1,b1,fun p hp q hq=>h3 p (hvx p hp) q (hin q (.inl hq))⟩,List.nodup_append.2 ⟨a2,b2,fun p hp q hq=>h3 p (hex p hp) q (hin q (.inr hq))⟩,fun p hp q hq=>?_⟩;rcases List.mem_append.1 hp with hp|hp <;> rcases List.mem_append.1 hq with hq|hq
  ·exact a3 p hp q hq
  ·exact h3 p (hvx p hp) q (hin q (.inr hq))
  ·exact fun e=>h3 q (hex q hq) p (hin p (.inl hp)) e.symm
  ·exact b3 p hp q hq
theorem split_mem {α:Type} (f v:α→List Nat) (hv:∀ x,∀ b ∈ v x,b ∈ f x) (xs:List α):∀ b ∈ xs.flatMap v,b ∈ xs.flatMap f:=fun b hb=>by
 obtain⟨y,hy,hb⟩:=List.mem_flatMap.1 hb;exact List.mem_flatMap.2 ⟨y,hy,hv y b hb⟩
def aB (a:ActG):List Nat:=(aE a).flatMap blk
def gVB (g:ChG):List Nat:=g.pvs.flatMap blk
def gEB (g:ChG):List Nat:=(gE g).flatMap blk
def kVB (k:KdG):List Nat:=(kV k).flatMap blk
def kEB (k:KdG):List Nat:=(kE k).flatMap blk
theorem aB_mem (a:ActG):∀ b ∈ aB a,b ∈ a.fp:=by
 intro b hb;unfold aB aE at hb;unfold ActG.fp;rw[List.flatMap_cons] at hb;simp only[List.mem_append] at hb ⊢;rcases hb with hb|hb
 ·exact .inl hb
 ·exact .inr (.inr hb)
theorem aB_nodup (a:ActG) (h:a.fp.Nodup):([]++aB a).Nodup:=by
 unfold aB aE;unfold ActG.fp at h;rw[List.flatMap_cons,List.nil_append];obtain⟨h1,h2,h3⟩:=List.nodup_append.1 h;obtain⟨h4,h5,h6⟩:=List.nodup_append.1 h2;exact List.nodup_append.2 ⟨h1,h5,fun p hp q hq=>h3 p hp q (List.mem_append_right _ hq)⟩
theorem gEB_eq (g:ChG):gEB g=blk g.guard++g.acts.flatMap aB:=by
 unfold gEB gE;rw[List.flatMap_cons,List.flatMap_assoc];rfl
theorem g_mem (g:ChG):∀ b ∈ gVB g++gEB g,b ∈ g.fp:=by
 intro b hb;rw[gEB_eq] at hb;unfold gVB at hb;unfold ChG.fp;simp only[List.mem_append] at hb ⊢;rcases hb with hb|hb|hb
 ·exact .inl (.inr hb)
 ·exact .inr (.inl hb)
 ·exact .inr (.inr (.inr (split_mem _ _ aB_mem g.acts b hb)))
theorem g_nodup (g:ChG) (h:g.fp.Nodup):(gVB g++gEB g).Nodup:=by
 rw[gEB_eq];unfold gVB;unfold ChG.fp at h;obtain⟨h1,h2,h3⟩:=List.nodup_append.1 h;obtain⟨h4,h5,h6⟩:=List.nodup_append.1 h2;obtain⟨h7,h8,h9⟩:=List.nodup_append.1 h5;have k:=(List.nodup_append.1 (split_nodup ActG.fp (fun _=>[]) aB aB_nodup aB_mem g.acts h8)).2.1;have km:=split_mem _ _ aB_mem g.acts;refine List.nodup_append.2 ⟨(List.nodup_append.1 h1).2.1,List.nodup_append.2 ⟨h4,k,fun p hp q hq=>h6 p hp q (List.mem_append_right _ (km q hq))⟩,fun p hp q hq=>h3 p (List.mem_append_right _ hp) q ?_⟩;simp only[List.mem_append] at hq ⊢;rcases hq with hq|hq
 ·exact .inl hq
 ·exact .inr (.inr (km q hq))
theorem kVB_eq (k:KdG):kVB k=k.chs.flatMap gVB:=by unfold kVB kV;rw[List.flatMap_assoc];rfl
theorem kEB_eq (k:KdG):kEB k=k.chs.flatMap gEB:=by unfold kEB kE;rw[List.flatMap_assoc];rfl
theorem k_mem (k:KdG):∀ b ∈ kVB k++kEB k,b ∈ k.fp:=by
 intro b hb;rw[kVB_eq,kEB_eq] at hb;unfold KdG.fp;rcases List.mem_append.1 hb with hb|hb
 ·exact List.mem_append_right _ (split_mem _ _ (fun g b hb=>g_mem g b (List.mem_append_left _ hb)) k.chs b hb)
 ·exact List.mem_append_right _ (split_mem _ _ (fun g b hb=>g_mem g b (List.mem_append_right _ hb)) k.chs b hb)
theorem k_nodup (k:KdG) (h:k.fp.Nodup):(kVB k++kEB k).Nodup:=by
 rw[kVB_eq,kEB_eq];unfold KdG.fp at h;exact split_nodup ChG.fp gVB gEB g_nodup g_mem k.chs (List.nodup_append.1 h).2.1
theorem ks_nodup (ks:List KdG) (h:(ks.flatMap KdG.fp).Nodup):((ks.flatMap kV).flatMap blk++(ks.flatMap kE).flatMap blk).Nodup∧∀ b ∈ (ks.flatMap kV).flatMap blk++(ks.flatMap kE).flatMap blk,b ∈ ks.flatMap KdG.fp:=by
 rw[List.flatMap_assoc,List.flatMap_assoc];refine⟨split_nodup KdG.fp kVB kEB k_nodup k_mem ks h,fun b hb=>?_⟩;rcases List.mem_append.1 hb with hb|hb
 ·exact split_mem KdG.fp kVB (fun k b hb=>k_mem k b (List.mem_append_left _ hb)) ks b hb
 ·exact split_mem KdG.fp kEB (fun k b hb=>k_mem k b (List.mem_append_right _ hb)) ks b hb
theorem flat_sum {α β γ:Type} (f g:α→List γ) (v:β→Nat):∀ (xs:List α) (ys:List β),xs.length=ys.length→(∀ (j:Nat) (t:α) (a:β),xs[j]?=some t→ys[j]?=some a→(f t).length+(g t).length=v a)→(xs.flatMap f).length+(xs.flatMap g).length=(ys.map v).sum
 | [],[],_,_=>rfl
 | x :: xs,[],h,_=>by simp at h
 | [],y :: ys,h,_=>by simp at h
 | x :: xs,y :: ys,h,hp=>by
  have h1:=hp 0 x y rfl rfl;have h2:=flat_sum f g v xs ys (by simpa using h) (fun j t a ht ha=>hp (j+1) t a (by simpa using ht) (by simpa using ha));simp only[List.flatMap_cons,List.length_append,List.map_cons,List.sum_cons];omega
theorem wpList_append_rowL {w w0:World} {T:TypeId} {sz:Nat} {ops:Array Oper} {rest:List Oper} {o:Oper} {act:Act} {Q:Exit→Act→World→Prop} (hgd:o.guard=none) (s x:Operand) (t:TypeId)
  (ho:o.op=.call { callee:=.builtin .append,args:=#[s,x],argTypes:=#[t,t] }) (i:TypeInfo) (z:Value) (bytes:Nat) (ht:Tryz.prog.underlying t=some (.slice T)) (hi:Tryz.prog.info? T=some i) (hz:i.zero=some z∧i.size=sz∧i.bytes=bytes)
  (hzs:z.cells.size=sz) (hsz:0<sz) (a:Option Addr) (n cap:Nat) (hs:act.eval s=.slice a n cap) (hR:RowC T sz w0 a n cap) (m c:Nat) (news:List Value) (t':TypeId) (fr:Nat × Nat) (hw:w=w0.alloc (.cells news.toArray t' fr))
  (hx:act.eval x=.slice (some ⟨w0.heap.size,0,none⟩) m c) (hl:news.length=m * sz) (hm:0<m) (h1:∀ u ∈ news,u.oneCell'=true) (hlen:n+m≤1000000) (hbb:bytes≤1000000) (F:List Nat) (wo:World) (hO:Out F wo w0) (hF:∀ g,a=some ⟨g,0,none⟩→g ∈ F∨wo.heap.size≤g)
  (h:∀ g' c' w',Out F wo w'→w0.heap.size≤w'.heap.size→(∀ b,b<w0.heap.size→a≠some ⟨b,0,none⟩→w'.heap[b]?=w0.heap[b]?)→RowC T sz w' (some ⟨g',0,none⟩) (n+m) c'→(a=some ⟨g',0,none⟩∨w0.heap.size≤g')→(∀ g,a=some ⟨g,0,none⟩→∀ q,q<n * sz→w'.cell? ⟨g',q,none⟩=w0.cell? ⟨g,q,none⟩)→wpList Tryz.prog ops Q rest (act.put o.dst (.slice (some ⟨g',0,none⟩) (n+m) c')) w') :
  wpList Tryz.prog ops Q (o :: rest) act w:=by
 subst hw;have hb0:Below w0.heap.size w0 (w0.alloc (.cells news.toArray t' fr)):=(Below.refl _ w0).alloc (Nat.le_refl _) _;have hR2:RowC T sz (w0.alloc (.cells news.toArray t' fr)) a n cap:=hR.keep (fun g hg=>hb0.block g (hR.lt g hg));obtain⟨d,hown⟩:=hR2.own 0 (fun _ _=>Nat.zero_le _);have hmul:(n+m) * bytes≤1000000 * 1000000:=Nat.mul_le_mul hlen hbb;have hob:∀ g,(Value.slice a n cap).ownBlock=some g→a=some ⟨g,0,none⟩:=by
  intro g hg;obtain⟨_,_,⟨rfl,_⟩|⟨g',cs,rfl,_⟩⟩:=hR
  ·cases hg
  ·cases hg;rfl
 refine wpList_append_lies _ hgd s x t ho 0 T i z sz bytes ht hi hz.1 hz.2.1 hz.2.2 hzs hsz _ n d hs hown _ m c news hx hl (new_cells w0 news t' fr) h1 hm (by unfold maxLen;omega) (by omega) (Nat.zero_le _) _ rfl fun g' c' w' hv hg hat _=>?_;have hz:=hg.size;rw[World.size_alloc] at hz;refine h g' c' w' ((hO.alloc _).grown hg (fun g hg=>hF g (hob g hg))) (by omega) (fun b hb hne=>?_) (RowC.of_own hv) ?_ (fun g hg q hq=>?_)
 ·refine(hg.block b (by rw[World.size_alloc];omega) (fun e=>hne (hob b e.symm))).trans ?_;exact hb0.block b hb
 ·rcases hat with hat|hat
  ·exact .inl (hob g' hat)
  ·right;rw[hat,World.size_alloc];omega
 ·subst hg;have hdl:d.length=n * sz:=hown.1;have hqd:q<d.length:=by omega
  have k1:=hown.cellAt q hq;have k2:=hv.cellAt q (by rw[Nat.add_mul];omega);rw[List.getElem?_append_left hqd] at k2;rw[k2,← k1];exact World.cell?_of_block (a:=⟨g,q,none⟩) (hb0.block g (hR.lt g rfl))
theorem wpList_gather2 {w w0:World} {T:TypeId} {ops:Array Oper} {rest:List Oper} {o:Oper} {act:Act} {Q:Exit→Act→World→Prop} (hgd:o.guard=none) (s x:Operand) (t:TypeId)
  (ho:o.op=.call { callee:=.builtin .append,args:=#[s,x],argTypes:=#[t,t] }) (i:TypeInfo) (z:Value) (ht:Tryz.prog.underlying t=some (.slice T)) (hi:Tryz.prog.info? T=some i) (hz:i.zero=some z∧i.size=1∧i.bytes=24)
  (hzs:z.cells.size=1) (base:Nat) (v:Value) (ts:List Trip) (hs:act.eval s=v) (hG:Gat T base w0 v ts) (u:Trip) (t':TypeId) (fr:Nat × Nat) (m c:Nat) (hm:m=1) (hw:w=w0.alloc (.cells #[slv u] t' fr))
  (hx:act.eval x=.slice (some ⟨w0.heap.size,0,none⟩) m c) (hlen:ts.length≤900000) (hb:base≤w0.heap.size)
  (h:∀ g' c' w',Gat T base w' (.slice (some ⟨g',0,none⟩) (ts.length+1) c') (ts++[u])→Below base w0 w'→w0.heap.size≤w'.heap.size→(∀ b,b<w0.heap.size→v.ownBlock≠some b→w'.heap[b]?=w0.heap[b]?)→(v.ownBlock=some g'∨w0.heap.size≤g')→wpList Tryz.prog ops Q rest (act.put o.dst (.slice (some ⟨g',0,none⟩) (ts.length+1) c')) w'):wpList Tryz.prog ops Q (o :: rest) act w:=by
 subst hw hm;have hb0:Below w0.heap.size w0 (w0.alloc (.cells #[slv u] t' fr)):=(Below.refl _ w0).alloc (Nat.le_refl _) _;have hG2:(w0.alloc (.cells #[slv u] t' fr)).ownsRow base T 1 v ts.length (ts.map slv):=own_blk8 hG (fun g hg=>hb0.block g (hG.lt g hg).2);refine wpList_append_lies _ hgd s x t ho base T i z 1 24 ht hi hz.1 hz.2.1 hz.2.2 hzs (by decide) v ts.length (ts.map slv) hs hG2 _ 1 c [slv u] hx rfl (new_cells w0 [slv u] t' fr) (fun y hy=>by simp at hy;subst hy;rfl) (by decide) (by unfold maxLen;omega) (by omega) (Nat.le_trans hb hb0.size) _ rfl fun g' c' w' hv hg hat _=>?_;have hz:=hg.size;rw[World.size_alloc] at hz;refine h g' c' w' ?_ ((hb0.mono hb).grown hg (Nat.le_trans hb hb0.size) (fun g hg=>(hG.lt g hg).1)) (by omega) (fun b hb1 hne=>?_) ?_
 ·unfold Gat;rw[List.length_append,List.map_append];exact hv
 ·refine(hg.block b (by rw[World.size_alloc];omega) (fun e=>hne e.symm)).trans (hb0.block b hb1)
 ·rcases hat with hat|hat
  ·exact .inl hat
  ·right;rw[hat,World.size_alloc];omega
structure GG (B:Nat) (w:World) (v e:Value) (vs es:List Trip):Prop where
 gv:Gat 93 B w v vs
 ge:Gat 39 B w e es
 ne:∀ g,v.ownBlock=some g→e.ownBlock≠some g
structure G3 (B C:Nat) (cs:List Value) (w:World) (v e:Value) (vs es:List Trip):Prop where
 gg:GG B w v e vs es
 bx:Bx w C 44 cs
 nv:v.ownBlock≠some C
 nE:e.ownBlock≠some C
section
variable {B C:Nat} {cs:List Value} {w w':World} {v e:Value} {vs es:List Trip}
theorem GG.nil (B:Nat) (w:World):GG B w (.slice none 0 0) (.slice none 0 0) [] []:=⟨Gat.nil _ _ _,Gat.nil _ _ _,fun g h=>by cases h⟩
theorem GG.box (h:GG B w v e vs es) (hw:w'=w.alloc (.cells cs.toArray 44)):G3 B w.heap.size cs w' v e vs es:=by
 subst hw;have hb:Below w.heap.size w (w.alloc (.cells cs.toArray 44)):=(Below.refl _ w).alloc (Nat.le_refl _) _;refine⟨⟨own_blk8 h.gv (fun g hg=>hb.block g (World.ownsRow.lt h.gv g hg).2),own_blk8 h.ge (fun g hg=>hb.block g (World.ownsRow.lt h.ge g hg).2),h.ne⟩,Bx.new w _ _,fun e=>?_,fun e=>?_⟩
 ·have:=(World.ownsRow.lt h.gv _ e).2;omega
 ·have:=(World.ownsRow.lt h.ge _ e).2;omega
theorem G3.pushE (h:G3 B C cs w v e vs es) {g' n c':Nat} {u:Trip} (hG:Gat 39 B w' (.slice (some ⟨g',0,none⟩) n c') (es++[u])) (hk:∀ b,b<w.heap.size→e.ownBlock≠some b→w'.heap[b]?=w.heap[b]?) (hl:e.ownBlock=some g'∨w.heap.size≤g'):G3 B C cs w' v (.slice (some ⟨g',0,none⟩) n c') vs (es++[u]):=by
 refine⟨⟨own_blk8 h.gg.gv (fun g hg=>hk g (World.ownsRow.lt h.gg.gv g hg).2 (h.gg.ne g hg)),hG,fun g hg he=>?_⟩,(hk C h.bx.lt h.nE).trans h.bx,h.nv,fun he=>?_⟩
 ·have e1:g'=g:=Option.some.inj he;subst e1;have:=(World.ownsRow.lt h.gg.gv _ hg).2;rcases hl with hl|hl
  ·exact h.gg.ne _ hg hl
  ·omega
 ·have e1:g'=C:=Option.some.inj he;subst e1;have:=h.bx.lt;rcases hl with hl|hl
  ·exact h.nE hl
  ·omega
theorem G3.pushV (h:G3 B C cs w v e vs es) {g' n c':Nat} {u:Trip} (hG:Gat 93 B w' (.slice (some ⟨g',0,none⟩) n c') (vs++[u])) (hk:∀ b,b<w.heap.size→v.ownBlock≠some b→w'.heap[b]?=w.heap[b]?) (hl:v.ownBlock=some g'∨w.heap.size≤g'):G3 B C cs w' (.slice (some ⟨g',0,none⟩) n c') e (vs++[u]) es:=by
 refine⟨⟨hG,own_blk8 h.gg.ge (fun g hg=>hk g (World.ownsRow.lt h.gg.ge g hg).2 (fun e1=>h.gg.ne g e1 hg)),fun g hg he=>?_⟩,(hk C h.bx.lt h.nv).trans h.bx,fun he=>?_,h.nE⟩
 ·have e1:g'=g:=Option.some.inj hg;subst e1;have:=(World.ownsRow.lt h.gg.ge _ he).2;rcases hl with hl|hl
  ·exact h.gg.ne _ hl he
  ·omega
 ·have e1:g'=C:=Option.some.inj he;subst e1;have:=h.bx.lt;rcases hl with hl|hl
  ·exact h.nv hl
  ·omega
end
structure ActW (w:World) (t:ActG):Prop where
 n:t.ats.length=t.row.2.1
 l:t.row.2.1≤900000
 s:0<t.row.2.1→∃ g,t.row.1=some ⟨g,0,none⟩
 c:∀ g,t.row.1=some ⟨g,0,none⟩→g<w.heap.size∧∀ (j:Nat) (u:Trip),t.ats[j]?=some u→w.cell? ⟨g,j,none⟩=some (slv u)
structure ChW (w:World) (t:ChG):Prop where
 np:t.pvs.length=t.prow.2.1
 lp:t.prow.2.1≤900000
 sp:0<t.prow.2.1→∃ g,t.prow.1=some ⟨g,0,none⟩
 cp:∀ g,t.prow.1=some ⟨g,0,none⟩→g<w.heap.size∧∀ (j:Nat) (u:Trip),t.pvs[j]?=some u→w.cell? ⟨g,j * 2+1,none⟩=some (slv u)
 nb:t.acts.length=t.brow.2.1
 lb:t.brow.2.1≤900000
 sb:0<t.brow.2.1→∃ g,t.brow.1=some ⟨g,0,none⟩
 cb:∀ g,t.brow.1=some ⟨g,0,none⟩→g<w.heap.size∧∀ (j:Nat) (a:ActG),t.acts[j]?=some a→w.cell? ⟨g,j * 5+1,none⟩=some (slv a.tgt)∧w.cell? ⟨g,j * 5+4,none⟩=some (slv a.row)∧ActW w a
structure KdW (w:World) (t:KdG):Prop where
 n:t.chs.length=t.row.2.1
 l:t.row.2.1≤900000
 s:0<t.row.2.1→∃ g,t.row.1=some ⟨g,0,none⟩
 c:∀ g,t.row.1=some ⟨g,0,none⟩→g<w.heap.size∧∀ (j:Nat) (u:ChG),t.chs[j]?=some u→(∃ nm,w.cell? ⟨g,j * 4,none⟩=some (.string nm))∧w.cell? ⟨g,j * 4+1,none⟩=some (slv u.prow)∧w.cell? ⟨g,j * 4+2,none⟩=some (slv u.guard)∧w.cell? ⟨g,j * 4+3,none⟩=some (slv u.brow)∧ChW w u
theorem act_w {w:World} {t:ActG} {c:List Value} {x:ActE} (h:t.At w c x) (hf:fewA x):ActW w t :=
 ⟨by rw[h.nats,h.nrow],by rw[h.nrow];exact hf.2.1,fun hp=>h.rrow.some hp,fun g hg=>⟨h.rrow.lt g hg,fun j u hu=>h.cell g hg j u hu⟩⟩
theorem ch_w {w:World} {t:ChG} {c:List Value} {x:ChordE} (h:t.At w c x) (hf:fewC x):ChW w t :=
 ⟨by rw[h.npvs,h.nprow],by rw[h.nprow];exact hf.2.1,fun hp=>h.rprow.some hp,fun g hg=>⟨h.rprow.lt g hg,fun j u hu=>h.pcell g hg j u hu⟩,
  by rw[h.nacts,h.nbrow],by rw[h.nbrow];exact hf.2.2.2.1,fun hp=>h.rbrow.some hp,fun g hg=>⟨h.rbrow.lt g hg,fun j a ha=>by
  have hj:j<x.body.length:=by rw[← h.nacts];exact(List.getElem?_eq_some_iff.1 ha).1
  obtain⟨c1,_,h2,h3⟩:=h.acell g hg j a x.body[j] ha (List.getElem?_eq_getElem hj);exact⟨h2 1 _ h3.c1,h2 4 _ h3.c4,act_w h3 (hf.2.2.2.2 _ (List.getElem_mem hj))⟩⟩⟩
theorem kd_w {w:World} {t:KdG} {c:List Value} {x:KindE} (h:t.At w c x) (hl:x.chords.length≤900000) (hf:∀ c ∈ x.chords,fewC c):KdW w t :=
 ⟨by rw[h.nchs,h.nrow],by rw[h.nrow];exact hl,fun hp=>h.rrow.some hp,fun g hg=>⟨h.rrow.lt g hg,fun j u hu=>by
  have hj:j<x.chords.length:=by rw[← h.nchs];exact(List.getElem?_eq_some_iff.1 hu).1
  obtain⟨c1,_,h2,h3⟩:=h.ccell g hg j u x.chords[j] hu (List.getElem?_eq_getElem hj);have hc:=h3.cells;subst hc;exact⟨⟨_,h2 0 _ rfl⟩,h2 1 _ rfl,h2 2 _ rfl,h2 3 _ rfl,ch_w h3 (hf _ (List.getElem_mem hj))⟩⟩⟩
theorem gV_rows {w:World} {t:ChG} {c:List Value} {x:ChordE} (h:t.At w c x) (hf:fewC x):∀ u ∈ t.pvs,RowC 9 1 w u.1 u.2.1 u.2.2∧u.2.1≤900000:=fun u hu=>by
 obtain⟨j,hj⟩:=List.mem_iff_getElem?.1 hu;have hl:j<x.parts.length:=by rw[← h.npvs];exact(List.getElem?_eq_some_iff.1 hj).1
 have h1:=h.rpvs j u x.parts[j] hj (List.getElem?_eq_getElem hl);exact⟨h1.2,by rw[h1.1];exact hf.2.2.1 _ (List.getElem_mem hl)⟩
theorem aE_rows {w:World} {t:ActG} {c:List Value} {x:ActE} (h:t.At w c x) (hf:fewA x):∀ u ∈ aE t,RowC 109 9 w u.1 u.2.1 u.2.2∧u.2.1≤900000:=fun u hu=>by
 rcases List.mem_cons.1 hu with rfl|hu
 ·exact⟨h.rto,by rw[h.nto];exact hf.1⟩
 ·obtain⟨j,hj⟩:=List.mem_iff_getElem?.1 hu;have hl:j<x.args.length:=by rw[← h.nats];exact(List.getElem?_eq_some_iff.1 hj).1
  have h1:=h.rats j u x.args[j] hj (List.getElem?_eq_getElem hl);exact⟨h1.2,by rw[h1.1];exact hf.2.2 _ (List.getElem_mem hl)⟩
theorem gE_rows {w:World} {t:ChG} {c:List Value} {x:ChordE} (h:t.At w c x) (hf:fewC x):∀ u ∈ gE t,RowC 109 9 w u.1 u.2.1 u.2.2∧u.2.1≤900000:=fun u hu=>by
 rcases List.mem_cons.1 hu with rfl|hu
 ·exact⟨h.rguard,by rw[h.nguard];exact hf.1⟩
 ·obtain⟨a,ha,hu⟩:=List.mem_flatMap.1 hu;obtain⟨j,hj⟩:=List.mem_iff_getElem?.1 ha;have hl:j<x.body.length:=by rw[← h.nacts];exact(List.getElem?_eq_some_iff.1 hj).1
  obtain⟨b,hb⟩:=row_some h.rbrow (by rw[h.nbrow];omega);obtain⟨c1,_,_,h3⟩:=h.acell b hb j a x.body[j] hj (List.getElem?_eq_getElem hl);exact aE_rows h3 (hf.2.2.2.2 _ (List.getElem_mem hl)) u hu
theorem k_chord {w:World} {t:KdG} {c:List Value} {x:KindE} (h:t.At w c x) (hf:∀ c ∈ x.chords,fewC c):∀ g ∈ t.chs,∃ c1 y,g.At w c1 y∧fewC y:=fun g hg=>by
 obtain⟨j,hj⟩:=List.mem_iff_getElem?.1 hg;have hl:j<x.chords.length:=by rw[← h.nchs];exact(List.getElem?_eq_some_iff.1 hj).1
 obtain⟨b,hb⟩:=row_some h.rrow (by rw[h.nrow];omega);obtain⟨c1,_,_,h3⟩:=h.ccell b hb j g x.chords[j] hj (List.getElem?_eq_getElem hl);exact⟨c1,_,h3,hf _ (List.getElem_mem hl)⟩
theorem kV_rows {w:World} {t:KdG} {c:List Value} {x:KindE} (h:t.At w c x) (hf:∀ c ∈ x.chords,fewC c):∀ u ∈ kV t,RowC 9 1 w u.1 u.2.1 u.2.2∧u.2.1≤900000:=fun u hu=>by
 obtain⟨g,hg,hu⟩:=List.mem_flatMap.1 hu;obtain⟨c1,y,h1,h2⟩:=k_chord h hf g hg;exact gV_rows h1 h2 u hu
theorem kE_rows {w:World} {t:KdG} {c:List Value} {x:KindE} (h:t.At w c x) (hf:∀ c ∈ x.chords,fewC c):∀ u ∈ kE t,RowC 109 9 w u.1 u.2.1 u.2.2∧u.2.1≤900000:=fun u hu=>by
 obtain⟨g,hg,hu⟩:=List.mem_flatMap.1 hu;obtain⟨c1,y,h1,h2⟩:=k_chord h hf g hg;exact gE_rows h1 h2 u hu
theorem gat_n {T:TypeId} {base n c:Nat} {a:Option Addr} {w:World} {ts:List Trip} (h:Gat T base w (.slice a n c) ts):n=ts.length:=by
 rcases h.2 with ⟨h1,h0⟩|⟨g,cap,cur,h1,_⟩
 ·cases h1;exact h0.symm
 ·cases h1;rfl
theorem Gat.rowC {T:TypeId} {base n c:Nat} {a:Option Addr} {w:World} {ts:List Trip} (h:Gat T base w (.slice a n c) ts):RowC T 1 w a n c:=by
 have e:=gat_n h;subst e;exact RowC.of_own h
theorem Gat.cell {T:TypeId} {base g n c:Nat} {w:World} {ts:List Trip} (h:Gat T base w (.slice (some ⟨g,0,none⟩) n c) ts) {k:Nat} {t:Trip} (ht:ts[k]?=some t):w.cell? ⟨g,k,none⟩=some (slv t):=by
 have hn:n=ts.length:=gat_n h;unfold Gat at h;subst hn;rw[h.cellAt k (by rw[Nat.mul_one];exact(List.getElem?_eq_some_iff.1 ht).1),List.getElem?_map,ht];rfl
theorem Gat.fz {T:TypeId} {base g n c:Nat} {w:World} {ts:List Trip} (h:Gat T base w (.slice (some ⟨g,0,none⟩) n c) ts) (k:Nat):w.frozen? ⟨g,k,none⟩=false:=by
 have hn:n=ts.length:=gat_n h;unfold Gat at h;subst hn;exact h.frozenAt k
theorem Gat.set {T:TypeId} {base g n c:Nat} {w:World} {ts:List Trip} (h:Gat T base w (.slice (some ⟨g,0,none⟩) n c) ts) (k:Nat) (t:Trip):Gat T base (w.setCell ⟨g,k,none⟩ (slv t)) (.slice (some ⟨g,0,none⟩) n c) (ts.set k t):=by
 have hn:n=ts.length:=gat_n h;unfold Gat at h ⊢;subst hn;rw[List.length_set,List.map_set];exact(h.stored k (slv t)).1
theorem Gat.keep {T:TypeId} {base:Nat} {w w':World} {v:Value} {ts:List Trip} (h:Gat T base w v ts) (hs:∀ g,v.ownBlock=some g→w'.heap[g]?=w.heap[g]?):Gat T base w' v ts:=own_blk8 h hs
theorem Gat.lt {T:TypeId} {base g n c:Nat} {w:World} {ts:List Trip} (h:Gat T base w (.slice (some ⟨g,0,none⟩) n c) ts):base≤g∧g<w.heap.size:=World.ownsRow.lt h g rfl
theorem Gat.some {T:TypeId} {base n c k:Nat} {a:Option Addr} {w:World} {ts:List Trip} (h:Gat T base w (.slice a n c) ts) (hk:k<n):∃ g,a=.some ⟨g,0,none⟩:=h.rowC.some hk
theorem Gat.len {T:TypeId} {base n c:Nat} {a:Option Addr} {w:World} {ts:List Trip} (h:Gat T base w (.slice a n c) ts):n=ts.length:=gat_n h
theorem Gat.inv {T:TypeId} {base n c:Nat} {a:Option Addr} {w:World} {ts:List Trip} (h:Gat T base w (.slice a n c) ts):∀ b ∈ (Value.slice a n c).ownBlock.toList,a=.some ⟨b,0,none⟩:=fun b hb=>by
 obtain⟨_,_,⟨h0,_⟩|⟨g,cs,h0,_⟩⟩:=h.rowC
 ·subst h0;simp[Value.ownBlock] at hb
 ·subst h0;simp[Value.ownBlock] at hb;rw[hb]
theorem Gat.over {T:TypeId} {base:Nat} {G:List Nat} {v:Value} {w w':World} {ts:List Trip} (h:Gat T base w v ts) (ho:Out G w w') (hd:∀ g ∈ v.ownBlock.toList,g ∉ G):Gat T base w' v ts:=h.keep (fun g hg=>ho.block g (World.ownsRow.lt h g hg).2 (hd g (by rw[hg];simp)))
theorem Gon.over {T:TypeId} {sz k B:Nat} {G:List Nat} {m:Nat→Nat→Value} {w w':World} {ts us:List Trip} (h:Gon T sz m B w ts us k) (ho:Out G w w') (hd:∀ g,(g ∈ ts.flatMap blk∨B≤g)→g ∉ G):Gon T sz m B w' ts us k:=h.keep (fun g hg hlt=>ho.block g hlt (hd g hg))
structure Sp (P lo:Nat) (F r:List Nat):Prop where
 f:∀ b ∈ F,b<lo
 r:∀ b ∈ r,lo≤b∧b<P
 le:lo≤P
theorem Sp.gon {P lo:Nat} {F r G s:List Nat} (h:Sp P lo F r) (k:Sp P lo G s) (hd:∀ b ∈ F,b ∉ G):∀ g,(g ∈ F∨P≤g)→g ∉ G++s:=fun g hg hm=>by
 have:=h.le;rcases List.mem_append.1 hm with hm|hm <;> rcases hg with hg|hg
 ·exact hd g hg hm
 ·have:=k.f g hm;omega
 ·have:=h.f g hg;have:=k.r g hm;omega
 ·have:=k.r g hm;omega
theorem Sp.gat {P lo:Nat} {F r G s:List Nat} (h:Sp P lo F r) (k:Sp P lo G s) (hd:∀ b ∈ r,b ∉ s):∀ g ∈ r,g ∉ G++s:=fun g hg hm=>by
 rcases List.mem_append.1 hm with hm|hm
 ·have:=h.r g hg;have:=k.f g hm;omega
 ·exact hd g hg hm
open Lib(hid)
set_option maxRecDepth 1000000
set_option maxHeartbeats 8000000
def mS (i j:Nat):Value:=.string ⟨#[UInt8.ofNat (97+i % 26),UInt8.ofNat (97+i / 26 % 26),UInt8.ofNat (97+j)]⟩
theorem u8_wrap (n:Nat):IntKind.u8.wrap (97+(n:Int))=((UInt8.ofNat (97+n)).toNat:Int):=by
 rw[IntKind.wrap_u8,UInt8.toNat_ofNat'];omega
theorem str3 (w:World) (a b c:UInt8):(convert 22 9 (.slice (some ⟨w.heap.size,0,none⟩) 3 3)).run Tryz.prog (w.alloc (.cells #[.int .u8 (a.toNat:Int),.int .u8 (b.toNat:Int),.int .u8 (c.toNat:Int)] 5)).drew=.ok (.string ⟨#[a,b,c]⟩) (w.alloc (.cells #[.int .u8 (a.toNat:Int),.int .u8 (b.toNat:Int),.int .u8 (c.toNat:Int)] 5)).drew :=
 run_convert_bytes_back _ _ _ 5 ⟨w.heap.size,0,none⟩ 3 [a,b,c] Tryz.underlying22 Tryz.underlying5 Tryz.underlying9 (fun j hj=>by
  refine new_cells w [.int .u8 (a.toNat:Int),.int .u8 (b.toNat:Int),.int .u8 (c.toNat:Int)] _ _ j _ ?_
  match j,hj with
  | 0,_=>rfl
  | 1,_=>rfl
  | 2,_=>rfl)
def regOf (n:Nat):Code→Option Code
 | .region m o d=>if m=n then some (.region m o d) else none
 | .seq a b=>match regOf n a with
  | some c=>some c
  | none=>regOf n b
 | .loop c=>regOf n c
 | .block _ c=>regOf n c
 | .scope c=>regOf n c
 | .cond _ a b=>match regOf n a with
  | some c=>some c
  | none=>regOf n b
 | _=>none
def QF (K:Act→World→Prop):Exit→Act→World→Prop:=fun e a w=>match e with
 | .normal=>K a w
 | _=>False
noncomputable def reg41:Code:=(Tryz.f25.body.bind (regOf 41)).getD .skip
noncomputable def reg75:Code:=(Tryz.f25.body.bind (regOf 75)).getD .skip
theorem reg41_on {c0 c1 c2 c3 c5 c6 c7 c8 c9 c10 c11 c12 c13 c14 c17 c18 c19 c20 c21 c22 c23 c24 c25 c26 c27 c28 c29 c30 c31 c32 c33 c34 c35 c36 c37 c38 c39 c40 c41 c42 c43 c44 c45 c46 c47 c48 c49 c50 c51 c52 c53 c54 c55 c56 c57 c58 c59 c60 c61 c62 c63 c64 c65 c66 c67 c68 c69 c70 c71 c72 c73 c74 c75 c76 c77 c78 c79 c80 c81 c82 c83 c84 c85 c86 c87 c88 c89 c90 c91 c92 c93 c94 c95 c96 c97 c98 c99 c100 c101 c102 c103 c104 c105 c106 c107 c108 c109 c110 c111 c112 c113 c114 c115 c116 c117 c118 c119 c120 c121 c122 c123 c124 c125 c126 c127 c128 c129 c130 c131 c132 c133 c134 c135 c136 c137 c138 c139 c140 c141 c142 c143 c144 c145 c146 c147 c148 c149 c150 c151 c152 c153 c154 c155 c156 c157 c158 c159 c160 c161 c162 c163 c164 c165 c166 c167 c168 c169 c170 c171 c172 c173 c194 c195 c196 c197 c198 c199 c200 c201 c202 c203 c204 c205 c206 c207 c208 c209 c210 c211 c212 c213 c214 c215 c216 c217 c218 c219 c220 c221 c222 c223 c224 c225 c226 c227 c228 c229 c230 c231 c232 c233 c234 c235 c236 c237 c238 c239 c240 c241 c242 c243 c244 c245 c246 c247 c248 c249 c250 c251 c252 c253 c254 c255 c256 c257 c258 c259 c260 c261 c262 c263 c264 c265 c266 c267 c268 c269 c270 c271 c272 c273 c274 c275 c276 c277 c278 c279 c280 c281 c282 c283 c284 c285 c286 c287 c288 c289 c290 c291 c292 c293 c294 c295 c296 c297 c298 c299 c300 c301 c302 c303 c304 c305 c306 c307 c308 c309 c310 c311 c312 c313 c314 c315 c316 c317 c318 c319 c320 c321 c322 c323 c324 c325 c326 c327 c328 c329 c330 c331 c332 c333 c334 c335 c336 c337 c338 c339 c340 c341 c342 c343 c344 c345 c346 c347 c348 c349 c350 c351 c352 c353 c354 c355 c356 c357 c358 c359 c360 c361 c174 c175 c176 c177 c178 c179 c180 c181 c182 c183 c184 c185 c186 c187 c188 c189 c190 c191 c192 c193:Value} {Q:Exit→Act→World→Prop} {wr:World} (gK N cv k j g t2 t3:Nat) (u:Value) (hlt:k<N) (hltj:j<t2) (hlb:N≤900000) (ht2:t2≤900000) (b3:wr.cell? ⟨gK,k,none⟩=some (.slice (some ⟨g,0,none⟩) t2 t3)) (q:wr.cell? ⟨g,j,none⟩=some u) (f:wr.frozen? ⟨g,j,none⟩=false)
  (hQ:∀ (u174 u175 u176 u177 u178 u179 u180 u181 u182 u183 u184 u185 u186 u187 u188 u189 u190 u191 u192 u193:Value) (W2:World),Below (wr.setCell ⟨g,j,none⟩ (mS k j)).heap.size (wr.setCell ⟨g,j,none⟩ (mS k j)) W2→Q .normal ⟨#[c0,c1,c2,c3,.slice (some ⟨gK,0,none⟩) N cv,c5,c6,c7,c8,c9,c10,c11,c12,c13,c14,.int .i64 (k:Int),.int .i64 (j:Int),c17,c18,c19,c20,c21,c22,c23,c24,c25,c26,c27,c28,c29,c30,c31,c32,c33,c34,c35,c36,c37,c38,c39,c40,c41,c42,c43,c44,c45,c46,c47,c48,c49,c50,c51,c52,c53,c54,c55,c56,c57,c58,c59,c60,c61,c62,c63,c64,c65,c66,c67,c68,c69,c70,c71,c72,c73,c74,c75,c76,c77,c78,c79,c80,c81,c82,c83,c84,c85,c86,c87,c88,c89,c90,c91,c92,c93,c94,c95,c96,c97,c98,c99,c100,c101,c102,c103,c104,c105,c106,c107,c108,c109,c110,c111,c112,c113,c114,c115,c116,c117,c118,c119,c120,c121,c122,c123,c124,c125,c126,c127,c128,c129,c130,c131,c132,c133,c134,c135,c136,c137,c138,c139,c140,c141,c142,c143,c144,c145,c146,c147,c148,c149,c150,c151,c152,c153,c154,c155,c156,c157,c158,c159,c160,c161,c162,c163,c164,c165,c166,c167,c168,c169,c170,c171,c172,c173,u174,u175,u176,u177,u178,u179,u180,u181,u182,u183,u184,u185,u186,u187,u188,u189,u190,u191,u192,u193,c194,c195,c196,c197,c198,c199,c200,c201,c202,c203,c204,c205,c206,c207,c208,c209,c210,c211,c212,c213,c214,c215,c216,c217,c218,c219,c220,c221,c222,c223,c224,c225,c226,c227,c228,c229,c230,c231,c232,c233,c234,c235,c236,c237,c238,c239,c240,c241,c242,c243,c244,c245,c246,c247,c248,c249,c250,c251,c252,c253,c254,c255,c256,c257,c258,c259,c260,c261,c262,c263,c264,c265,c266,c267,c268,c269,c270,c271,c272,c273,c274,c275,c276,c277,c278,c279,c280,c281,c282,c283,c284,c285,c286,c287,c288,c289,c290,c291,c292,c293,c294,c295,c296,c297,c298,c299,c300,c301,c302,c303,c304,c305,c306,c307,c308,c309,c310,c311,c312,c313,c314,c315,c316,c317,c318,c319,c320,c321,c322,c323,c324,c325,c326,c327,c328,c329,c330,c331,c332,c333,c334,c335,c336,c337,c338,c339,c340,c341,c342,c343,c344,c345,c346,c347,c348,c349,c350,c351,c352,c353,c354,c355,c356,c357,c358,c359,c360,c361],[]⟩ W2) :
  Code.wp Tryz.prog reg41 Q ⟨#[c0,c1,c2,c3,.slice (some ⟨gK,0,none⟩) N cv,c5,c6,c7,c8,c9,c10,c11,c12,c13,c14,.int .i64 (k:Int),.int .i64 (j:Int),c17,c18,c19,c20,c21,c22,c23,c24,c25,c26,c27,c28,c29,c30,c31,c32,c33,c34,c35,c36,c37,c38,c39,c40,c41,c42,c43,c44,c45,c46,c47,c48,c49,c50,c51,c52,c53,c54,c55,c56,c57,c58,c59,c60,c61,c62,c63,c64,c65,c66,c67,c68,c69,c70,c71,c72,c73,c74,c75,c76,c77,c78,c79,c80,c81,c82,c83,c84,c85,c86,c87,c88,c89,c90,c91,c92,c93,c94,c95,c96,c97,c98,c99,c100,c101,c102,c103,c104,c105,c106,c107,c108,c109,c110,c111,c112,c113,c114,c115,c116,c117,c118,c119,c120,c121,c122,c123,c124,c125,c126,c127,c128,c129,c130,c131,c132,c133,c134,c135,c136,c137,c138,c139,c140,c141,c142,c143,c144,c145,c146,c147,c148,c149,c150,c151,c152,c153,c154,c155,c156,c157,c158,c159,c160,c161,c162,c163,c164,c165,c166,c167,c168,c169,c170,c171,c172,c173,c174,c175,c176,c177,c178,c179,c180,c181,c182,c183,c184,c185,c186,c187,c188,c189,c190,c191,c192,c193,c194,c195,c196,c197,c198,c199,c200,c201,c202,c203,c204,c205,c206,c207,c208,c209,c210,c211,c212,c213,c214,c215,c216,c217,c218,c219,c220,c221,c222,c223,c224,c225,c226,c227,c228,c229,c230,c231,c232,c233,c234,c235,c236,c237,c238,c239,c240,c241,c242,c243,c244,c245,c246,c247,c248,c249,c250,c251,c252,c253,c254,c255,c256,c257,c258,c259,c260,c261,c262,c263,c264,c265,c266,c267,c268,c269,c270,c271,c272,c273,c274,c275,c276,c277,c278,c279,c280,c281,c282,c283,c284,c285,c286,c287,c288,c289,c290,c291,c292,c293,c294,c295,c296,c297,c298,c299,c300,c301,c302,c303,c304,c305,c306,c307,c308,c309,c310,c311,c312,c313,c314,c315,c316,c317,c318,c319,c320,c321,c322,c323,c324,c325,c326,c327,c328,c329,c330,c331,c332,c333,c334,c335,c336,c337,c338,c339,c340,c341,c342,c343,c344,c345,c346,c347,c348,c349,c350,c351,c352,c353,c354,c355,c356,c357,c358,c359,c360,c361],[]⟩ wr:=by
 refine Code.wp_mono (Q:=QF (fun a w=>Q .normal a w)) (fun e a w h=>by cases e <;> first|exact h|exact h.elim) ?_;have HQ:=hid hQ;clear hQ;obtain⟨K,hK⟩:∃ K:Act→World→Prop,K=fun a w=>Q .normal a w:=⟨_,rfl⟩
 have HQ2:=hid (show ∀ (u174 u175 u176 u177 u178 u179 u180 u181 u182 u183 u184 u185 u186 u187 u188 u189 u190 u191 u192 u193:Value) (W2:World),Below (wr.setCell ⟨g,j,none⟩ (mS k j)).heap.size (wr.setCell ⟨g,j,none⟩ (mS k j)) W2→K ⟨#[c0,c1,c2,c3,.slice (some ⟨gK,0,none⟩) N cv,c5,c6,c7,c8,c9,c10,c11,c12,c13,c14,.int .i64 (k:Int),.int .i64 (j:Int),c17,c18,c19,c20,c21,c22,c23,c24,c25,c26,c27,c28,c29,c30,c31,c32,c33,c34,c35,c36,c37,c38,c39,c40,c41,c42,c43,c44,c45,c46,c47,c48,c49,c50,c51,c52,c53,c54,c55,c56,c57,c58,c59,c60,c61,c62,c63,c64,c65,c66,c67,c68,c69,c70,c71,c72,c73,c74,c75,c76,c77,c78,c79,c80,c81,c82,c83,c84,c85,c86,c87,c88,c89,c90,c91,c92,c93,c94,c95,c96,c97,c98,c99,c100,c101,c102,c103,c104,c105,c106,c107,c108,c109,c110,c111,c112,c113,c114,c115,c116,c117,c118,c119,c120,c121,c122,c123,c124,c125,c126,c127,c128,c129,c130,c131,c132,c133,c134,c135,c136,c137,c138,c139,c140,c141,c142,c143,c144,c145,c146,c147,c148,c149,c150,c151,c152,c153,c154,c155,c156,c157,c158,c159,c160,c161,c162,c163,c164,c165,c166,c167,c168,c169,c170,c171,c172,c173,u174,u175,u176,u177,u178,u179,u180,u181,u182,u183,u184,u185,u186,u187,u188,u189,u190,u191,u192,u193,c194,c195,c196,c197,c198,c199,c200,c201,c202,c203,c204,c205,c206,c207,c208,c209,c210,c211,c212,c213,c214,c215,c216,c217,c218,c219,c220,c221,c222,c223,c224,c225,c226,c227,c228,c229,c230,c231,c232,c233,c234,c235,c236,c237,c238,c239,c240,c241,c242,c243,c244,c245,c246,c247,c248,c249,c250,c251,c252,c253,c254,c255,c256,c257,c258,c259,c260,c261,c262,c263,c264,c265,c266,c267,c268,c269,c270,c271,c272,c273,c274,c275,c276,c277,c278,c279,c280,c281,c282,c283,c284,c285,c286,c287,c288,c289,c290,c291,c292,c293,c294,c295,c296,c297,c298,c299,c300,c301,c302,c303,c304,c305,c306,c307,c308,c309,c310,c311,c312,c313,c314,c315,c316,c317,c318,c319,c320,c321,c322,c323,c324,c325,c326,c327,c328,c329,c330,c331,c332,c333,c334,c335,c336,c337,c338,c339,c340,c341,c342,c343,c344,c345,c346,c347,c348,c349,c350,c351,c352,c353,c354,c355,c356,c357,c358,c359,c360,c361],[]⟩ W2 from by rw[hK];exact HQ.out);rw[← hK];clear hK HQ;unfold QF
 conv=>arg 2;whnf
 have k2:(0:Int)≤(k:Int):=by omega
 have k3:(k:Int)<(N:Int):=by omega
 have j3:(j:Int)<(t2:Int):=by omega
 have hgl:=World.block_lt_of_cell? _ _ q;have j2:(0:Int)≤(j:Int):=by omega
 have jb:j≤900000:=by omega
 obtain⟨p0,hp⟩:∃ p,p=k % 26:=⟨_,rfl⟩
 obtain⟨q0,hq⟩:∃ q,q=k / 26:=⟨_,rfl⟩
 obtain⟨r0,hr⟩:∃ r,r=q0 % 26:=⟨_,rfl⟩
 have m1:Int.tmod (k:Int) 26=(p0:Int):=by rw[hp,Int.tmod_eq_emod_of_nonneg (by omega)];rfl
 have m2:Int.tdiv (k:Int) 26=(q0:Int):=by rw[hq,Int.tdiv_eq_ediv_of_nonneg (by omega)];rfl
 have m3:Int.tmod (q0:Int) 26=(r0:Int):=by rw[hr,Int.tmod_eq_emod_of_nonneg (by omega)];rfl
 have hp2:p0<26:=by omega
 have hr2:r0<26:=by omega
 have hq2:q0≤900000:=by omega
 have s1:IntKind.i64.wrap (p0:Int)=(p0:Int):=by rw[IntKind.wrap_i64];omega
 have s2:IntKind.i64.wrap (q0:Int)=(q0:Int):=by rw[IntKind.wrap_i64];omega
 have s3:IntKind.i64.wrap (r0:Int)=(r0:Int):=by rw[IntKind.wrap_i64];omega
 have s4:IntKind.i64.wrap (97+(p0:Int))=97+(p0:Int):=by rw[IntKind.wrap_i64];omega
 have s5:IntKind.i64.wrap (97+(r0:Int))=97+(r0:Int):=by rw[IntKind.wrap_i64];omega
 have s6:IntKind.i64.wrap (97+(j:Int))=97+(j:Int):=by rw[IntKind.wrap_i64];omega
 obtain⟨ba,hba⟩:∃ b,b=UInt8.ofNat (97+p0):=⟨_,rfl⟩
 obtain⟨bb,hbb⟩:∃ b,b=UInt8.ofNat (97+r0):=⟨_,rfl⟩
 obtain⟨bc,hbc⟩:∃ b,b=UInt8.ofNat (97+j):=⟨_,rfl⟩
 have v1:IntKind.u8.wrap (97+(p0:Int))=(ba.toNat:Int):=by rw[hba];exact u8_wrap p0
 have v2:IntKind.u8.wrap (97+(r0:Int))=(bb.toNat:Int):=by rw[hbb];exact u8_wrap r0
 have v3:IntKind.u8.wrap (97+(j:Int))=(bc.toNat:Int):=by rw[hbc];exact u8_wrap j
 have HMS:=hid (show mS k j=.string ⟨#[ba,bb,bc]⟩ by unfold mS;rw[hba,hbb,hbc,hr,hq,hp]);clear hp hq hr hba hbb hbc;have HAL:=hid (show Below wr.heap.size wr (wr.alloc (.cells #[.int .u8 (ba.toNat:Int),.int .u8 (bb.toNat:Int),.int .u8 (bc.toNat:Int)] 5)) from (Below.refl wr.heap.size wr).alloc (Nat.le_refl _) _);have hcv:(convert 22 9 (.slice (some ⟨wr.heap.size,0,none⟩) 3 3)).run Tryz.prog (wr.alloc (.cells #[.int .u8 (ba.toNat:Int),.int .u8 (bb.toNat:Int),.int .u8 (bc.toNat:Int)] 5)).drew=.ok (.string ⟨#[ba,bb,bc]⟩) (wr.alloc (.cells #[.int .u8 (ba.toNat:Int),.int .u8 (bb.toNat:Int),.int .u8 (bc.toNat:Int)] 5)).drew:=str3 wr ba bb bc;rw[HMS.out] at HQ2;have q5:=(HAL.out.cell (p:=⟨g,j,none⟩) hgl).trans q;have f5:=(World.frozen?_of_block (a:=⟨g,j,none⟩) (HAL.out.block g hgl)).trans f;have b5:=(HAL.out.cell (p:=⟨gK,k,none⟩) (World.block_lt_of_cell? _ _ b3)).trans b3;go_wp2_with fail
 go_region_law (fail)
 all_goals
  obtain⟨W2,hW2⟩:∃ W2,W2=((wr.setCell ⟨g,j,none⟩ (.string ⟨#[ba,bb,bc]⟩)).alloc (.cells #[.int .u8 (ba.toNat:Int),.int .u8 (bb.toNat:Int),.int .u8 (bc.toNat:Int)] 5)).drew:=⟨_,rfl⟩
  rw[← hW2];exact HQ2.out _ _ _ _ _ _ _ _ _ _ _ _ _ _ _ _ _ _ _ _ W2 (by rw[hW2];exact((Below.refl _ _).alloc (Nat.le_refl _) _).drew)
theorem reg75_on {c0 c1 c2 c3 c5 c6 c7 c8 c9 c10 c11 c12 c13 c14 c15 c16 c17 c18 c19 c20 c21 c22 c23 c26 c27 c28 c29 c30 c31 c32 c33 c34 c35 c36 c37 c38 c39 c40 c41 c42 c43 c44 c45 c46 c47 c48 c49 c50 c51 c52 c53 c54 c55 c56 c57 c58 c59 c60 c61 c62 c63 c64 c65 c66 c67 c68 c69 c70 c71 c72 c73 c74 c75 c76 c77 c78 c79 c80 c81 c82 c83 c84 c85 c86 c87 c88 c89 c90 c91 c92 c93 c94 c95 c96 c97 c98 c99 c100 c101 c102 c103 c104 c105 c106 c107 c108 c109 c110 c111 c112 c113 c114 c115 c116 c117 c118 c119 c120 c121 c122 c123 c124 c125 c126 c127 c128 c129 c130 c131 c132 c133 c134 c135 c136 c137 c138 c139 c140 c141 c142 c143 c144 c145 c146 c147 c148 c149 c150 c151 c152 c153 c154 c155 c156 c157 c158 c159 c160 c161 c162 c163 c164 c165 c166 c167 c168 c169 c170 c171 c172 c173 c174 c175 c176 c177 c178 c179 c180 c181 c182 c183 c184 c185 c186 c187 c188 c189 c190 c191 c192 c193 c194 c195 c196 c197 c198 c199 c200 c201 c202 c203 c204 c205 c206 c207 c208 c209 c210 c211 c212 c213 c214 c215 c216 c217 c218 c219 c220 c221 c222 c223 c224 c225 c226 c227 c228 c229 c230 c231 c232 c233 c234 c235 c236 c237 c238 c239 c240 c241 c242 c243 c244 c245 c246 c247 c248 c249 c250 c251 c252 c253 c254 c255 c256 c257 c258 c259 c260 c261 c262 c263 c264 c265 c266 c267 c268 c269 c270 c271 c272 c273 c274 c275 c276 c277 c278 c279 c280 c281 c282 c283 c284 c285 c286 c287 c288 c289 c290 c291 c292 c293 c294 c295 c296 c297 c298 c299 c300 c301 c302 c303 c304 c305 c306 c307 c308 c309 c310 c333 c334 c335 c336 c337 c338 c339 c340 c341 c342 c343 c344 c345 c346 c347 c348 c349 c350 c351 c352 c353 c354 c355 c356 c357 c358 c359 c360 c361 c311 c312 c313 c314 c315 c316 c317 c318 c319 c320 c321 c322 c323 c324 c325 c326 c327 c328 c329 c330 c331 c332:Value} {Q:Exit→Act→World→Prop} {wr:World} (gK N cv k j g y2 y3:Nat) (hlt:k<N) (hltj:j<y2) (hlb:N≤900000) (hjb:j≤900000) (b3:wr.cell? ⟨gK,k,none⟩=some (.slice (some ⟨g,0,none⟩) y2 y3)) (c4:wr.cell? ⟨g,j,none⟩=some (mS k j))
  (hQ:∀ (u311 u312 u313 u314 u315 u316 u317 u318 u319 u320 u321 u322 u323 u324 u325 u326 u327 u328 u329 u330 u331:Value) (W2:World),Below wr.heap.size wr W2→Q .normal ⟨#[c0,c1,c2,c3,.slice (some ⟨gK,0,none⟩) N cv,c5,c6,c7,c8,c9,c10,c11,c12,c13,c14,c15,c16,c17,c18,c19,c20,c21,c22,c23,.int .i64 (k:Int),.int .i64 (j:Int),c26,c27,c28,c29,c30,c31,c32,c33,c34,c35,c36,c37,c38,c39,c40,c41,c42,c43,c44,c45,c46,c47,c48,c49,c50,c51,c52,c53,c54,c55,c56,c57,c58,c59,c60,c61,c62,c63,c64,c65,c66,c67,c68,c69,c70,c71,c72,c73,c74,c75,c76,c77,c78,c79,c80,c81,c82,c83,c84,c85,c86,c87,c88,c89,c90,c91,c92,c93,c94,c95,c96,c97,c98,c99,c100,c101,c102,c103,c104,c105,c106,c107,c108,c109,c110,c111,c112,c113,c114,c115,c116,c117,c118,c119,c120,c121,c122,c123,c124,c125,c126,c127,c128,c129,c130,c131,c132,c133,c134,c135,c136,c137,c138,c139,c140,c141,c142,c143,c144,c145,c146,c147,c148,c149,c150,c151,c152,c153,c154,c155,c156,c157,c158,c159,c160,c161,c162,c163,c164,c165,c166,c167,c168,c169,c170,c171,c172,c173,c174,c175,c176,c177,c178,c179,c180,c181,c182,c183,c184,c185,c186,c187,c188,c189,c190,c191,c192,c193,c194,c195,c196,c197,c198,c199,c200,c201,c202,c203,c204,c205,c206,c207,c208,c209,c210,c211,c212,c213,c214,c215,c216,c217,c218,c219,c220,c221,c222,c223,c224,c225,c226,c227,c228,c229,c230,c231,c232,c233,c234,c235,c236,c237,c238,c239,c240,c241,c242,c243,c244,c245,c246,c247,c248,c249,c250,c251,c252,c253,c254,c255,c256,c257,c258,c259,c260,c261,c262,c263,c264,c265,c266,c267,c268,c269,c270,c271,c272,c273,c274,c275,c276,c277,c278,c279,c280,c281,c282,c283,c284,c285,c286,c287,c288,c289,c290,c291,c292,c293,c294,c295,c296,c297,c298,c299,c300,c301,c302,c303,c304,c305,c306,c307,c308,c309,c310,u311,u312,u313,u314,u315,u316,u317,u318,u319,u320,u321,u322,u323,u324,u325,u326,u327,u328,u329,u330,u331,.bool false,c333,c334,c335,c336,c337,c338,c339,c340,c341,c342,c343,c344,c345,c346,c347,c348,c349,c350,c351,c352,c353,c354,c355,c356,c357,c358,c359,c360,c361],[]⟩ W2) :
  Code.wp Tryz.prog reg75 Q ⟨#[c0,c1,c2,c3,.slice (some ⟨gK,0,none⟩) N cv,c5,c6,c7,c8,c9,c10,c11,c12,c13,c14,c15,c16,c17,c18,c19,c20,c21,c22,c23,.int .i64 (k:Int),.int .i64 (j:Int),c26,c27,c28,c29,c30,c31,c32,c33,c34,c35,c36,c37,c38,c39,c40,c41,c42,c43,c44,c45,c46,c47,c48,c49,c50,c51,c52,c53,c54,c55,c56,c57,c58,c59,c60,c61,c62,c63,c64,c65,c66,c67,c68,c69,c70,c71,c72,c73,c74,c75,c76,c77,c78,c79,c80,c81,c82,c83,c84,c85,c86,c87,c88,c89,c90,c91,c92,c93,c94,c95,c96,c97,c98,c99,c100,c101,c102,c103,c104,c105,c106,c107,c108,c109,c110,c111,c112,c113,c114,c115,c116,c117,c118,c119,c120,c121,c122,c123,c124,c125,c126,c127,c128,c129,c130,c131,c132,c133,c134,c135,c136,c137,c138,c139,c140,c141,c142,c143,c144,c145,c146,c147,c148,c149,c150,c151,c152,c153,c154,c155,c156,c157,c158,c159,c160,c161,c162,c163,c164,c165,c166,c167,c168,c169,c170,c171,c172,c173,c174,c175,c176,c177,c178,c179,c180,c181,c182,c183,c184,c185,c186,c187,c188,c189,c190,c191,c192,c193,c194,c195,c196,c197,c198,c199,c200,c201,c202,c203,c204,c205,c206,c207,c208,c209,c210,c211,c212,c213,c214,c215,c216,c217,c218,c219,c220,c221,c222,c223,c224,c225,c226,c227,c228,c229,c230,c231,c232,c233,c234,c235,c236,c237,c238,c239,c240,c241,c242,c243,c244,c245,c246,c247,c248,c249,c250,c251,c252,c253,c254,c255,c256,c257,c258,c259,c260,c261,c262,c263,c264,c265,c266,c267,c268,c269,c270,c271,c272,c273,c274,c275,c276,c277,c278,c279,c280,c281,c282,c283,c284,c285,c286,c287,c288,c289,c290,c291,c292,c293,c294,c295,c296,c297,c298,c299,c300,c301,c302,c303,c304,c305,c306,c307,c308,c309,c310,c311,c312,c313,c314,c315,c316,c317,c318,c319,c320,c321,c322,c323,c324,c325,c326,c327,c328,c329,c330,c331,c332,c333,c334,c335,c336,c337,c338,c339,c340,c341,c342,c343,c344,c345,c346,c347,c348,c349,c350,c351,c352,c353,c354,c355,c356,c357,c358,c359,c360,c361],[]⟩ wr:=by
 refine Code.wp_mono (Q:=QF (fun a w=>Q .normal a w)) (fun e a w h=>by cases e <;> first|exact h|exact h.elim) ?_;have HQ:=hid hQ;clear hQ;obtain⟨K,hK⟩:∃ K:Act→World→Prop,K=fun a w=>Q .normal a w:=⟨_,rfl⟩
 have HQ2:=hid (show ∀ (u311 u312 u313 u314 u315 u316 u317 u318 u319 u320 u321 u322 u323 u324 u325 u326 u327 u328 u329 u330 u331:Value) (W2:World),Below wr.heap.size wr W2→K ⟨#[c0,c1,c2,c3,.slice (some ⟨gK,0,none⟩) N cv,c5,c6,c7,c8,c9,c10,c11,c12,c13,c14,c15,c16,c17,c18,c19,c20,c21,c22,c23,.int .i64 (k:Int),.int .i64 (j:Int),c26,c27,c28,c29,c30,c31,c32,c33,c34,c35,c36,c37,c38,c39,c40,c41,c42,c43,c44,c45,c46,c47,c48,c49,c50,c51,c52,c53,c54,c55,c56,c57,c58,c59,c60,c61,c62,c63,c64,c65,c66,c67,c68,c69,c70,c71,c72,c73,c74,c75,c76,c77,c78,c79,c80,c81,c82,c83,c84,c85,c86,c87,c88,c89,c90,c91,c92,c93,c94,c95,c96,c97,c98,c99,c100,c101,c102,c103,c104,c105,c106,c107,c108,c109,c110,c111,c112,c113,c114,c115,c116,c117,c118,c119,c120,c121,c122,c123,c124,c125,c126,c127,c128,c129,c130,c131,c132,c133,c134,c135,c136,c137,c138,c139,c140,c141,c142,c143,c144,c145,c146,c147,c148,c149,c150,c151,c152,c153,c154,c155,c156,c157,c158,c159,c160,c161,c162,c163,c164,c165,c166,c167,c168,c169,c170,c171,c172,c173,c174,c175,c176,c177,c178,c179,c180,c181,c182,c183,c184,c185,c186,c187,c188,c189,c190,c191,c192,c193,c194,c195,c196,c197,c198,c199,c200,c201,c202,c203,c204,c205,c206,c207,c208,c209,c210,c211,c212,c213,c214,c215,c216,c217,c218,c219,c220,c221,c222,c223,c224,c225,c226,c227,c228,c229,c230,c231,c232,c233,c234,c235,c236,c237,c238,c239,c240,c241,c242,c243,c244,c245,c246,c247,c248,c249,c250,c251,c252,c253,c254,c255,c256,c257,c258,c259,c260,c261,c262,c263,c264,c265,c266,c267,c268,c269,c270,c271,c272,c273,c274,c275,c276,c277,c278,c279,c280,c281,c282,c283,c284,c285,c286,c287,c288,c289,c290,c291,c292,c293,c294,c295,c296,c297,c298,c299,c300,c301,c302,c303,c304,c305,c306,c307,c308,c309,c310,u311,u312,u313,u314,u315,u316,u317,u318,u319,u320,u321,u322,u323,u324,u325,u326,u327,u328,u329,u330,u331,.bool false,c333,c334,c335,c336,c337,c338,c339,c340,c341,c342,c343,c344,c345,c346,c347,c348,c349,c350,c351,c352,c353,c354,c355,c356,c357,c358,c359,c360,c361],[]⟩ W2 from by rw[hK];exact HQ.out);rw[← hK];clear hK HQ;unfold QF
 conv=>arg 2;whnf
 have k2:(0:Int)≤(k:Int):=by omega
 have k3:(k:Int)<(N:Int):=by omega
 have j3:(j:Int)<(y2:Int):=by omega
 have j2:(0:Int)≤(j:Int):=by omega
 have jb:j≤900000:=by omega
 obtain⟨p0,hp⟩:∃ p,p=k % 26:=⟨_,rfl⟩
 obtain⟨q0,hq⟩:∃ q,q=k / 26:=⟨_,rfl⟩
 obtain⟨r0,hr⟩:∃ r,r=q0 % 26:=⟨_,rfl⟩
 have m1:Int.tmod (k:Int) 26=(p0:Int):=by rw[hp,Int.tmod_eq_emod_of_nonneg (by omega)];rfl
 have m2:Int.tdiv (k:Int) 26=(q0:Int):=by rw[hq,Int.tdiv_eq_ediv_of_nonneg (by omega)];rfl
 have m3:Int.tmod (q0:Int) 26=(r0:Int):=by rw[hr,Int.tmod_eq_emod_of_nonneg (by omega)];rfl
 have hp2:p0<26:=by omega
 have hr2:r0<26:=by omega
 have hq2:q0≤900000:=by omega
 have s1:IntKind.i64.wrap (p0:Int)=(p0:Int):=by rw[IntKind.wrap_i64];omega
 have s2:IntKind.i64.wrap (q0:Int)=(q0:Int):=by rw[IntKind.wrap_i64];omega
 have s3:IntKind.i64.wrap (r0:Int)=(r0:Int):=by rw[IntKind.wrap_i64];omega
 have s4:IntKind.i64.wrap (97+(p0:Int))=97+(p0:Int):=by rw[IntKind.wrap_i64];omega
 have s5:IntKind.i64.wrap (97+(r0:Int))=97+(r0:Int):=by rw[IntKind.wrap_i64];omega
 have s6:IntKind.i64.wrap (97+(j:Int))=97+(j:Int):=by rw[IntKind.wrap_i64];omega
 obtain⟨ba,hba⟩:∃ b,b=UInt8.ofNat (97+p0):=⟨_,rfl⟩
 obtain⟨bb,hbb⟩:∃ b,b=UInt8.ofNat (97+r0):=⟨_,rfl⟩
 obtain⟨bc,hbc⟩:∃ b,b=UInt8.ofNat (97+j):=⟨_,rfl⟩
 have v1:IntKind.u8.wrap (97+(p0:Int))=(ba.toNat:Int):=by rw[hba];exact u8_wrap p0
 have v2:IntKind.u8.wrap (97+(r0:Int))=(bb.toNat:Int):=by rw[hbb];exact u8_wrap r0
 have v3:IntKind.u8.wrap (97+(j:Int))=(bc.toNat:Int):=by rw[hbc];exact u8_wrap j
 have HMS:=hid (show mS k j=.string ⟨#[ba,bb,bc]⟩ by unfold mS;rw[hba,hbb,hbc,hr,hq,hp]);clear hp hq hr hba hbb hbc;have HAL:=hid (show Below wr.heap.size wr (wr.alloc (.cells #[.int .u8 (ba.toNat:Int),.int .u8 (bb.toNat:Int),.int .u8 (bc.toNat:Int)] 5)) from (Below.refl wr.heap.size wr).alloc (Nat.le_refl _) _);have hcv:(convert 22 9 (.slice (some ⟨wr.heap.size,0,none⟩) 3 3)).run Tryz.prog (wr.alloc (.cells #[.int .u8 (ba.toNat:Int),.int .u8 (bb.toNat:Int),.int .u8 (bc.toNat:Int)] 5)).drew=.ok (.string ⟨#[ba,bb,bc]⟩) (wr.alloc (.cells #[.int .u8 (ba.toNat:Int),.int .u8 (bb.toNat:Int),.int .u8 (bc.toNat:Int)] 5)).drew:=str3 wr ba bb bc;rw[HMS.out] at c4;have b5:=(HAL.out.cell (p:=⟨gK,k,none⟩) (World.block_lt_of_cell? _ _ b3)).trans b3;have c5:=(HAL.out.cell (p:=⟨g,j,none⟩) (World.block_lt_of_cell? _ _ c4)).trans c4;go_wp2_with fail
 go_region_law (fail)
 all_goals
  generalize hWA:World.drew _=WA;exact HQ2.out _ _ _ _ _ _ _ _ _ _ _ _ _ _ _ _ _ _ _ _ _ WA (by rw[← hWA];exact HAL.out.drew)
set_option maxHeartbeats 40000000
theorem infoSlS:(Tryz.prog.info? 93).map (fun i=>(i.zero,i.size,i.bytes))=some (some (.slice none 0 0),1,24):=by kernel_rfl
theorem infoSlN:(Tryz.prog.info? 39).map (fun i=>(i.zero,i.size,i.bytes))=some (some (.slice none 0 0),1,24):=by kernel_rfl
theorem drop_get {α:Type} {l:List α} {k:Nat} {t:α} (h:l[k]?=some t):l.drop k=t :: l.drop (k+1):=by
 have hk:=(List.getElem?_eq_some_iff.1 h).1;rw[List.drop_eq_getElem_cons hk]
 congr 1
 exact Option.some.inj ((List.getElem?_eq_getElem hk).symm.trans h)
def mI (i j:Nat):Value:=.int .i64 (1000 * (i:Int)+(j:Int))
theorem apart_any (w:World) (lo b:Nat) (ta tb:Option Addr) (na ca nb cb:Nat) (X:ProgE) (F:List Nat) (hpf:PF progE 26 w lo b [.slice ta na ca,.slice tb nb cb] X F) (hfew:fewP X) (hsum:(X.kinds.map wK).sum≤98310) :
  Calls Tryz.prog 25 #[.agg #[.slice ta na ca,.slice tb nb cb]] w fun e w'=>e=.returned (.bool true)∧Out F w w':=by
 obtain⟨tv,kv,dt,dk,Ft,Fk,hc,hF,hts,hks⟩:=hpf.it;cases hc;have hnt:=own_of_slice hts.row;have hnk:=own_of_slice hks.row;subst hnt hnk;obtain⟨Gt,hGt,het⟩:=hts.els;obtain⟨Gk,hGk,hek⟩:=hks.els;obtain⟨tr,ht1,ht2,ht3,ht4⟩:=trips tagK (p:=1) (by decide) (fun t (o:TagE)=>t.2.1=o.tys.length∧RowC 3 1 w t.1 t.2.1 t.2.2) tag_trip het;obtain⟨kg,hk1,hk2,hk3⟩:=outs kindK (w:=w) (fun (t:KdG) c x=>t.At w c x) KdG.fp kind_out hek;have HTC:=hid (show ∀ g,ta=some ⟨g,0,none⟩→∀ (k:Nat) (t:Trip),tr[k]?=some t→w.cell? ⟨g,k * 2+1,none⟩=some (slv t) from fun g hg k t ht=>by
  have:=ht2 k t ht;exact list_cell (t:=(ta,X.tags.length,ca)) hts.row hg _ _ this)
 have HTR:=hid (And.intro ht1 ht3);have HTF:=hid (show ∀ g,ta=some ⟨g,0,none⟩→g<w.heap.size from (RowC.of_own hts.row).lt);have HTRW:=hid (RowC.of_own hts.row);have HKRW:=hid (RowC.of_own hks.row);have HKD:=hid (show kg.length=X.kinds.length∧∀ g,tb=some ⟨g,0,none⟩→g<w.heap.size∧∀ (k:Nat) (t:KdG),kg[k]?=some t→w.cell? ⟨g,k * 2+1,none⟩=some (slv t.row)∧KdW w t from ⟨hk1,fun g hg=>⟨(RowC.of_own hks.row).lt g hg,fun k t ht=>by
  have hj:k<X.kinds.length:=by rw[← hk1];exact(List.getElem?_eq_some_iff.1 ht).1
  obtain⟨c1,n1,n2,n3⟩:=hk2 k t X.kinds[k] ht (List.getElem?_eq_getElem hj);have hc:=n3.cells;have hff:=hfew.2.2.2 _ (List.getElem_mem hj);refine⟨list_cell (t:=(tb,X.kinds.length,cb)) hks.row hg _ _ ?_,kd_w n3 hff.1 hff.2⟩;rw[n2 1 (by omega),hc];rfl⟩⟩)
 have hcnt:(kg.flatMap kV).length+(kg.flatMap kE).length≤98310:=by
  refine Nat.le_trans (Nat.le_of_eq (flat_sum kV kE wK kg X.kinds hk1 (fun j t a ht ha=>?_))) hsum;obtain⟨c1,_,_,h3⟩:=hk2 j t a ht ha;exact kd_cnt h3
 have hFall:(tr.flatMap blk++((kg.flatMap kV).flatMap blk++(kg.flatMap kE).flatMap blk)).Nodup∧∀ b ∈ tr.flatMap blk++((kg.flatMap kV).flatMap blk++(kg.flatMap kE).flatMap blk),b ∈ F∧b<w.heap.size:=by
  have hu:=hpf.uniq;rw[hF,hGt,hGk,ht4,hk3] at hu;obtain⟨u1,u2,u3⟩:=List.nodup_append.1 hu;obtain⟨k1,k2⟩:=ks_nodup kg (List.nodup_append.1 u2).2.1;have hin:∀ b ∈ tr.flatMap blk++((kg.flatMap kV).flatMap blk++(kg.flatMap kE).flatMap blk),b ∈ F:=by
   intro b hb;rw[hF,hGt,hGk,ht4,hk3];rcases List.mem_append.1 hb with hb|hb
   ·exact List.mem_append_left _ (List.mem_append_right _ hb)
   ·exact List.mem_append_right _ (List.mem_append_right _ (k2 b hb))
  refine⟨List.nodup_append.2 ⟨(List.nodup_append.1 u1).2.1,k1,fun p hp q hq=>u3 p (List.mem_append_right _ hp) q (List.mem_append_right _ (k2 q hq))⟩,fun b hb=>⟨hin b hb,?_⟩⟩;have:=hpf.lies b (hin b hb);have:=hpf.bx.lt;omega
 have hrows:(∀ t ∈ tr,RowC 3 1 w t.1 t.2.1 t.2.2∧t.2.1≤900000)∧(∀ t ∈ kg.flatMap kV,RowC 9 1 w t.1 t.2.1 t.2.2∧t.2.1≤900000)∧∀ t ∈ kg.flatMap kE,RowC 109 9 w t.1 t.2.1 t.2.2∧t.2.1≤900000:=by
  refine⟨fun t ht=>?_,?_⟩
  ·obtain⟨k,hk⟩:=List.mem_iff_getElem?.1 ht;have hj:k<X.tags.length:=by rw[← ht1];exact(List.getElem?_eq_some_iff.1 hk).1
   have h3:=ht3 k t X.tags[k] hk (List.getElem?_eq_getElem hj);exact⟨h3.2,by rw[h3.1];exact hfew.2.1 _ (List.getElem_mem hj)⟩
  ·have hall:∀ t ∈ kg,∃ x c,KdG.At w t c x∧∀ c ∈ x.chords,fewC c:=fun t ht=>by
    obtain⟨k,hk⟩:=List.mem_iff_getElem?.1 ht;have hj:k<X.kinds.length:=by rw[← hk1];exact(List.getElem?_eq_some_iff.1 hk).1
    obtain⟨c1,_,_,n3⟩:=hk2 k t X.kinds[k] hk (List.getElem?_eq_getElem hj);exact⟨_,_,n3,(hfew.2.2.2 _ (List.getElem_mem hj)).2⟩
   exact⟨fun t ht=>by
    obtain⟨k,hk,ht⟩:=List.mem_flatMap.1 ht;obtain⟨x,c,h1,h2⟩:=hall k hk;exact kV_rows h1 h2 t ht,fun t ht=>by
    obtain⟨k,hk,ht⟩:=List.mem_flatMap.1 ht;obtain⟨x,c,h1,h2⟩:=hall k hk;exact kE_rows h1 h2 t ht⟩
 obtain⟨AV,hAV⟩:∃ l,l=kg.flatMap kV:=⟨_,rfl⟩
 obtain⟨AE,hAE⟩:∃ l,l=kg.flatMap kE:=⟨_,rfl⟩
 rw[← hAV,← hAE] at hcnt hFall hrows;have HAA:=hid (And.intro hAV hAE);have HCNT:=hid hcnt;have HFALL:=hid hFall;have HROWS:=hid hrows;obtain⟨W0,hW0⟩:∃ W0,W0=w.alloc (.cells #[.slice ta X.tags.length ca,.slice tb X.kinds.length cb] 26):=⟨_,rfl⟩
 have HX0:=hid (show Bx W0 w.heap.size 26 [.slice ta X.tags.length ca,.slice tb X.kinds.length cb] by rw[hW0];exact Bx.new w _ _);have HB0:=hid (show Below w.heap.size w W0 by rw[hW0];exact(Below.refl _ w).alloc (Nat.le_refl _) _);have HS0:=hid (show w.heap.size<W0.heap.size by rw[hW0];simp);have HCE:=hid (show ∀ wr,Below W0.heap.size W0 wr→∀ g j,g<w.heap.size→wr.cell? ⟨g,j,none⟩=w.cell? ⟨g,j,none⟩ from fun wr hb g j hg=>((hb.cell (p:=⟨g,j,none⟩) (Nat.lt_trans hg HS0.out)).trans (HB0.out.cell (p:=⟨g,j,none⟩) hg)));have HW0:=hid hW0;have HFEW:=hid (And.intro hfew hsum);obtain⟨i0,hi0,hz0,hz1,hz2⟩:=info_parts3 infoSlI;have HI:=hid (And.intro hi0 (And.intro hz0 (And.intro hz1 hz2)));obtain⟨j0,hi1,hz3,hz4,hz5⟩:=info_parts3 infoSlS;have HJ:=hid (And.intro hi1 (And.intro hz3 (And.intro hz4 hz5)));obtain⟨l0,hi2,hz6,hz7,hz8⟩:=info_parts3 infoSlN;have HL:=hid (And.intro hi2 (And.intro hz6 (And.intro hz7 hz8)));clear hW0 hfew hsum hi0 hz0 hz1 hz2 hi1 hz3 hz4 hz5 hi2 hz6 hz7 hz8 ht1 ht2 ht3 ht4 hk1 hk2 hk3 hcnt hFall hrows hAV hAE hGt hGk het hek hts hks hF hpf;go_enter Tryz.func25,Tryz.ntmps25;go_upto_region 1 with (fail);rw[← HW0.out];generalize hE:w.heap.size=E at HX0 HS0 HTF HKD HCE HFALL ⊢;have HE:=hid hE;clear HW0 hE;go_wp2
 go_loopw [3,6] (fun v i wr=>∃ (k:Nat) (a:Option Addr) (c:Nat),i=.int .i64 k∧v=.slice a k c∧k≤X.tags.length∧Hid (Gat 53 W0.heap.size wr (.slice a k c) (tr.take k))∧Hid (Below W0.heap.size W0 wr)) (fun _ i _=>X.tags.length-(intOf i).toNat)
 case atStart=>exact⟨0,none,0,rfl,rfl,Nat.zero_le _,hid (Gat.nil _ _ _),hid (Below.refl _ _)⟩
 case round =>
 obtain⟨k,a,c,rfl,rfl,hk,HGA,HBB⟩:=hrel;have b0:wr.cell? ⟨E,0,none⟩=some (.slice ta X.tags.length ca):=(HX0.out.keep HBB.out HS0.out).c 0 rfl;rcases Nat.lt_or_ge k X.tags.length with hlt|hge
 ·obtain⟨g,rfl⟩:=HTRW.out.some hlt;have hkt:k<tr.length:=by rw[HTR.out.1];exact hlt
  obtain⟨t,ht⟩:∃ t,tr[k]?=some t:=⟨_,List.getElem?_eq_getElem hkt⟩
  have hgw:g<E:=HTF.out g rfl;have hc0:=HTC.out g rfl k t ht;have hcv:wr.cell? ⟨g,k * 2+1,none⟩=some (slv t):=(HCE.out wr HBB.out g _ hgw).trans hc0;have HTK:=hid (show tr.take k++[t]=tr.take (k+1) by rw[List.take_add_one,ht];rfl);have hlk:(tr.take k).length=k:=by rw[List.length_take];omega
  have HLK:=hid hlk;have hpl:X.tags.length≤900000:=HFEW.out.1.1;have e2:(0:Int)≤(k:Int):=by omega
  have e3:(k:Int)<(X.tags.length:Int):=by omega
  have e4:decide ((k:Int)<(X.tags.length:Int))=true:=decide_eq_true e3;obtain⟨t1,t2,t3⟩:=t;clear ht hkt hlk hc0;unfold slv at hcv;go_upto_region 6 with (at_builtin;refine wpList_gather (w0:=wr) rfl (.tmp 35) (.tmp 42) 110 rfl i0 _ Tryz.underlying110 HI.out.1 HI.out.2 rfl W0.heap.size (.slice a k c) (tr.take k) rfl HGA.out (t1,t2,t3) _ _ 1 1 rfl rfl rfl (by rw[HLK.out];omega) HBB.out.size ?_;rw[HLK.out];intro a5 c5 w5 hG hb;have HG5:=hid hG;have HB5:=hid (HBB.out.trans hb);clear hG hb);go_wp2;go_roundw
  case rel=>exact⟨k+1,a5,c5,by go_num,rfl,hlt,hid (by rw[← HTK.out];exact HG5.out),HB5⟩
  case measure=>simp[intOf];omega
 ·obtain rfl:k=X.tags.length:=by omega
  have d1:decide ((X.tags.length:Int)<(X.tags.length:Int))=false:=decide_eq_false (by omega);have HGT:=hid (show Gat 53 W0.heap.size wr (.slice a X.tags.length c) tr from by
   have:=HGA.out
   rwa [List.take_of_length_le (by rw[HTR.out.1];exact Nat.le_refl _)] at this)
  obtain⟨w1,hw1⟩:∃ w1,w1=wr:=⟨_,rfl⟩
  rw[← hw1] at HGT HBB b0 ⊢;clear hge hk HGA hw1 HTC HTF HTRW;have HB1:=hid HBB.out.size;have hkl:X.kinds.length≤900000:=HFEW.out.1.2.2.1;go_wp2
  go_loopw [4,5,7] (fun ve ee i wr=>∃ (k:Nat) (av ae:Option Addr) (cv ce:Nat) (vs es:List Trip),i=.int .i64 k∧ve=.slice av vs.length cv∧ee=.slice ae es.length ce∧k≤X.kinds.length∧Hid (GG w1.heap.size wr (.slice av vs.length cv) (.slice ae es.length ce) vs es)∧Hid (vs++(kg.drop k).flatMap kV=AV∧es++(kg.drop k).flatMap kE=AE)∧Hid (Below w1.heap.size w1 wr)) (fun _ _ i _=>X.kinds.length-(intOf i).toNat)
  case atStart=>exact⟨0,none,none,0,0,[],[],rfl,rfl,rfl,Nat.zero_le _,hid (GG.nil _ _),hid ⟨HAA.out.1.symm,HAA.out.2.symm⟩,hid (Below.refl _ _)⟩
  case round =>
  obtain⟨k,av,ae,cv,ce,vs,es,rfl,rfl,rfl,hk,HGG,HSP,HBK⟩:=hrel;have HBI:=hid (HBB.out.trans (HBK.out.mono HB1.out));have b1:wr.cell? ⟨E,1,none⟩=some (.slice tb X.kinds.length cb):=(HX0.out.keep HBI.out HS0.out).c 1 rfl;rcases Nat.lt_or_ge k X.kinds.length with hlt|hge
  ·obtain⟨g,rfl⟩:=HKRW.out.some hlt;obtain⟨hgE,hcells⟩:=HKD.out.2 g rfl;have hkt:k<kg.length:=by rw[HKD.out.1];exact hlt
   obtain⟨t,ht⟩:∃ t,kg[k]?=some t:=⟨_,List.getElem?_eq_getElem hkt⟩
   obtain⟨hc0,hkw⟩:=hcells k t ht;have hdr:=drop_get ht;obtain⟨RV,hRV⟩:∃ l,l=(kg.drop (k+1)).flatMap kV:=⟨_,rfl⟩
   obtain⟨RE,hRE⟩:∃ l,l=(kg.drop (k+1)).flatMap kE:=⟨_,rfl⟩
   have HS2:=hid (show vs++(t.chs.flatMap ChG.pvs++RV)=AV∧es++(t.chs.flatMap gE++RE)=AE from by
    have:=HSP.out;rw[hdr,List.flatMap_cons,List.flatMap_cons,← hRV,← hRE] at this;exact this)
   have HRR:=hid (And.intro hRV hRE);obtain⟨⟨r1,r2,r3⟩,chs⟩:=t;have HC0:=hid (And.intro hgE hc0);have HKW:=hid hkw;have e2:(0:Int)≤(k:Int):=by omega
   have e3:(k:Int)<(X.kinds.length:Int):=by omega
   have e4:decide ((k:Int)<(X.kinds.length:Int))=true:=decide_eq_true e3;have hr2:r2≤900000:=hkw.l;clear hgE hcells hkt ht hc0 hkw hdr hRV hRE HSP HBI;go_wp2;clear b1
   go_loopw [4,5,8] (fun ve ee i wr=>∃ (j:Nat) (av ae:Option Addr) (cv ce:Nat) (vs es:List Trip),i=.int .i64 j∧ve=.slice av vs.length cv∧ee=.slice ae es.length ce∧j≤r2∧Hid (GG w1.heap.size wr (.slice av vs.length cv) (.slice ae es.length ce) vs es)∧Hid (vs++((chs.drop j).flatMap ChG.pvs++RV)=AV∧es++((chs.drop j).flatMap gE++RE)=AE)∧Hid (Below w1.heap.size w1 wr)) (fun _ _ i _=>r2-(intOf i).toNat)
   case atStart=>exact⟨0,av,ae,cv,ce,vs,es,rfl,rfl,rfl,Nat.zero_le _,HGG,HS2,HBK⟩
   case round =>
   clear HGG HS2 HBK;obtain⟨j,av,ae,cv,ce,vs,es,rfl,rfl,rfl,hj,HGG,HSP,HBK⟩:=hrel;have HBI:=hid (HBB.out.trans (HBK.out.mono HB1.out));have b1:wr.cell? ⟨E,1,none⟩=some (.slice (some ⟨g,0,none⟩) X.kinds.length cb):=(HX0.out.keep HBI.out HS0.out).c 1 rfl;have hcv:wr.cell? ⟨g,k * 2+1,none⟩=some (.slice r1 r2 r3):=(HCE.out wr HBI.out g _ HC0.out.1).trans HC0.out.2;rcases Nat.lt_or_ge j r2 with hltj|hgej
   ·obtain⟨gr,hgr⟩:=HKW.out.s (Nat.lt_of_le_of_lt (Nat.zero_le _) hltj);have hgr:r1=some ⟨gr,0,none⟩:=hgr;subst hgr;obtain⟨hgrE,hch⟩:=HKW.out.c gr rfl;have hgrE:gr<E:=by rw[← HE.out];exact hgrE
    have hjt:j<chs.length:=Nat.lt_of_lt_of_le hltj (Nat.le_of_eq HKW.out.n.symm);obtain⟨t,ht⟩:∃ t,chs[j]?=some t:=⟨_,List.getElem?_eq_getElem hjt⟩
    obtain⟨⟨nm,q0⟩,q1,q2,q3,hcw⟩:=hch j t ht;have p0:=(HCE.out wr HBI.out gr _ hgrE).trans q0;have p1:=(HCE.out wr HBI.out gr _ hgrE).trans q1;have p2:=(HCE.out wr HBI.out gr _ hgrE).trans q2;have p3:=(HCE.out wr HBI.out gr _ hgrE).trans q3;have hdr:=drop_get ht;obtain⟨RV2,hRV⟩:∃ l,l=(chs.drop (j+1)).flatMap ChG.pvs++RV:=⟨_,rfl⟩
    obtain⟨RE2,hRE⟩:∃ l,l=(chs.drop (j+1)).flatMap gE++RE:=⟨_,rfl⟩
    have HS2:=hid (show vs++(t.pvs++RV2)=AV∧(es++[t.guard])++(t.acts.flatMap aE++RE2)=AE from by
     have:=HSP.out;rw[hdr,List.flatMap_cons,List.flatMap_cons,List.append_assoc,List.append_assoc,← hRV,← hRE] at this;refine⟨this.1,?_⟩;rw[← this.2];unfold gE;simp)
    have HRR2:=hid (And.intro hRV hRE);obtain⟨⟨x1,x2,x3⟩,pvs,⟨g1,g2,g3⟩,⟨y1,y2,y3⟩,acts⟩:=t;have HCW:=hid hcw;have hx2:x2≤900000:=hcw.lp;have hy2:y2≤900000:=hcw.lb;unfold slv at p1 p2 p3;simp only at p1 p2 p3;have f2:(0:Int)≤(j:Int):=by omega
    have f3:(j:Int)<(r2:Int):=by omega
    have f4:decide ((j:Int)<(r2:Int))=true:=decide_eq_true f3;clear hgrE hch hjt ht q0 q1 q2 q3 hcw hdr hRV hRE;go_upto_region 15 with (fail);obtain⟨W2,hW2⟩:∃ W,W=wr.alloc (.cells #[.string nm,.slice x1 x2 x3,.slice g1 g2 g3,.slice y1 y2 y3] 44):=⟨_,rfl⟩
    rw[← hW2];have hg3:=HGG.out.box (cs:=[.string nm,.slice x1 x2 x3,.slice g1 g2 g3,.slice y1 y2 y3]) hW2;have HB2:=hid (show Below w1.heap.size w1 W2 from by rw[hW2];exact HBK.out.trans ((Below.refl _ wr).alloc HBK.out.size _));generalize wr.heap.size=C at hg3 ⊢;have HG3:=hid hg3;have c2:=hg3.bx.c 2 rfl;have hel:es.length≤900000:=by
     have h1:=HCNT.out;have h2:=congrArg List.length HS2.out.2;simp only[List.length_append] at h2;omega
    have HEL:=hid hel;clear hW2 hg3 p0 p1 p2 p3 b1 hcv HGG HBK HBI hel HSP;go_upto_region 16 with (at_builtin;refine wpList_gather2 (w0:=W2) rfl (.tmp 71) (.tmp 75) 112 rfl l0 _ Tryz.underlying112 HL.out.1 HL.out.2 rfl w1.heap.size (.slice ae es.length ce) es rfl HG3.out.gg.ge (g1,g2,g3) _ _ 1 1 rfl rfl rfl HEL.out HB2.out.size ?_;intro g5 c5 w5 hG hb hs hk hl;have HG5:=hid (HG3.out.pushE hG hk hl);have HB5:=hid (HB2.out.trans hb);clear hG hb hs hk hl);obtain⟨es1,he1⟩:∃ l,l=es++[(g1,g2,g3)]:=⟨_,rfl⟩
    have hl1:es.length+1=es1.length:=by rw[he1];simp
    rw[hl1,← he1] at HG5;rw[hl1];have HS3:=hid (show vs++(pvs++RV2)=AV∧es1++(acts.flatMap aE++RE2)=AE from by rw[he1];exact HS2.out);clear HG3 HS2 he1 hl1 c2 HEL HB2;go_wp2
    go_loopw [4,10] (fun ve i wr=>∃ (m:Nat) (av:Option Addr) (cv:Nat) (vs:List Trip),i=.int .i64 m∧ve=.slice av vs.length cv∧m≤x2∧Hid (G3 w1.heap.size C [.string nm,.slice x1 x2 x3,.slice g1 g2 g3,.slice y1 y2 y3] wr (.slice av vs.length cv) (.slice (some ⟨g5,0,none⟩) es1.length c5) vs es1)∧Hid (vs++(pvs.drop m++RV2)=AV)∧Hid (Below w1.heap.size w1 wr)) (fun _ i _=>x2-(intOf i).toNat)
    case atStart=>exact⟨0,av,cv,vs,rfl,rfl,Nat.zero_le _,HG5,hid HS3.out.1,HB5⟩
    case round =>
    obtain⟨m,av,cv,vs,rfl,rfl,hm,HG3,HSV,HBK⟩:=hrel;have HBI:=hid (HBB.out.trans (HBK.out.mono HB1.out));have c1:=HG3.out.bx.c 1 rfl;rcases Nat.lt_or_ge m x2 with hltm|hgem
    ·obtain⟨gp,hgp⟩:=HCW.out.sp (Nat.lt_of_le_of_lt (Nat.zero_le _) hltm);have hgp:x1=some ⟨gp,0,none⟩:=hgp;subst hgp;obtain⟨hgpE,hpc⟩:=HCW.out.cp gp rfl;have hgpE:gp<E:=by rw[← HE.out];exact hgpE
     have hmt:m<pvs.length:=Nat.lt_of_lt_of_le hltm (Nat.le_of_eq HCW.out.np.symm);obtain⟨t,ht⟩:∃ t,pvs[m]?=some t:=⟨_,List.getElem?_eq_getElem hmt⟩
     have pc:=(HCE.out wr HBI.out gp _ hgpE).trans (hpc m t ht);have hdr:=drop_get ht;have HS4:=hid (show (vs++[t])++(pvs.drop (m+1)++RV2)=AV from by
      have:=HSV.out;rw[hdr] at this;rw[← this];simp)
     have hvl:vs.length≤900000:=by
      have h1:=HCNT.out;have h2:=congrArg List.length HS4.out;simp only[List.length_append,List.length_cons] at h2;omega
     have HVL:=hid hvl;obtain⟨t1,t2,t3⟩:=t;unfold slv at pc;have m2:(0:Int)≤(m:Int):=by omega
     have m3:(m:Int)<(x2:Int):=by omega
     have m4:decide ((m:Int)<(x2:Int))=true:=decide_eq_true m3;clear hgpE hpc hmt ht hdr hvl;go_upto_region 18 with (at_builtin;refine wpList_gather2 (w0:=wr) rfl (.tmp 84) (.tmp 91) 111 rfl j0 _ Tryz.underlying111 HJ.out.1 HJ.out.2 rfl w1.heap.size (.slice av vs.length cv) vs rfl HG3.out.gg.gv (t1,t2,t3) _ _ 1 1 rfl rfl rfl HVL.out HBK.out.size ?_;intro g6 c6 w6 hG hb hs hk hl;have HG6:=hid (HG3.out.pushV hG hk hl);have HB6:=hid (HBK.out.trans hb);clear hG hb hs hk hl);go_wp2;go_roundw
     case rel=>exact⟨m+1,some ⟨g6,0,none⟩,c6,vs++[(t1,t2,t3)],by go_num,by rw[List.length_append];rfl,hltm,by rw[List.length_append];exact HG6,HS4,HB6⟩
     case measure=>simp[intOf];omega
    ·obtain rfl:m=x2:=by omega
     have d1:decide ((m:Int)<(m:Int))=false:=decide_eq_false (by omega);have HS5:=hid (show vs++RV2=AV from by
      have:=HSV.out
      rwa [List.drop_eq_nil_of_le (Nat.le_of_eq HCW.out.np),List.nil_append] at this)
     obtain⟨w2,hw2⟩:∃ w2,w2=wr:=⟨_,rfl⟩
     rw[← hw2] at HG3 HBK c1 ⊢;clear hgem hm HSV HBI hw2;go_wp2
     go_loopw [5,11] (fun ee i wr=>∃ (n:Nat) (ae:Option Addr) (ce:Nat) (es:List Trip),i=.int .i64 n∧ee=.slice ae es.length ce∧n≤y2∧Hid (G3 w1.heap.size C [.string nm,.slice x1 m x3,.slice g1 g2 g3,.slice y1 y2 y3] wr (.slice av vs.length cv) (.slice ae es.length ce) vs es)∧Hid (es++((acts.drop n).flatMap aE++RE2)=AE)∧Hid (Below w1.heap.size w1 wr)) (fun _ i _=>y2-(intOf i).toNat)
     case atStart=>exact⟨0,some ⟨g5,0,none⟩,c5,es1,rfl,rfl,Nat.zero_le _,HG3,hid HS3.out.2,HBK⟩
     case round =>
     clear HG3 HBK c1;obtain⟨n,ae,ce,es,rfl,rfl,hn,HG3,HSV,HBK⟩:=hrel;have HBI:=hid (HBB.out.trans (HBK.out.mono HB1.out));have c3:=HG3.out.bx.c 3 rfl;rcases Nat.lt_or_ge n y2 with hltn|hgen
     ·obtain⟨ga,hga⟩:=HCW.out.sb (Nat.lt_of_le_of_lt (Nat.zero_le _) hltn);have hga:y1=some ⟨ga,0,none⟩:=hga;subst hga;obtain⟨hgaE,hac⟩:=HCW.out.cb ga rfl;have hgaE:ga<E:=by rw[← HE.out];exact hgaE
      have hnt:n<acts.length:=Nat.lt_of_lt_of_le hltn (Nat.le_of_eq HCW.out.nb.symm);obtain⟨t,ht⟩:∃ t,acts[n]?=some t:=⟨_,List.getElem?_eq_getElem hnt⟩
      obtain⟨q1,q4,haw⟩:=hac n t ht;have p1:=(HCE.out wr HBI.out ga _ hgaE).trans q1;have hdr:=drop_get ht;obtain⟨RE3,hRE⟩:∃ l,l=(acts.drop (n+1)).flatMap aE++RE2:=⟨_,rfl⟩
      have HS2:=hid (show (es++[t.tgt])++(t.ats++RE3)=AE from by
       have:=HSV.out;rw[hdr,List.flatMap_cons,List.append_assoc,← hRE] at this;rw[← this];unfold aE;simp)
      have HRR3:=hid hRE;have HQ4:=hid (And.intro hgaE q4);have HAW:=hid haw;have hel:es.length≤900000:=by
       have h1:=HCNT.out;have h2:=congrArg List.length HS2.out;simp only[List.length_append,List.length_cons] at h2;omega
      have HEL:=hid hel;obtain⟨⟨o1,o2,o3⟩,⟨u1,u2,u3⟩,ats⟩:=t;have hu2:u2≤900000:=haw.l;unfold slv at p1;simp only at p1;have n2:(0:Int)≤(n:Int):=by omega
      have n3:(n:Int)<(y2:Int):=by omega
      have n4:decide ((n:Int)<(y2:Int))=true:=decide_eq_true n3;clear hgaE hac hnt ht q1 q4 haw hdr hRE hel HSV;go_upto_region 24 with (at_builtin;refine wpList_gather2 (w0:=wr) rfl (.tmp 100) (.tmp 108) 112 rfl l0 _ Tryz.underlying112 HL.out.1 HL.out.2 rfl w1.heap.size (.slice ae es.length ce) es rfl HG3.out.gg.ge (o1,o2,o3) _ _ 1 1 rfl rfl rfl HEL.out HBK.out.size ?_;intro g6 c6 w6 hG hb hs hk hl;have HG6:=hid (HG3.out.pushE hG hk hl);have HB6:=hid (HBK.out.trans hb);clear hG hb hs hk hl);obtain⟨es2,he2⟩:∃ l,l=es++[(o1,o2,o3)]:=⟨_,rfl⟩
      have hl2:es.length+1=es2.length:=by rw[he2];simp
      rw[hl2,← he2] at HG6;rw[hl2];rw[show es++[(⟨(o1,o2,o3),(u1,u2,u3),ats⟩:ActG).1]=es2 from he2.symm] at HS2;clear HG3 he2 hl2 c3 HEL HBK HBI p1;go_wp2
      go_loopw [5,12] (fun ee i wr=>∃ (r:Nat) (ae:Option Addr) (ce:Nat) (es:List Trip),i=.int .i64 r∧ee=.slice ae es.length ce∧r≤u2∧Hid (G3 w1.heap.size C [.string nm,.slice x1 m x3,.slice g1 g2 g3,.slice (some ⟨ga,0,none⟩) y2 y3] wr (.slice av vs.length cv) (.slice ae es.length ce) vs es)∧Hid (es++(ats.drop r++RE3)=AE)∧Hid (Below w1.heap.size w1 wr)) (fun _ i _=>u2-(intOf i).toNat)
      case atStart=>exact⟨0,some ⟨g6,0,none⟩,c6,es2,rfl,rfl,Nat.zero_le _,HG6,HS2,HB6⟩
      case round =>
      clear HG6 HS2 HB6;obtain⟨r,ae,ce,es,rfl,rfl,hr,HG3,HSV,HBK⟩:=hrel;have HBI:=hid (HBB.out.trans (HBK.out.mono HB1.out));have c3:=HG3.out.bx.c 3 rfl;have p4:wr.cell? ⟨ga,n * 5+4,none⟩=some (.slice u1 u2 u3):=(HCE.out wr HBI.out ga _ HQ4.out.1).trans HQ4.out.2;rcases Nat.lt_or_ge r u2 with hltr|hger
      ·obtain⟨gu,hgu⟩:=HAW.out.s (Nat.lt_of_le_of_lt (Nat.zero_le _) hltr);have hgu:u1=some ⟨gu,0,none⟩:=hgu;subst hgu;obtain⟨hguE,huc⟩:=HAW.out.c gu rfl;have hguE:gu<E:=by rw[← HE.out];exact hguE
       have hrt:r<ats.length:=Nat.lt_of_lt_of_le hltr (Nat.le_of_eq HAW.out.n.symm);obtain⟨t,ht⟩:∃ t,ats[r]?=some t:=⟨_,List.getElem?_eq_getElem hrt⟩
       have pc:=(HCE.out wr HBI.out gu _ hguE).trans (huc r t ht);have hdr:=drop_get ht;have HS4:=hid (show (es++[t])++(ats.drop (r+1)++RE3)=AE from by
        have:=HSV.out;rw[hdr] at this;rw[← this];simp)
       have hel:es.length≤900000:=by
        have h1:=HCNT.out;have h2:=congrArg List.length HS4.out;simp only[List.length_append,List.length_cons] at h2;omega
       have HEL:=hid hel;obtain⟨t1,t2,t3⟩:=t;unfold slv at pc;have r2:(0:Int)≤(r:Int):=by omega
       have r3:(r:Int)<(u2:Int):=by omega
       have r4:decide ((r:Int)<(u2:Int))=true:=decide_eq_true r3;clear hguE huc hrt ht hdr hel;go_upto_region 26 with (at_builtin;refine wpList_gather2 (w0:=wr) rfl (.tmp 121) (.tmp 132) 112 rfl l0 _ Tryz.underlying112 HL.out.1 HL.out.2 rfl w1.heap.size (.slice ae es.length ce) es rfl HG3.out.gg.ge (t1,t2,t3) _ _ 1 1 rfl rfl rfl HEL.out HBK.out.size ?_;intro g7 c7 w7 hG hb hs hk hl;have HG7:=hid (HG3.out.pushE hG hk hl);have HB7:=hid (HBK.out.trans hb);clear hG hb hs hk hl);go_wp2;go_roundw
       case rel=>exact⟨r+1,some ⟨g7,0,none⟩,c7,es++[(t1,t2,t3)],by go_num,by rw[List.length_append];rfl,hltr,by rw[List.length_append];exact HG7,HS4,HB7⟩
       case measure=>simp[intOf];omega
      ·obtain rfl:r=u2:=by omega
       have d2:decide ((r:Int)<(r:Int))=false:=decide_eq_false (by omega);have HS5:=hid (show es++((acts.drop (n+1)).flatMap aE++RE2)=AE from by
        have:=HSV.out;rw[List.drop_eq_nil_of_le (Nat.le_of_eq HAW.out.n),List.nil_append] at this;rw[← HRR3.out];exact this)
       clear hger hr HSV HBI;go_wp2;go_roundw
       case rel=>exact⟨n+1,ae,ce,es,by go_num,rfl,hltn,HG3,HS5,HBK⟩
       case measure=>simp[intOf];omega
     ·obtain rfl:n=y2:=by omega
      have d2:decide ((n:Int)<(n:Int))=false:=decide_eq_false (by omega);have HS6:=hid (show vs++((chs.drop (j+1)).flatMap ChG.pvs++RV)=AV∧es++((chs.drop (j+1)).flatMap gE++RE)=AE from by
       have:=HSV.out;rw[List.drop_eq_nil_of_le (Nat.le_of_eq HCW.out.nb),List.flatMap_nil,List.nil_append] at this;rw[← HRR2.out.1,← HRR2.out.2];exact⟨HS5.out,this⟩)
      clear hgen hn HSV HBI;go_wp2;go_roundw
      case rel=>exact⟨j+1,av,ae,cv,ce,vs,es,by go_num,rfl,rfl,hltj,hid HG3.out.gg,HS6,HBK⟩
      case measure=>simp[intOf];omega
   ·obtain rfl:j=r2:=by omega
    have d1:decide ((j:Int)<(j:Int))=false:=decide_eq_false (by omega);have HS6:=hid (show vs++(kg.drop (k+1)).flatMap kV=AV∧es++(kg.drop (k+1)).flatMap kE=AE from by
     have:=HSP.out;rw[List.drop_eq_nil_of_le (Nat.le_of_eq HKW.out.n),List.flatMap_nil,List.flatMap_nil,List.nil_append,List.nil_append] at this;rw[← HRR.out.1,← HRR.out.2];exact this)
    clear hgej hj HSP HBI;go_wp2;go_roundw
    case rel=>exact⟨k+1,av,ae,cv,ce,vs,es,by go_num,rfl,rfl,hlt,HGG,HS6,HBK⟩
    case measure=>simp[intOf];omega
  ·obtain rfl:k=X.kinds.length:=by omega
   have d1:decide ((X.kinds.length:Int)<(X.kinds.length:Int))=false:=decide_eq_false (by omega);have hve:vs=AV∧es=AE:=by
    have:=HSP.out;rw[List.drop_eq_nil_of_le (Nat.le_of_eq HKD.out.1),List.flatMap_nil,List.flatMap_nil,List.append_nil,List.append_nil] at this;exact this
   rw[hve.1,hve.2] at HGG;rw[hve.1,hve.2];have HGTW:=hid (show Gat 53 W0.heap.size wr (.slice a X.tags.length c) tr from HGT.out.keep (fun g hg=>HBK.out.block g (World.ownsRow.lt HGT.out g hg).2));rw[← HTR.out.1] at HGTW ⊢;have hsw:W0.heap.size≤wr.heap.size:=HBI.out.size;have hkeep:∀ g,g<w.heap.size→wr.heap[g]?=w.heap[g]?:=fun g hg=>(HBI.out.block g (Nat.lt_trans (by rw[← HE.out];exact hg) HS0.out)).trans (HB0.out.block g hg);have HMT:=hid (show Mks 3 1 mI wr tr 0 0 from Mks.start (fun t ht=>(HROWS.out.1 t ht).1.keep (fun g hg=>hkeep g ((HROWS.out.1 t ht).1.lt g hg))));have HMV:=hid (show Mks 9 1 mS wr AV 0 0 from Mks.start (fun t ht=>(HROWS.out.2.1 t ht).1.keep (fun g hg=>hkeep g ((HROWS.out.2.1 t ht).1.lt g hg))));have HME:=hid (show Mks 109 9 mI wr AE 0 0 from Mks.start (fun t ht=>(HROWS.out.2.2 t ht).1.keep (fun g hg=>hkeep g ((HROWS.out.2.2 t ht).1.lt g hg))));obtain⟨hnd,hin⟩:=HFALL.out;obtain⟨n1,n2,n3⟩:=List.nodup_append.1 hnd;obtain⟨n4,n5,n6⟩:=List.nodup_append.1 n2;have HNT:=hid n1;have HNV:=hid n4;have HNE:=hid n5;have HTV:=hid (show ∀ b ∈ tr.flatMap blk,b ∉ AV.flatMap blk from fun b h1 h2=>n3 b h1 b (List.mem_append_left _ h2) rfl);have HTE:=hid (show ∀ b ∈ tr.flatMap blk,b ∉ AE.flatMap blk from fun b h1 h2=>n3 b h1 b (List.mem_append_right _ h2) rfl);have HVE:=hid (show ∀ b ∈ AV.flatMap blk,b ∉ AE.flatMap blk from fun b h1 h2=>n6 b h1 b h2 rfl);have HIN:=hid (show ∀ b,(b ∈ tr.flatMap blk∨b ∈ AV.flatMap blk∨b ∈ AE.flatMap blk)→b ∈ F∧b<E from fun b hb=>hin b (by rcases hb with hb|hb|hb <;> simp[hb]));obtain⟨w3,hw3⟩:∃ w3,w3=wr:=⟨_,rfl⟩
   rw[← hw3] at HGG HGTW HMT HMV HME HBI hsw b1 ⊢;have HLO:=hid (show ∀ b,(b ∈ tr.flatMap blk∨b ∈ AV.flatMap blk∨b ∈ AE.flatMap blk)→b<W0.heap.size∧b<w1.heap.size∧b<w3.heap.size from fun b hb=>by have:=(HIN.out b hb).2;have:=HS0.out;have:=HB1.out;omega);have HKP:=hid (show ∀ W,Out (tr.flatMap blk++(AV.flatMap blk++AE.flatMap blk)) w3 W→Gat 53 W0.heap.size W (.slice a tr.length c) tr∧GG w1.heap.size W (.slice av AV.length cv) (.slice ae AE.length ce) AV AE from fun W hW=>by
    have hk:∀ g,W0.heap.size≤g→g<w3.heap.size→W.heap[g]?=w3.heap[g]?:=fun g h1 h2=>hW.block g h2 (fun hb=>by
     have:=(HLO.out g (by simpa [List.mem_append] using hb)).1;omega)
    have hlt:=HB1.out;exact⟨HGTW.out.keep (fun g hg=>by have:=World.ownsRow.lt HGTW.out g hg;exact hk g this.1 this.2),⟨HGG.out.gv.keep (fun g hg=>by have:=World.ownsRow.lt HGG.out.gv g hg;exact hk g (by omega) this.2),HGG.out.ge.keep (fun g hg=>by have:=World.ownsRow.lt HGG.out.ge g hg;exact hk g (by omega) this.2),HGG.out.ne⟩⟩)
   have HLT:=hid (show tr.length≤900000 from by rw[HTR.out.1];exact HFEW.out.1.1);have HLV:=hid (show AV.length≤900000 from by have:=HCNT.out;omega);have HLE:=hid (show AE.length≤900000 from by have:=HCNT.out;omega);have HB3:=hid (show W0.heap.size≤w3.heap.size from hsw);have HO0:=hid (Out.refl (tr.flatMap blk++(AV.flatMap blk++AE.flatMap blk)) w3);clear hge hk hve HSP hnd hin n1 n2 n3 n4 n5 n6 hkeep hw3 hsw vs es;go_wp2
   go_loopw [13] (fun i wr=>∃ k:Nat,i=.int .i64 k∧k≤tr.length∧Hid (Mks 3 1 mI wr tr k 0)∧Hid (Out (tr.flatMap blk) w3 wr)) (fun i _=>tr.length-(intOf i).toNat)
   case atStart=>exact⟨0,rfl,Nat.zero_le _,HMT,hid (Out.refl _ _)⟩
   case round =>
   clear HMT;obtain⟨k,rfl,hk,HMK,HOK⟩:=hrel;rcases Nat.lt_or_ge k tr.length with hlt|hge
   ·obtain⟨t,ht⟩:∃ t,tr[k]?=some t:=⟨_,List.getElem?_eq_getElem hlt⟩
    have HT:=hid ht;have ht2:t.2.1≤900000:=(HROWS.out.1 _ (List.mem_of_getElem? ht)).2;obtain⟨t1,t2,t3⟩:=t;simp only at ht2;obtain⟨gK,hgK⟩:=Gat.some (HKP.out w3 HO0.out).1 hlt;subst hgK;have hlb:=HLT.out;have k2:(0:Int)≤(k:Int):=by omega
    have k3:(k:Int)<(tr.length:Int):=by omega
    have k4:decide ((k:Int)<(tr.length:Int))=true:=decide_eq_true k3;clear ht;go_wp2
    go_loopw [14] (fun i wr=>∃ j:Nat,i=.int .i64 j∧j≤t2∧Hid (Mks 3 1 mI wr tr k j)∧Hid (Out (tr.flatMap blk) w3 wr)) (fun i _=>t2-(intOf i).toNat)
    case atStart=>exact⟨0,rfl,Nat.zero_le _,HMK,HOK⟩
    case round =>
    clear HMK HOK;obtain⟨j,rfl,hj,HMK,HOK⟩:=hrel;have HOA:=hid (HO0.out.then HOK.out (fun b hb=>.inl (by simp only[List.mem_append];exact(.inl hb))));have b3:wr.cell? ⟨gK,k,none⟩=some (.slice t1 t2 t3):=Gat.cell (HKP.out wr HOA.out).1 HT.out;rcases Nat.lt_or_ge j t2 with hltj|hgej
    ·obtain⟨g,rfl⟩:=(HMK.out.row HT.out).some hltj;obtain⟨u,q⟩:=(HMK.out.row HT.out).cell hltj 0 (by decide);rw[Nat.mul_one,Nat.add_zero] at q;have f:=(HMK.out.row HT.out).fz j;have hw1:IntKind.i64.wrap (1000 * (k:Int))=1000 * (k:Int):=by rw[IntKind.wrap_i64];omega
     have hw2:IntKind.i64.wrap (1000 * (k:Int)+(j:Int))=1000 * (k:Int)+(j:Int):=by rw[IntKind.wrap_i64];omega
     go_upto_region 33 with (fail);generalize hW2:World.setCell _ _ _=W2;have HM2:=hid (show Mks 3 1 mI W2 tr k (j+1) by rw[← hW2];exact Mks.mark HNT.out (by decide) HT.out hltj (by omega) rfl HMK.out);have HO2:=hid (show Out (tr.flatMap blk) w3 W2 by rw[← hW2];exact HOK.out.setCell (.inl (mem_blk HT.out rfl)) _ _);clear hW2 q f hw1 hw2 b3 HMK HOK;go_wp2;go_roundw
     case rel=>exact⟨j+1,by go_num,by omega,HM2,HO2⟩
     case measure=>simp[intOf];omega
    ·obtain rfl:j=t2:=by omega
     have d2:decide ((j:Int)<(j:Int))=false:=decide_eq_false (by omega);have HM2:=hid (HMK.out.next (fun t' ht'=>by have:=Option.some.inj (ht'.symm.trans HT.out);subst this;exact Nat.le_refl _));clear hgej hj HMK;go_wp2;go_roundw
     case rel=>exact⟨k+1,by go_num,by omega,HM2,HOK⟩
     case measure=>simp[intOf];omega
   ·obtain rfl:k=tr.length:=by omega
    have d2:decide ((tr.length:Int)<(tr.length:Int))=false:=decide_eq_false (by omega);have HOA:=hid (HO0.out.then HOK.out (fun b hb=>.inl (by simp only[List.mem_append];exact(.inl hb))));replace HMV:=hid (show Mks 9 1 mS wr AV 0 0 from HMV.out.keep (HOK.out.same (fun b hb=>⟨Nat.lt_of_lt_of_le (HLO.out b (.inr (.inl hb))).2.2 HO0.out.size,fun e=>HTV.out b e hb⟩)));replace HME:=hid (show Mks 109 9 mI wr AE 0 0 from HME.out.keep (HOK.out.same (fun b hb=>⟨Nat.lt_of_lt_of_le (HLO.out b (.inr (.inr hb))).2.2 HO0.out.size,fun e=>HTE.out b e hb⟩)));have HMT:=HMK;obtain⟨w4,hw⟩:∃ w4,w4=wr:=⟨_,rfl⟩
    rw[← hw] at HMT HMV HME HOA ⊢;have HO1:=HOA;clear hge hk HMK HOK HOA hw;go_wp2
    go_loopw [15] (fun i wr=>∃ k:Nat,i=.int .i64 k∧k≤AV.length∧Hid (Mks 9 1 mS wr AV k 0)∧Hid (Out (AV.flatMap blk) w4 wr)) (fun i _=>AV.length-(intOf i).toNat)
    case atStart=>exact⟨0,rfl,Nat.zero_le _,HMV,hid (Out.refl _ _)⟩
    case round =>
    clear HMV;obtain⟨k,rfl,hk,HMK,HOK⟩:=hrel;rcases Nat.lt_or_ge k AV.length with hlt|hge
    ·obtain⟨t,ht⟩:∃ t,AV[k]?=some t:=⟨_,List.getElem?_eq_getElem hlt⟩
     have HT:=hid ht;have ht2:t.2.1≤900000:=(HROWS.out.2.1 _ (List.mem_of_getElem? ht)).2;obtain⟨t1,t2,t3⟩:=t;simp only at ht2;obtain⟨gK,hgK⟩:=Gat.some (HKP.out w4 HO1.out).2.gv hlt;subst hgK;have hlb:=HLV.out;have k2:(0:Int)≤(k:Int):=by omega
     have k3:(k:Int)<(AV.length:Int):=by omega
     have k4:decide ((k:Int)<(AV.length:Int))=true:=decide_eq_true k3;clear ht;go_wp2
     go_loopw [16] (fun i wr=>∃ j:Nat,i=.int .i64 j∧j≤t2∧Hid (Mks 9 1 mS wr AV k j)∧Hid (Out (AV.flatMap blk) w4 wr)) (fun i _=>t2-(intOf i).toNat)
     case atStart=>exact⟨0,rfl,Nat.zero_le _,HMK,HOK⟩
     case round =>
     clear HMK HOK;obtain⟨j,rfl,hj,HMK,HOK⟩:=hrel;have HOA:=hid (HO1.out.then HOK.out (fun b hb=>.inl (by simp only[List.mem_append];exact(.inr (.inl hb)))));have b3:wr.cell? ⟨gK,k,none⟩=some (.slice t1 t2 t3):=Gat.cell (HKP.out wr HOA.out).2.gv HT.out;rcases Nat.lt_or_ge j t2 with hltj|hgej
     ·obtain⟨g,rfl⟩:=(HMK.out.row HT.out).some hltj;obtain⟨u,q⟩:=(HMK.out.row HT.out).cell hltj 0 (by decide);rw[Nat.mul_one,Nat.add_zero] at q;have f:=(HMK.out.row HT.out).fz j;have j3:(j:Int)<(t2:Int):=by omega
      have j4:decide ((j:Int)<(t2:Int))=true:=decide_eq_true j3;go_wp2;refine reg41_on gK AV.length cv k j g t2 t3 u hlt hltj hlb ht2 b3 q f ?_;intro _ _ _ _ _ _ _ _ _ _ _ _ _ _ _ _ _ _ _ _ W2 hbx;have HBX:=hid hbx;have HM2:=hid (show Mks 9 1 mS W2 AV k (j+1) from (Mks.mark HNV.out (by decide) HT.out hltj (by omega) rfl HMK.out).keep (fun b hb=>HBX.out.block b (by rw[World.size_setCell];have:=(HLO.out b (.inr (.inl hb))).2.2;have:=HOA.out.size;omega)));have HO2:=hid (show Out (AV.flatMap blk) w4 W2 from (HOK.out.setCell (.inl (mem_blk HT.out rfl)) _ _).below HBX.out);clear hbx HBX q f b3 HMK HOK HOA;go_wp2;go_roundw
      case rel=>exact⟨j+1,by go_num,by omega,HM2,HO2⟩
      case measure=>simp[intOf];omega
     ·obtain rfl:j=t2:=by omega
      have d2:decide ((j:Int)<(j:Int))=false:=decide_eq_false (by omega);have HM2:=hid (HMK.out.next (fun t' ht'=>by have:=Option.some.inj (ht'.symm.trans HT.out);subst this;exact Nat.le_refl _));clear hgej hj HMK;go_wp2;go_roundw
      case rel=>exact⟨k+1,by go_num,by omega,HM2,HOK⟩
      case measure=>simp[intOf];omega
    ·obtain rfl:k=AV.length:=by omega
     have d2:decide ((AV.length:Int)<(AV.length:Int))=false:=decide_eq_false (by omega);have HOA:=hid (HO1.out.then HOK.out (fun b hb=>.inl (by simp only[List.mem_append];exact(.inr (.inl hb)))));replace HMT:=hid (show Mks 3 1 mI wr tr tr.length 0 from HMT.out.keep (HOK.out.same (fun b hb=>⟨Nat.lt_of_lt_of_le (HLO.out b (.inl hb)).2.2 HO1.out.size,fun e=>HTV.out b hb e⟩)));replace HME:=hid (show Mks 109 9 mI wr AE 0 0 from HME.out.keep (HOK.out.same (fun b hb=>⟨Nat.lt_of_lt_of_le (HLO.out b (.inr (.inr hb))).2.2 HO1.out.size,fun e=>HVE.out b e hb⟩)));have HMV:=HMK;obtain⟨w5,hw⟩:∃ w5,w5=wr:=⟨_,rfl⟩
     rw[← hw] at HMT HMV HME HOA ⊢;have HO2:=HOA;clear hge hk HMK HOK HOA hw;go_wp2
     go_loopw [17] (fun i wr=>∃ k:Nat,i=.int .i64 k∧k≤AE.length∧Hid (Mks 109 9 mI wr AE k 0)∧Hid (Out (AE.flatMap blk) w5 wr)) (fun i _=>AE.length-(intOf i).toNat)
     case atStart=>exact⟨0,rfl,Nat.zero_le _,HME,hid (Out.refl _ _)⟩
     case round =>
     clear HME;obtain⟨k,rfl,hk,HMK,HOK⟩:=hrel;rcases Nat.lt_or_ge k AE.length with hlt|hge
     ·obtain⟨t,ht⟩:∃ t,AE[k]?=some t:=⟨_,List.getElem?_eq_getElem hlt⟩
      have HT:=hid ht;have ht2:t.2.1≤900000:=(HROWS.out.2.2 _ (List.mem_of_getElem? ht)).2;obtain⟨t1,t2,t3⟩:=t;simp only at ht2;obtain⟨gK,hgK⟩:=Gat.some (HKP.out w5 HO2.out).2.ge hlt;subst hgK;have hlb:=HLE.out;have k2:(0:Int)≤(k:Int):=by omega
      have k3:(k:Int)<(AE.length:Int):=by omega
      have k4:decide ((k:Int)<(AE.length:Int))=true:=decide_eq_true k3;clear ht;go_wp2
      go_loopw [18] (fun i wr=>∃ j:Nat,i=.int .i64 j∧j≤t2∧Hid (Mks 109 9 mI wr AE k j)∧Hid (Out (AE.flatMap blk) w5 wr)) (fun i _=>t2-(intOf i).toNat)
      case atStart=>exact⟨0,rfl,Nat.zero_le _,HMK,HOK⟩
      case round =>
      clear HMK HOK;obtain⟨j,rfl,hj,HMK,HOK⟩:=hrel;have HOA:=hid (HO2.out.then HOK.out (fun b hb=>.inl (by simp only[List.mem_append];exact(.inr (.inr hb)))));have b3:wr.cell? ⟨gK,k,none⟩=some (.slice t1 t2 t3):=Gat.cell (HKP.out wr HOA.out).2.ge HT.out;rcases Nat.lt_or_ge j t2 with hltj|hgej
      ·obtain⟨g,rfl⟩:=(HMK.out.row HT.out).some hltj;obtain⟨u0,q0⟩:=(HMK.out.row HT.out).cell hltj 0 (by decide);have f0:=(HMK.out.row HT.out).fz (j * 9+0);obtain⟨u1,q1⟩:=(HMK.out.row HT.out).cell hltj 1 (by decide);have f1:=(HMK.out.row HT.out).fz (j * 9+1);obtain⟨u2,q2⟩:=(HMK.out.row HT.out).cell hltj 2 (by decide);have f2:=(HMK.out.row HT.out).fz (j * 9+2);obtain⟨u3,q3⟩:=(HMK.out.row HT.out).cell hltj 3 (by decide);have f3:=(HMK.out.row HT.out).fz (j * 9+3);obtain⟨u4,q4⟩:=(HMK.out.row HT.out).cell hltj 4 (by decide);have f4:=(HMK.out.row HT.out).fz (j * 9+4);obtain⟨u5,q5⟩:=(HMK.out.row HT.out).cell hltj 5 (by decide);have f5:=(HMK.out.row HT.out).fz (j * 9+5);obtain⟨u6,q6⟩:=(HMK.out.row HT.out).cell hltj 6 (by decide);have f6:=(HMK.out.row HT.out).fz (j * 9+6);obtain⟨u7,q7⟩:=(HMK.out.row HT.out).cell hltj 7 (by decide);have f7:=(HMK.out.row HT.out).fz (j * 9+7);obtain⟨u8,q8⟩:=(HMK.out.row HT.out).cell hltj 8 (by decide);have f8:=(HMK.out.row HT.out).fz (j * 9+8);rw[Nat.add_zero] at q0 f0;have sf:=store_float;have sc:=store_cplx;have hw1:IntKind.i64.wrap (1000 * (k:Int))=1000 * (k:Int):=by rw[IntKind.wrap_i64];omega
       have hw2:IntKind.i64.wrap (1000 * (k:Int)+(j:Int))=1000 * (k:Int)+(j:Int):=by rw[IntKind.wrap_i64];omega
       go_upto_region 47 with (fail);generalize hW2:World.setCell _ _ _=W2;have HM2:=hid (show Mks 109 9 mI W2 AE k (j+1) by
        rw[← hW2];refine Mks.other HNE.out HT.out (fun q hq=>by omega) _ ?_;refine Mks.other HNE.out HT.out (fun q hq=>by omega) _ ?_;refine Mks.other HNE.out HT.out (fun q hq=>by omega) _ ?_;refine Mks.other HNE.out HT.out (fun q hq=>by omega) _ ?_;refine Mks.other HNE.out HT.out (fun q hq=>by omega) _ ?_;refine Mks.other HNE.out HT.out (fun q hq=>by omega) _ ?_;refine Mks.other HNE.out HT.out (fun q hq=>by omega) _ ?_;refine Mks.other HNE.out HT.out (fun q hq=>by omega) _ ?_;exact Mks.mark HNE.out (by decide) HT.out hltj (by omega) rfl HMK.out)
       have HO2:=hid (show Out (AE.flatMap blk) w5 W2 by rw[← hW2];(repeat refine Out.setCell ?_ (.inl (mem_blk HT.out rfl)) _ _);exact HOK.out);clear hW2 q0 q1 q2 q3 q4 q5 q6 q7 q8 f0 f1 f2 f3 f4 f5 f6 f7 f8 hw1 hw2 b3 HMK HOK;go_wp2;go_roundw
       case rel=>exact⟨j+1,by go_num,by omega,HM2,HO2⟩
       case measure=>simp[intOf];omega
      ·obtain rfl:j=t2:=by omega
       have d2:decide ((j:Int)<(j:Int))=false:=decide_eq_false (by omega);have HM2:=hid (HMK.out.next (fun t' ht'=>by have:=Option.some.inj (ht'.symm.trans HT.out);subst this;exact Nat.le_refl _));clear hgej hj HMK;go_wp2;go_roundw
       case rel=>exact⟨k+1,by go_num,by omega,HM2,HOK⟩
       case measure=>simp[intOf];omega
     ·obtain rfl:k=AE.length:=by omega
      have d2:decide ((AE.length:Int)<(AE.length:Int))=false:=decide_eq_false (by omega);have HOA:=hid (HO2.out.then HOK.out (fun b hb=>.inl (by simp only[List.mem_append];exact(.inr (.inr hb)))));replace HMT:=hid (show Mks 3 1 mI wr tr tr.length 0 from HMT.out.keep (HOK.out.same (fun b hb=>⟨Nat.lt_of_lt_of_le (HLO.out b (.inl hb)).2.2 HO2.out.size,fun e=>HTE.out b hb e⟩)));replace HMV:=hid (show Mks 9 1 mS wr AV AV.length 0 from HMV.out.keep (HOK.out.same (fun b hb=>⟨Nat.lt_of_lt_of_le (HLO.out b (.inr (.inl hb))).2.2 HO2.out.size,fun e=>HVE.out b hb e⟩)));have HME:=HMK;obtain⟨w6,hw⟩:∃ w6,w6=wr:=⟨_,rfl⟩
      rw[← hw] at HMT HMV HME HOA ⊢;have HO3:=HOA;clear hge hk HMK HOK HOA hw;have HGK:=hid (HKP.out w6 HO3.out);have HAT:=hid (show Gat 53 W0.heap.size w6 (.slice a tr.length c) tr from HGK.out.1);have HAV:=hid (show Gat 93 w1.heap.size w6 (.slice av AV.length cv) AV from HGK.out.2.gv);have HAE:=hid (show Gat 39 w1.heap.size w6 (.slice ae AE.length ce) AE from HGK.out.2.ge);have HUT:=hid (show Gon 3 1 mI w6.heap.size w6 tr tr 0 from Gon.start HMT.out);have HUV:=hid (show Gon 9 1 mS w6.heap.size w6 AV AV 0 from Gon.start HMV.out);have HUE:=hid (show Gon 109 9 mI w6.heap.size w6 AE AE 0 from Gon.start HME.out);have hps:=HO3.out.size;have h31:=HB3.out;have HST:=hid (show Sp w6.heap.size W0.heap.size (tr.flatMap blk) (Value.slice a tr.length c).ownBlock.toList from ⟨fun b hb=>(HLO.out b (.inl hb)).1,fun b hb=>by have e:=HAT.out.inv b hb;subst e;exact World.ownsRow.lt HAT.out b rfl,by omega⟩);have HSV:=hid (show Sp w6.heap.size W0.heap.size (AV.flatMap blk) (Value.slice av AV.length cv).ownBlock.toList from ⟨fun b hb=>(HLO.out b (.inr (.inl hb))).1,fun b hb=>by have e:=HAV.out.inv b hb;subst e;have:=World.ownsRow.lt HAV.out b rfl;have:=HB1.out;omega,by omega⟩);have HSE:=hid (show Sp w6.heap.size W0.heap.size (AE.flatMap blk) (Value.slice ae AE.length ce).ownBlock.toList from ⟨fun b hb=>(HLO.out b (.inr (.inr hb))).1,fun b hb=>by have e:=HAE.out.inv b hb;subst e;have:=World.ownsRow.lt HAE.out b rfl;have:=HB1.out;omega,by omega⟩);have hrt:∀ b ∈ (Value.slice a tr.length c).ownBlock.toList,b<w1.heap.size:=fun b hb=>by have e:=HAT.out.inv b hb;subst e;exact(World.ownsRow.lt HGT.out b rfl).2
      have hrv:∀ b ∈ (Value.slice av AV.length cv).ownBlock.toList,w1.heap.size≤b:=fun b hb=>by have e:=HAV.out.inv b hb;subst e;exact(World.ownsRow.lt HAV.out b rfl).1
      have hre:∀ b ∈ (Value.slice ae AE.length ce).ownBlock.toList,w1.heap.size≤b:=fun b hb=>by have e:=HAE.out.inv b hb;subst e;exact(World.ownsRow.lt HAE.out b rfl).1
      have HRTV:=hid (show ∀ b ∈ (Value.slice a tr.length c).ownBlock.toList,b ∉ (Value.slice av AV.length cv).ownBlock.toList from fun b h1 h2=>by have:=hrt b h1;have:=hrv b h2;omega);have HRTE:=hid (show ∀ b ∈ (Value.slice a tr.length c).ownBlock.toList,b ∉ (Value.slice ae AE.length ce).ownBlock.toList from fun b h1 h2=>by have:=hrt b h1;have:=hre b h2;omega);have HRVE:=hid (show ∀ b ∈ (Value.slice av AV.length cv).ownBlock.toList,b ∉ (Value.slice ae AE.length ce).ownBlock.toList from fun b h1 h2=>by
       have e1:=HAV.out.inv b h1;have e2:=HAE.out.inv b h2;exact HGK.out.2.ne b (by rw[e1];rfl) (by rw[e2];rfl))
      have HOF:=hid (show Out F w w6 from (Out.of_below (HB0.out.trans (HBI.out.mono (by have:=HS0.out;have:=HE.out;omega)))).then HO3.out (fun b hb=>.inl (HIN.out b (by simpa [List.mem_append] using hb)).1));have HWE:=hid (show w.heap.size≤W0.heap.size from by have:=HS0.out;have:=HE.out;omega);have HPP:=hid (Nat.le_refl w6.heap.size);clear hps h31 hrt hrv hre HMT HMV HME HGK HKP;obtain⟨zT,hz,hz0,hz1,hz2⟩:=info_parts3 infoInt8;have HZ:=hid (And.intro hz (And.intro hz0 (And.intro hz1 hz2)));clear hz hz0 hz1 hz2;go_wp2
      go_loopw [19] (fun i wr=>∃ (k:Nat) (us:List Trip),i=.int .i64 k∧k≤tr.length∧Hid (Gat 53 W0.heap.size wr (.slice a tr.length c) us)∧Hid (Gon 3 1 mI w6.heap.size wr tr us k)∧Hid (Out (tr.flatMap blk++(Value.slice a tr.length c).ownBlock.toList) w6 wr)) (fun i _=>tr.length-(intOf i).toNat)
      case atStart=>exact⟨0,tr,rfl,Nat.zero_le _,HAT,HUT,hid (Out.refl _ _)⟩
      case round =>
      clear HAT HUT;obtain⟨k,us,rfl,hk,HAT,HUT,HOK⟩:=hrel;rcases Nat.lt_or_ge k tr.length with hlt|hge
      ·obtain⟨t,ht⟩:∃ t,tr[k]?=some t:=⟨_,List.getElem?_eq_getElem hlt⟩
       have HT:=hid ht;have HUS:=hid (HUT.out.late k t (Nat.le_refl _) ht);have ht2:t.2.1≤900000:=(HROWS.out.1 _ (List.mem_of_getElem? ht)).2;have HRW:=hid (HUT.out.row k t HUS.out);obtain⟨t1,t2,t3⟩:=t;simp only at ht2;obtain⟨gK,hgK⟩:=Gat.some HAT.out hlt;subst hgK;have b3:wr.cell? ⟨gK,k,none⟩=some (.slice t1 t2 t3):=HAT.out.cell HUS.out;have f3:=HAT.out.fz k;have HGW:=hid (show gK<wr.heap.size from HAT.out.lt.2);have HGR:=hid (HST.out.r gK (own_mem8 rfl));have HGF:=hid (show gK ∉ tr.flatMap blk from fun e=>by have:=HST.out.f gK e;have:=HGR.out;omega);have HTF:=hid (show ∀ b,t1=some ⟨b,0,none⟩→b ∈ tr.flatMap blk from fun b hb=>mem_blk HT.out hb);have HNE2:=hid (show t1≠some ⟨gK,0,none⟩ from fun e=>HGF.out (HTF.out gK e));have HPW:=hid (show w6.heap.size≤wr.heap.size from Nat.le_trans HPP.out HOK.out.size);have hlb:=HLT.out;have k2:(0:Int)≤(k:Int):=by omega
       have k3:(k:Int)<(tr.length:Int):=by omega
       have k4:decide ((k:Int)<(tr.length:Int))=true:=decide_eq_true k3;clear ht;go_upto_region 51 with (at_builtin;refine wpList_append_rowL (w0:=wr) rfl (.tmp 231) (.tmp 232) 53 rfl zT (.int .i64 0) 8 Tryz.underlying53 HZ.out.1 HZ.out.2 rfl (by decide) t1 t2 t3 rfl HRW.out 2 2 [.int .i64 (-1),.int .i64 (-2)] _ _ rfl rfl rfl (by decide) (by simp[Value.oneCell']) (by omega) (by decide) (tr.flatMap blk++(Value.slice (some ⟨gK,0,none⟩) tr.length c).ownBlock.toList) w6 HOK.out (fun b hb=>.inl (List.mem_append_left _ (HTF.out b hb))) ?_;intro g' c' w5 hO5 hs5 hk5 hR5 hl5 hc5;have hg5:w5.heap[gK]?=wr.heap[gK]?:=hk5 gK HGW.out HNE2.out;have b5:=(World.cell?_of_block (a:=⟨gK,k,none⟩) hg5).trans b3;have f5:=(World.frozen?_of_block (a:=⟨gK,k,none⟩) hg5).trans f3;have HG5:=hid (HAT.out.keep (w':=w5) (fun g hg=>by have e:=Option.some.inj hg;subst e;exact hg5));have HN5:=hid (HUT.out.next HNT.out (fun g hg=>Nat.lt_of_lt_of_le (HST.out.f g hg) HST.out.le) HPW.out HT.out hk5 hR5 hl5 (by decide) hc5);have HO5:=hid hO5;clear hO5 hs5 hk5 hR5 hl5 hc5 hg5);generalize hW6:World.setCell _ _ _=W6;have HG6:=hid (show Gat 53 W0.heap.size W6 (.slice (some ⟨gK,0,none⟩) tr.length c) (us.set k (some ⟨g',0,none⟩,t2+2,c')) from by rw[← hW6];exact HG5.out.set k (some ⟨g',0,none⟩,t2+2,c'));have HN6:=hid (show Gon 3 1 mI w6.heap.size W6 tr (us.set k (some ⟨g',0,none⟩,t2+2,c')) (k+1) from by
        rw[← hW6];refine HN5.out.keep (fun g hg _=>heap_setCell_other w5 ⟨gK,k,none⟩ g _ ?_);rintro rfl;rcases hg with hg|hg
        ·exact HGF.out hg
        ·have:=HGR.out;omega)
       have HO6:=hid (show Out (tr.flatMap blk++(Value.slice (some ⟨gK,0,none⟩) tr.length c).ownBlock.toList) w6 W6 from by rw[← hW6];exact HO5.out.setCell (.inl (List.mem_append_right _ (own_mem8 rfl))) _ _);clear hW6 b3 f3 b5 f5;go_wp2;go_roundw
       case rel=>exact⟨k+1,_,by go_num,hlt,HG6,HN6,HO6⟩
       case measure=>simp[intOf];omega
      ·obtain rfl:k=tr.length:=by omega
       have d2:decide ((tr.length:Int)<(tr.length:Int))=false:=decide_eq_false (by omega);replace HUV:=hid (HUV.out.over HOK.out (HSV.out.gon HST.out (fun b h1 h2=>HTV.out b h2 h1)));replace HAV:=hid (HAV.out.over HOK.out (HSV.out.gat HST.out (fun b h1 h2=>HRTV.out b h2 h1)));replace HUE:=hid (HUE.out.over HOK.out (HSE.out.gon HST.out (fun b h1 h2=>HTE.out b h2 h1)));replace HAE:=hid (HAE.out.over HOK.out (HSE.out.gat HST.out (fun b h1 h2=>HRTE.out b h2 h1)));replace HOF:=hid (HOF.out.then HOK.out (fun b hb=>by
        rcases List.mem_append.1 hb with hb|hb
        ·exact .inl (HIN.out b (.inl hb)).1
        ·exact .inr (Nat.le_trans HWE.out (HST.out.r b hb).1)))
       replace HPP:=hid (Nat.le_trans HPP.out HOK.out.size);obtain⟨usT,hus⟩:∃ l,l=us:=⟨_,rfl⟩
       obtain⟨w7,hw⟩:∃ w7,w7=wr:=⟨_,rfl⟩
       rw[← hw] at HAT HAV HAE HUT HUV HUE HOF HPP ⊢;rw[← hus] at HAT HUT;clear hge hk HOK hw hus HZ;obtain⟨zV,hz,hz0,hz1,hz2⟩:=info_parts3 infoStr8;have HZ:=hid (And.intro hz (And.intro hz0 (And.intro hz1 hz2)));clear hz hz0 hz1 hz2;go_wp2
       go_loopw [20] (fun i wr=>∃ (k:Nat) (us:List Trip),i=.int .i64 k∧k≤AV.length∧Hid (Gat 93 w1.heap.size wr (.slice av AV.length cv) us)∧Hid (Gon 9 1 mS w6.heap.size wr AV us k)∧Hid (Out (AV.flatMap blk++(Value.slice av AV.length cv).ownBlock.toList) w7 wr)) (fun i _=>AV.length-(intOf i).toNat)
       case atStart=>exact⟨0,AV,rfl,Nat.zero_le _,HAV,HUV,hid (Out.refl _ _)⟩
       case round =>
       clear HAV HUV;obtain⟨k,us,rfl,hk,HAV,HUV,HOK⟩:=hrel;rcases Nat.lt_or_ge k AV.length with hlt|hge
       ·obtain⟨t,ht⟩:∃ t,AV[k]?=some t:=⟨_,List.getElem?_eq_getElem hlt⟩
        have HT:=hid ht;have HUS:=hid (HUV.out.late k t (Nat.le_refl _) ht);have ht2:t.2.1≤900000:=(HROWS.out.2.1 _ (List.mem_of_getElem? ht)).2;have HRW:=hid (HUV.out.row k t HUS.out);obtain⟨t1,t2,t3⟩:=t;simp only at ht2;obtain⟨gK,hgK⟩:=Gat.some HAV.out hlt;subst hgK;have b3:wr.cell? ⟨gK,k,none⟩=some (.slice t1 t2 t3):=HAV.out.cell HUS.out;have f3:=HAV.out.fz k;have HGW:=hid (show gK<wr.heap.size from HAV.out.lt.2);have HGR:=hid (HSV.out.r gK (own_mem8 rfl));have HGF:=hid (show gK ∉ AV.flatMap blk from fun e=>by have:=HSV.out.f gK e;have:=HGR.out;omega);have HTF:=hid (show ∀ b,t1=some ⟨b,0,none⟩→b ∈ AV.flatMap blk from fun b hb=>mem_blk HT.out hb);have HNE2:=hid (show t1≠some ⟨gK,0,none⟩ from fun e=>HGF.out (HTF.out gK e));have HPW:=hid (show w6.heap.size≤wr.heap.size from Nat.le_trans HPP.out HOK.out.size);have hlb:=HLV.out;have k2:(0:Int)≤(k:Int):=by omega
        have k3:(k:Int)<(AV.length:Int):=by omega
        have k4:decide ((k:Int)<(AV.length:Int))=true:=decide_eq_true k3;clear ht;go_upto_region 55 with (at_builtin;refine wpList_append_rowL (w0:=wr) rfl (.tmp 246) (.tmp 247) 93 rfl zV (.string ⟨#[]⟩) 16 Tryz.underlying93 HZ.out.1 HZ.out.2 rfl (by decide) t1 t2 t3 rfl HRW.out 2 2 [.string ⟨#[]⟩,.string ⟨#[]⟩] _ _ rfl rfl rfl (by decide) (by simp[Value.oneCell']) (by omega) (by decide) (AV.flatMap blk++(Value.slice (some ⟨gK,0,none⟩) AV.length cv).ownBlock.toList) w7 HOK.out (fun b hb=>.inl (List.mem_append_left _ (HTF.out b hb))) ?_;intro g' c' w5 hO5 hs5 hk5 hR5 hl5 hc5;have hg5:w5.heap[gK]?=wr.heap[gK]?:=hk5 gK HGW.out HNE2.out;have b5:=(World.cell?_of_block (a:=⟨gK,k,none⟩) hg5).trans b3;have f5:=(World.frozen?_of_block (a:=⟨gK,k,none⟩) hg5).trans f3;have HG5:=hid (HAV.out.keep (w':=w5) (fun g hg=>by have e:=Option.some.inj hg;subst e;exact hg5));have HN5:=hid (HUV.out.next HNV.out (fun g hg=>Nat.lt_of_lt_of_le (HSV.out.f g hg) HSV.out.le) HPW.out HT.out hk5 hR5 hl5 (by decide) hc5);have HO5:=hid hO5;clear hO5 hs5 hk5 hR5 hl5 hc5 hg5);generalize hW6:World.setCell _ _ _=W6;have HG6:=hid (show Gat 93 w1.heap.size W6 (.slice (some ⟨gK,0,none⟩) AV.length cv) (us.set k (some ⟨g',0,none⟩,t2+2,c')) from by rw[← hW6];exact HG5.out.set k (some ⟨g',0,none⟩,t2+2,c'));have HN6:=hid (show Gon 9 1 mS w6.heap.size W6 AV (us.set k (some ⟨g',0,none⟩,t2+2,c')) (k+1) from by
         rw[← hW6];refine HN5.out.keep (fun g hg _=>heap_setCell_other w5 ⟨gK,k,none⟩ g _ ?_);rintro rfl;rcases hg with hg|hg
         ·exact HGF.out hg
         ·have:=HGR.out;omega)
        have HO6:=hid (show Out (AV.flatMap blk++(Value.slice (some ⟨gK,0,none⟩) AV.length cv).ownBlock.toList) w7 W6 from by rw[← hW6];exact HO5.out.setCell (.inl (List.mem_append_right _ (own_mem8 rfl))) _ _);clear hW6 b3 f3 b5 f5;go_wp2;go_roundw
        case rel=>exact⟨k+1,_,by go_num,hlt,HG6,HN6,HO6⟩
        case measure=>simp[intOf];omega
       ·obtain rfl:k=AV.length:=by omega
        have d2:decide ((AV.length:Int)<(AV.length:Int))=false:=decide_eq_false (by omega);replace HUT:=hid (HUT.out.over HOK.out (HST.out.gon HSV.out HTV.out));replace HAT:=hid (HAT.out.over HOK.out (HST.out.gat HSV.out HRTV.out));replace HUE:=hid (HUE.out.over HOK.out (HSE.out.gon HSV.out (fun b h1 h2=>HVE.out b h2 h1)));replace HAE:=hid (HAE.out.over HOK.out (HSE.out.gat HSV.out (fun b h1 h2=>HRVE.out b h2 h1)));replace HOF:=hid (HOF.out.then HOK.out (fun b hb=>by
         rcases List.mem_append.1 hb with hb|hb
         ·exact .inl (HIN.out b (.inr (.inl hb))).1
         ·exact .inr (Nat.le_trans HWE.out (HSV.out.r b hb).1)))
        replace HPP:=hid (Nat.le_trans HPP.out HOK.out.size);obtain⟨usV,hus⟩:∃ l,l=us:=⟨_,rfl⟩
        obtain⟨w8,hw⟩:∃ w8,w8=wr:=⟨_,rfl⟩
        rw[← hw] at HAT HAV HAE HUT HUV HUE HOF HPP ⊢;rw[← hus] at HAV HUV;clear hge hk HOK hw hus HZ;obtain⟨zE,hz,hz0,hz1,hz2⟩:=info_parts3 infoN;have HZ:=hid (And.intro hz (And.intro hz0 (And.intro hz1 hz2)));clear hz hz0 hz1 hz2;go_wp2
        go_loopw [21] (fun i wr=>∃ (k:Nat) (us:List Trip),i=.int .i64 k∧k≤AE.length∧Hid (Gat 39 w1.heap.size wr (.slice ae AE.length ce) us)∧Hid (Gon 109 9 mI w6.heap.size wr AE us k)∧Hid (Out (AE.flatMap blk++(Value.slice ae AE.length ce).ownBlock.toList) w8 wr)) (fun i _=>AE.length-(intOf i).toNat)
        case atStart=>exact⟨0,AE,rfl,Nat.zero_le _,HAE,HUE,hid (Out.refl _ _)⟩
        case round =>
        clear HAE HUE;obtain⟨k,us,rfl,hk,HAE,HUE,HOK⟩:=hrel;rcases Nat.lt_or_ge k AE.length with hlt|hge
        ·obtain⟨t,ht⟩:∃ t,AE[k]?=some t:=⟨_,List.getElem?_eq_getElem hlt⟩
         have HT:=hid ht;have HUS:=hid (HUE.out.late k t (Nat.le_refl _) ht);have ht2:t.2.1≤900000:=(HROWS.out.2.2 _ (List.mem_of_getElem? ht)).2;have HRW:=hid (HUE.out.row k t HUS.out);obtain⟨t1,t2,t3⟩:=t;simp only at ht2;obtain⟨gK,hgK⟩:=Gat.some HAE.out hlt;subst hgK;have b3:wr.cell? ⟨gK,k,none⟩=some (.slice t1 t2 t3):=HAE.out.cell HUS.out;have f3:=HAE.out.fz k;have HGW:=hid (show gK<wr.heap.size from HAE.out.lt.2);have HGR:=hid (HSE.out.r gK (own_mem8 rfl));have HGF:=hid (show gK ∉ AE.flatMap blk from fun e=>by have:=HSE.out.f gK e;have:=HGR.out;omega);have HTF:=hid (show ∀ b,t1=some ⟨b,0,none⟩→b ∈ AE.flatMap blk from fun b hb=>mem_blk HT.out hb);have HNE2:=hid (show t1≠some ⟨gK,0,none⟩ from fun e=>HGF.out (HTF.out gK e));have HPW:=hid (show w6.heap.size≤wr.heap.size from Nat.le_trans HPP.out HOK.out.size);have hlb:=HLE.out;have k2:(0:Int)≤(k:Int):=by omega
         have k3:(k:Int)<(AE.length:Int):=by omega
         have k4:decide ((k:Int)<(AE.length:Int))=true:=decide_eq_true k3;clear ht;go_upto_region 59 with (at_builtin;refine wpList_append_rowL (w0:=wr) rfl (.tmp 261) (.tmp 264) 39 rfl zE _ 96 Tryz.underlying39 HZ.out.1 HZ.out.2 rfl (by decide) t1 t2 t3 rfl HRW.out 2 2 [.int .i64 (-1),.int .i64 0,.int .i64 0,.string ⟨#[]⟩,.int .i64 0,.int .i64 0,.float .f64 0,.complex .f64 0 0,.string ⟨#[]⟩,.int .i64 (-2),.int .i64 0,.int .i64 0,.string ⟨#[]⟩,.int .i64 0,.int .i64 0,.float .f64 0,.complex .f64 0 0,.string ⟨#[]⟩] _ _ rfl rfl rfl (by decide) (by simp[Value.oneCell']) (by omega) (by decide) (AE.flatMap blk++(Value.slice (some ⟨gK,0,none⟩) AE.length ce).ownBlock.toList) w8 HOK.out (fun b hb=>.inl (List.mem_append_left _ (HTF.out b hb))) ?_;intro g' c' w5 hO5 hs5 hk5 hR5 hl5 hc5;have hg5:w5.heap[gK]?=wr.heap[gK]?:=hk5 gK HGW.out HNE2.out;have b5:=(World.cell?_of_block (a:=⟨gK,k,none⟩) hg5).trans b3;have f5:=(World.frozen?_of_block (a:=⟨gK,k,none⟩) hg5).trans f3;have HG5:=hid (HAE.out.keep (w':=w5) (fun g hg=>by have e:=Option.some.inj hg;subst e;exact hg5));have HN5:=hid (HUE.out.next HNE.out (fun g hg=>Nat.lt_of_lt_of_le (HSE.out.f g hg) HSE.out.le) HPW.out HT.out hk5 hR5 hl5 (by decide) hc5);have HO5:=hid hO5;clear hO5 hs5 hk5 hR5 hl5 hc5 hg5);generalize hW6:World.setCell _ _ _=W6;have HG6:=hid (show Gat 39 w1.heap.size W6 (.slice (some ⟨gK,0,none⟩) AE.length ce) (us.set k (some ⟨g',0,none⟩,t2+2,c')) from by rw[← hW6];exact HG5.out.set k (some ⟨g',0,none⟩,t2+2,c'));have HN6:=hid (show Gon 109 9 mI w6.heap.size W6 AE (us.set k (some ⟨g',0,none⟩,t2+2,c')) (k+1) from by
          rw[← hW6];refine HN5.out.keep (fun g hg _=>heap_setCell_other w5 ⟨gK,k,none⟩ g _ ?_);rintro rfl;rcases hg with hg|hg
          ·exact HGF.out hg
          ·have:=HGR.out;omega)
         have HO6:=hid (show Out (AE.flatMap blk++(Value.slice (some ⟨gK,0,none⟩) AE.length ce).ownBlock.toList) w8 W6 from by rw[← hW6];exact HO5.out.setCell (.inl (List.mem_append_right _ (own_mem8 rfl))) _ _);clear hW6 b3 f3 b5 f5;go_wp2;go_roundw
         case rel=>exact⟨k+1,_,by go_num,hlt,HG6,HN6,HO6⟩
         case measure=>simp[intOf];omega
        ·obtain rfl:k=AE.length:=by omega
         have d2:decide ((AE.length:Int)<(AE.length:Int))=false:=decide_eq_false (by omega);replace HUT:=hid (HUT.out.over HOK.out (HST.out.gon HSE.out HTE.out));replace HAT:=hid (HAT.out.over HOK.out (HST.out.gat HSE.out HRTE.out));replace HUV:=hid (HUV.out.over HOK.out (HSV.out.gon HSE.out HVE.out));replace HAV:=hid (HAV.out.over HOK.out (HSV.out.gat HSE.out HRVE.out));replace HOF:=hid (HOF.out.then HOK.out (fun b hb=>by
          rcases List.mem_append.1 hb with hb|hb
          ·exact .inl (HIN.out b (.inr (.inr hb))).1
          ·exact .inr (Nat.le_trans HWE.out (HSE.out.r b hb).1)))
         replace HPP:=hid (Nat.le_trans HPP.out HOK.out.size);obtain⟨usE,hus⟩:∃ l,l=us:=⟨_,rfl⟩
         obtain⟨w9,hw⟩:∃ w9,w9=wr:=⟨_,rfl⟩
         rw[← hw] at HAT HAV HAE HUT HUV HUE HOF HPP ⊢;rw[← hus] at HAE HUE;clear hge hk HOK hw hus HZ;have HBQ:=hid (Below.refl w9.heap.size w9);go_wp2
         go_loopw [22] (fun i wr=>∃ k:Nat,i=.int .i64 k∧k≤tr.length∧Hid (Below w9.heap.size w9 wr)) (fun i _=>tr.length-(intOf i).toNat)
         case atStart=>exact⟨0,rfl,Nat.zero_le _,HBQ⟩
         case round =>
         clear HBQ;obtain⟨k,rfl,hk,HBK⟩:=hrel;rcases Nat.lt_or_ge k tr.length with hlt|hge
         ·obtain⟨t,ht⟩:∃ t,tr[k]?=some t:=⟨_,List.getElem?_eq_getElem hlt⟩
          obtain⟨u,hu⟩:∃ u,usT[k]?=some u:=⟨_,List.getElem?_eq_getElem (by rw[HUT.out.len];exact hlt)⟩
          have hd:=HUT.out.done k t u hlt ht hu;have HRW:=hid (HUT.out.row k u hu);have HMK:=hid (HUT.out.mark k t u ht hu);have HUU:=hid hu;have ht2:t.2.1≤900000:=(HROWS.out.1 _ (List.mem_of_getElem? ht)).2;obtain⟨y1,y2,y3⟩:=u;obtain⟨t1,t2,t3⟩:=t;simp only at ht2 hd;obtain⟨gK,hgK⟩:=Gat.some HAT.out hlt;subst hgK;have HGQ:=hid (show gK<w9.heap.size from HAT.out.lt.2);have hlb:=HLT.out;have k2:(0:Int)≤(k:Int):=by omega
          have k3:(k:Int)<(tr.length:Int):=by omega
          have k4:decide ((k:Int)<(tr.length:Int))=true:=decide_eq_true k3;have hwl:IntKind.i64.wrap ((y2:Int)-2)=(t2:Int):=by rw[IntKind.wrap_i64];omega
          have HD:=hid hd;clear ht hu hd;go_wp2
          go_loopw [23] (fun i wr=>∃ j:Nat,i=.int .i64 j∧j≤t2∧Hid (Below w9.heap.size w9 wr)) (fun i _=>t2-(intOf i).toNat)
          case atStart=>exact⟨0,rfl,Nat.zero_le _,HBK⟩
          case round =>
          clear HBK;obtain⟨j,rfl,hj,HBK⟩:=hrel;have b3:wr.cell? ⟨gK,k,none⟩=some (.slice y1 y2 y3):=(HBK.out.cell (p:=⟨gK,k,none⟩) HGQ.out).trans (HAT.out.cell HUU.out);rcases Nat.lt_or_ge j t2 with hltj|hgej
          ·obtain⟨g,rfl⟩:=HRW.out.some (k:=j) (by have:=HD.out;omega);have c4:wr.cell? ⟨g,j * 1,none⟩=some (mI k j):=(HBK.out.cell (p:=⟨g,j * 1,none⟩) (HRW.out.lt g rfl)).trans (HMK.out g rfl j hltj);rw[Nat.mul_one] at c4;have j2:(0:Int)≤(j:Int):=by omega
           have j3:(j:Int)<(y2:Int):=by have:=HD.out;omega
           have j4:(j:Int)<(t2:Int):=by omega
           have j5:decide ((j:Int)<(t2:Int))=true:=decide_eq_true j4;have hw1:IntKind.i64.wrap (1000 * (k:Int))=1000 * (k:Int):=by rw[IntKind.wrap_i64];omega
           have hw2:IntKind.i64.wrap (1000 * (k:Int)+(j:Int))=1000 * (k:Int)+(j:Int):=by rw[IntKind.wrap_i64];omega
           unfold mI at c4;go_upto_region 66 with (fail);have HC2:=HBK;clear b3 c4;go_wp2;go_roundw
           case rel=>exact⟨j+1,by go_num,by omega,HC2⟩
           case measure=>simp[intOf];omega
          ·obtain rfl:j=t2:=by omega
           have d2:decide ((j:Int)<(j:Int))=false:=decide_eq_false (by omega);clear hgej hj;go_wp2;go_roundw
           case rel=>exact⟨k+1,by go_num,by omega,HBK⟩
           case measure=>simp[intOf];omega
         ·obtain rfl:k=tr.length:=by omega
          have d2:decide ((tr.length:Int)<(tr.length:Int))=false:=decide_eq_false (by omega);have HBQ:=HBK;clear hge hk HBK;go_wp2
          go_loopw [24] (fun i wr=>∃ k:Nat,i=.int .i64 k∧k≤AV.length∧Hid (Below w9.heap.size w9 wr)) (fun i _=>AV.length-(intOf i).toNat)
          case atStart=>exact⟨0,rfl,Nat.zero_le _,HBQ⟩
          case round =>
          clear HBQ;obtain⟨k,rfl,hk,HBK⟩:=hrel;rcases Nat.lt_or_ge k AV.length with hlt|hge
          ·obtain⟨t,ht⟩:∃ t,AV[k]?=some t:=⟨_,List.getElem?_eq_getElem hlt⟩
           obtain⟨u,hu⟩:∃ u,usV[k]?=some u:=⟨_,List.getElem?_eq_getElem (by rw[HUV.out.len];exact hlt)⟩
           have hd:=HUV.out.done k t u hlt ht hu;have HRW:=hid (HUV.out.row k u hu);have HMK:=hid (HUV.out.mark k t u ht hu);have HUU:=hid hu;have ht2:t.2.1≤900000:=(HROWS.out.2.1 _ (List.mem_of_getElem? ht)).2;obtain⟨y1,y2,y3⟩:=u;obtain⟨t1,t2,t3⟩:=t;simp only at ht2 hd;obtain⟨gK,hgK⟩:=Gat.some HAV.out hlt;subst hgK;have HGQ:=hid (show gK<w9.heap.size from HAV.out.lt.2);have hlb:=HLV.out;have k2:(0:Int)≤(k:Int):=by omega
           have k3:(k:Int)<(AV.length:Int):=by omega
           have k4:decide ((k:Int)<(AV.length:Int))=true:=decide_eq_true k3;have hwl:IntKind.i64.wrap ((y2:Int)-2)=(t2:Int):=by rw[IntKind.wrap_i64];omega
           have HD:=hid hd;clear ht hu hd;go_wp2
           go_loopw [25] (fun i wr=>∃ j:Nat,i=.int .i64 j∧j≤t2∧Hid (Below w9.heap.size w9 wr)) (fun i _=>t2-(intOf i).toNat)
           case atStart=>exact⟨0,rfl,Nat.zero_le _,HBK⟩
           case round =>
           clear HBK;obtain⟨j,rfl,hj,HBK⟩:=hrel;have b3:wr.cell? ⟨gK,k,none⟩=some (.slice y1 y2 y3):=(HBK.out.cell (p:=⟨gK,k,none⟩) HGQ.out).trans (HAV.out.cell HUU.out);rcases Nat.lt_or_ge j t2 with hltj|hgej
           ·obtain⟨g,rfl⟩:=HRW.out.some (k:=j) (by have:=HD.out;omega);have c4:wr.cell? ⟨g,j * 1,none⟩=some (mS k j):=(HBK.out.cell (p:=⟨g,j * 1,none⟩) (HRW.out.lt g rfl)).trans (HMK.out g rfl j hltj);rw[Nat.mul_one] at c4;have j2:(0:Int)≤(j:Int):=by omega
            have j3:(j:Int)<(y2:Int):=by have:=HD.out;omega
            have j4:(j:Int)<(t2:Int):=by omega
            have j5:decide ((j:Int)<(t2:Int))=true:=decide_eq_true j4;go_wp2;refine reg75_on gK AV.length cv k j g y2 y3 hlt (by have:=HD.out;omega) hlb (by omega) b3 c4 ?_;intro _ _ _ _ _ _ _ _ _ _ _ _ _ _ _ _ _ _ _ _ _ W2 hbx;have HC2:=hid (HBK.out.trans (hbx.mono HBK.out.size));clear hbx b3 c4 HBK;go_wp2;go_roundw
            case rel=>exact⟨j+1,by go_num,by omega,HC2⟩
            case measure=>simp[intOf];omega
           ·obtain rfl:j=t2:=by omega
            have d2:decide ((j:Int)<(j:Int))=false:=decide_eq_false (by omega);clear hgej hj;go_wp2;go_roundw
            case rel=>exact⟨k+1,by go_num,by omega,HBK⟩
            case measure=>simp[intOf];omega
          ·obtain rfl:k=AV.length:=by omega
           have d2:decide ((AV.length:Int)<(AV.length:Int))=false:=decide_eq_false (by omega);have HBQ:=HBK;clear hge hk HBK;go_wp2
           go_loopw [26] (fun i wr=>∃ k:Nat,i=.int .i64 k∧k≤AE.length∧Hid (Below w9.heap.size w9 wr)) (fun i _=>AE.length-(intOf i).toNat)
           case atStart=>exact⟨0,rfl,Nat.zero_le _,HBQ⟩
           case round =>
           clear HBQ;obtain⟨k,rfl,hk,HBK⟩:=hrel;rcases Nat.lt_or_ge k AE.length with hlt|hge
           ·obtain⟨t,ht⟩:∃ t,AE[k]?=some t:=⟨_,List.getElem?_eq_getElem hlt⟩
            obtain⟨u,hu⟩:∃ u,usE[k]?=some u:=⟨_,List.getElem?_eq_getElem (by rw[HUE.out.len];exact hlt)⟩
            have hd:=HUE.out.done k t u hlt ht hu;have HRW:=hid (HUE.out.row k u hu);have HMK:=hid (HUE.out.mark k t u ht hu);have HUU:=hid hu;have ht2:t.2.1≤900000:=(HROWS.out.2.2 _ (List.mem_of_getElem? ht)).2;obtain⟨y1,y2,y3⟩:=u;obtain⟨t1,t2,t3⟩:=t;simp only at ht2 hd;obtain⟨gK,hgK⟩:=Gat.some HAE.out hlt;subst hgK;have HGQ:=hid (show gK<w9.heap.size from HAE.out.lt.2);have hlb:=HLE.out;have k2:(0:Int)≤(k:Int):=by omega
            have k3:(k:Int)<(AE.length:Int):=by omega
            have k4:decide ((k:Int)<(AE.length:Int))=true:=decide_eq_true k3;have hwl:IntKind.i64.wrap ((y2:Int)-2)=(t2:Int):=by rw[IntKind.wrap_i64];omega
            have HD:=hid hd;clear ht hu hd;go_wp2
            go_loopw [27] (fun i wr=>∃ j:Nat,i=.int .i64 j∧j≤t2∧Hid (Below w9.heap.size w9 wr)) (fun i _=>t2-(intOf i).toNat)
            case atStart=>exact⟨0,rfl,Nat.zero_le _,HBK⟩
            case round =>
            clear HBK;obtain⟨j,rfl,hj,HBK⟩:=hrel;have b3:wr.cell? ⟨gK,k,none⟩=some (.slice y1 y2 y3):=(HBK.out.cell (p:=⟨gK,k,none⟩) HGQ.out).trans (HAE.out.cell HUU.out);rcases Nat.lt_or_ge j t2 with hltj|hgej
            ·obtain⟨g,rfl⟩:=HRW.out.some (k:=j) (by have:=HD.out;omega);have c4:wr.cell? ⟨g,j * 9,none⟩=some (mI k j):=(HBK.out.cell (p:=⟨g,j * 9,none⟩) (HRW.out.lt g rfl)).trans (HMK.out g rfl j hltj)
             skip
             have j2:(0:Int)≤(j:Int):=by omega
             have j3:(j:Int)<(y2:Int):=by have:=HD.out;omega
             have j4:(j:Int)<(t2:Int):=by omega
             have j5:decide ((j:Int)<(t2:Int))=true:=decide_eq_true j4;have hw1:IntKind.i64.wrap (1000 * (k:Int))=1000 * (k:Int):=by rw[IntKind.wrap_i64];omega
             have hw2:IntKind.i64.wrap (1000 * (k:Int)+(j:Int))=1000 * (k:Int)+(j:Int):=by rw[IntKind.wrap_i64];omega
             unfold mI at c4;go_upto_region 82 with (fail);have HC2:=HBK;clear b3 c4;go_wp2;go_roundw
             case rel=>exact⟨j+1,by go_num,by omega,HC2⟩
             case measure=>simp[intOf];omega
            ·obtain rfl:j=t2:=by omega
             have d2:decide ((j:Int)<(j:Int))=false:=decide_eq_false (by omega);clear hgej hj;go_wp2;go_roundw
             case rel=>exact⟨k+1,by go_num,by omega,HBK⟩
             case measure=>simp[intOf];omega
           ·obtain rfl:k=AE.length:=by omega
            have d2:decide ((AE.length:Int)<(AE.length:Int))=false:=decide_eq_false (by omega);have HBQ:=HBK;clear hge hk HBK;go_wp2;go_ret;exact⟨rfl,HOF.out.below HBQ.out⟩
end Go.Proofs.YtenlhcgpajphhaaGreatDoor
