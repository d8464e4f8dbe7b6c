import Derived.Test.YtenlhcgpajphhaaGreatDoorRows
import Derived.Test.YtenlhcgpajphhaaGreatDoorMQuotePlain
import Derived.WalkKit
import Derived.WalkSpells
import Derived.WalkLawsBesides
import Derived.Deep.RegionLaw
import Derived.RangeFuncBox
import Derived.Laws.IdiomStrings
import Derived.Lib.Hide
namespace Go.Proofs.YtenlhcgpajphhaaGreatDoor
open Go.RowKit
set_option linter.all false
theorem qtD (c:UInt8) (w:World) :
  Calls Tryz.prog 201 #[.int .u8 c.toNat] w fun e w'=>e=.returned (.bool (decide (32≤c.toNat∧c.toNat≤126)))∧w=w':=by
 have h:=c.toNat_lt;by_cases h1:32≤c.toNat
 ·by_cases h2:c.toNat≤126
  ·go_enter Tryz.func201,Tryz.ntmps201;go_wp2;go_ret;exact⟨by simp[h1,h2];omega,rfl⟩
  ·go_enter Tryz.func201,Tryz.ntmps201;go_wp2;go_ret;exact⟨by simp[h1,h2];omega,rfl⟩
 ·go_enter Tryz.func201,Tryz.ntmps201;go_wp2;go_ret;exact⟨by simp[h1],rfl⟩
theorem q8Q:(Tryz.prog.info? 5).map (fun i=>(i.zero,i.size,i.bytes))=some (some (.int .u8 0),1,1):=by kernel_rfl
theorem qfF (w:World) (l:List Value) (t:TypeId):∀ j u,l[j]?=some u→(w.alloc (.cells l.toArray t)).cell? ((⟨w.heap.size,0,none⟩:Addr).add j)=some u:=by
 intro j u h;have hadd:(⟨w.heap.size,0,none⟩:Addr).add j=⟨w.heap.size,j,none⟩:=by unfold Addr.add;split <;> simp_all
 rw[hadd,cell_of_row _ _ j _ _ _ (heap_alloc_new w _)]
 simpa using h
theorem qkH {P:Program} {ops:Array Oper} {o:Oper} {a:Act} {w:World} {K:Act→World→Prop} {Q:Exit→Act→World→Prop} {E:Prop}
  (hg:o.guard=none) (s x:Operand) (t:TypeId) (hop:o.op=Op.call { callee:=Callee.builtin Builtin.append,args:=#[s,x],argTypes:=#[t,t] })
  (base:Nat) (e:TypeId) (i:TypeInfo) (z:Value) (size bytes:Nat) (ht:P.underlying t=some (.slice e)) (hi:P.info? e=some i) (hz:i.zero=some z)
  (hsize:i.size=size) (hby:i.bytes=bytes) (hzs:z.cells.size=size) (hsz:0<size)
  (v:Value) (n:Nat) (xs:List Value) (hs:a.eval s=v) (hown:w.ownsRow base e size v n xs)
  (ad:Addr) (m c:Nat) (news:List Value) (hx:a.eval x=.slice (some ad) m c) (hl:news.length=m * size) (hnews:∀ j u,news[j]?=some u→w.cell? (ad.add j)=some u) (h1:∀ u ∈ news,u.oneCell'=true)
  (h63:n+m≤maxLen) (hbytes:(n+m) * bytes≤140737488355328) (hbase:base≤w.heap.size)
  (h:∀ v' w',w'.ownsRow base e size v' (n+m) (xs++news)→w.grownBy w' v.ownBlock→K (a.put o.dst v') w') :
  if Region.wanted o (yielded ops a.tmps)=true then Oper.wp P o a w K Q else E:=by
 rw[if_pos (by simp[Region.wanted,hg])];exact wp_append_own w s x t hop base e i z size bytes ht hi hz hsize hby hzs hsz v n xs hs hown ad m c news hx hl hnews h1 h63 hbytes hbase (fun v' w' h2 h3 _=>h v' w' h2 h3)
theorem qkQ {s:ByteArray} {k B m:Nat} {e:TypeId} {w wr w1:World} {q v':Value} {o:Obj} {P:List UInt8} (hlt:k<s.size) (hP:qbI (s[k]'hlt)=P)
  (hown':w1.ownsRow B e 1 v' ((qfQ (s.data.toList.take k)).length+m) (u8s (qfQ (s.data.toList.take k))++u8s P))
  (hbel:Below B w wr) (hgrow:(wr.alloc o).grownBy w1 q.ownBlock) (hown:wr.ownsRow B e 1 q (qfQ (s.data.toList.take k)).length (u8s (qfQ (s.data.toList.take k)))) (hB:B≤w.heap.size:=by exact Nat.le_refl _) :
  w1.ownsRow B e 1 v' (qfQ (s.data.toList.take (k+1))).length (u8s (qfQ (s.data.toList.take (k+1))))∧Below B w w1:=by
 have hl:k<s.data.toList.length:=by simpa using hlt
 have e1:qfQ (s.data.toList.take (k+1))=qfQ (s.data.toList.take k)++P:=by
  rw[qzC _ _ hl,qxA]
  congr 1
 have hz:=hbel.size;have hm:m=P.length:=by
  have:=hown'.1;simp[qf1] at this;omega
 subst hm;refine⟨by rw[e1,qf2,List.length_append];exact hown',?_⟩;exact(hbel.alloc (by omega) o).grown hgrow (by simp;omega) (fun b hb=>(hown.lt b hb).1)
theorem qnL {P:Program} {w:World} {base g cap n src dst e:Nat} {l:List UInt8} (hown:w.ownsRow base e 1 (.slice (some ⟨g,0,none⟩) n cap) n (u8s l))
  (hs:P.underlying src=some (.slice e)) (he:P.underlying e=some (.int .u8)) (hd:P.underlying dst=some .string) :
  (convert src dst (.slice (some ⟨g,0,none⟩) n cap)).run P w=.ok (.string ⟨l.toArray⟩) w:=by
 have hn:l.length=n:=by have:=hown.1;simp[qf1] at this;exact this
 subst hn;refine run_convert_bytes_back w src dst e _ cap l hs he hd (fun j hj=>hown.cells rfl j _ ?_);simp[u8s,hj]
end Go.Proofs.YtenlhcgpajphhaaGreatDoor
