import Derived.Test.YtenlhcgpajphhaaGreatDoorRows
import Derived.Test.YtenlhcgpajphhaaGreatDoorMQuotePlain
import Derived.WalkKit
import Derived.WalkSpells
import Derived.WalkLawsBesides
import Derived.Deep.RegionLaw
import Derived.RangeFuncBox
import Derived.Laws.IdiomStrings
import Derived.Lib.Hide
namespace Go.Proofs.YtenlhcgpajphhaaGreatDoor
open Go.RowKit
set_option linter.all false
theorem isPlain_any (c:UInt8) (w:World) :
  Calls Tryz.prog 201 #[.int .u8 c.toNat] w fun e w'=>e=.returned (.bool (decide (32≤c.toNat∧c.toNat≤126)))∧w=w':=by
 have h:=c.toNat_lt;by_cases h1:32≤c.toNat
 ·by_cases h2:c.toNat≤126
  ·go_enter Tryz.func201,Tryz.ntmps201;go_wp2;go_ret;exact⟨by simp[h1,h2];omega,rfl⟩
  ·go_enter Tryz.func201,Tryz.ntmps201;go_wp2;go_ret;exact⟨by simp[h1,h2];omega,rfl⟩
 ·go_enter Tryz.func201,Tryz.ntmps201;go_wp2;go_ret;exact⟨by simp[h1],rfl⟩
theorem cells_new (w:World) (l:List Value) (t:TypeId):∀ j u,l[j]?=some u→(w.alloc (.cells l.toArray t)).cell? ((⟨w.heap.size,0,none⟩:Addr).add j)=some u:=by
 intro j u h;have hadd:(⟨w.heap.size,0,none⟩:Addr).add j=⟨w.heap.size,j,none⟩:=by unfold Addr.add;split <;> simp_all
 rw[hadd,cell_of_row _ _ j _ _ _ (heap_alloc_new w _)]
 simpa using h
end Go.Proofs.YtenlhcgpajphhaaGreatDoor
