/- The walk of Ldexp: what it answers hangs on its two arguments alone. -/
import Derived.Test.YtddeoemkjedonaaDoorRows
import Derived.Test.YtddeoemkjedonaaDoorMQuotePlain
import Derived.Laws.Externs
import Derived.WalkKit
import Derived.WalkSpells
import Derived.WalkLawsBesides
import Derived.Lib.Hide
namespace Go.Proofs.YtddeoemkjedonaaDoor
open Go.RowKit
set_option maxRecDepth 100000

theorem f64bits (b : Nat) (w : World) : (callFunc 67 #[.float .f64 b]).run Tryd.prog w = .ok (.value (.int .u64 b)) w := by
  rw [run_callFunc_extern Tryd.func67 (by kernel_rfl) (by kernel_rfl) (by kernel_rfl) (e := Extern.MathFloatBits.float64bits) (by kernel_rfl)]
  rfl
theorem f64from (n : Int) (w : World) : (callFunc 66 #[.int .u64 n]).run Tryd.prog w = .ok (.value (.float .f64 n.toNat)) w := by
  rw [run_callFunc_extern Tryd.func66 (by kernel_rfl) (by kernel_rfl) (by kernel_rfl) (e := Extern.MathFloatBits.float64frombits) (by kernel_rfl)]
  rfl

def absF (b : Nat) : Nat := (bits .andNot .u64 (b : Int) 9223372036854775808).toNat
def gtB (a b : Nat) : Bool := FloatKind.f64.format.order a b == some Ordering.gt
def ltB (a b : Nat) : Bool := FloatKind.f64.format.order a b == some Ordering.lt
def eqB (a b : Nat) : Bool := FloatKind.f64.format.order a b == some Ordering.eq

theorem isNaN_any (b : Nat) (w : World) : Calls Tryd.prog 59 #[.float .f64 b] w fun e w' => e = .returned (.bool (!eqB b b)) ∧ w = w' := by
  go_enter Tryd.func59, Tryd.ntmps59
  go_wp2
  go_ret
  exact ⟨rfl, rfl⟩
end Go.Proofs.YtddeoemkjedonaaDoor
