/- The walk of Ldexp: what it answers hangs on its two arguments alone. -/
import Derived.Test.YtofjbakepneilaaGreatDoorRows
import Derived.Test.YtofjbakepneilaaGreatDoorMQuotePlain
import Derived.Laws.Externs
import Derived.WalkKit
import Derived.WalkSpells
import Derived.WalkLawsBesides
import Derived.Lib.Hide
namespace Go.Proofs.YtofjbakepneilaaGreatDoor
open Go.RowKit
set_option maxRecDepth 100000

theorem f64bits (b : Nat) (w : World) : (callFunc 111 #[.float .f64 b]).run Tryz.prog w = .ok (.value (.int .u64 b)) w := by
  rw [run_callFunc_extern Tryz.func111 (by kernel_rfl) (by kernel_rfl) (by kernel_rfl) (e := Extern.MathFloatBits.float64bits) (by kernel_rfl)]
  rfl
theorem f64from (n : Int) (w : World) : (callFunc 110 #[.int .u64 n]).run Tryz.prog w = .ok (.value (.float .f64 n.toNat)) w := by
  rw [run_callFunc_extern Tryz.func110 (by kernel_rfl) (by kernel_rfl) (by kernel_rfl) (e := Extern.MathFloatBits.float64frombits) (by kernel_rfl)]
  rfl

def absF (b : Nat) : Nat := (bits .andNot .u64 (b : Int) 9223372036854775808).toNat
def gtB (a b : Nat) : Bool := FloatKind.f64.format.order a b == some Ordering.gt
def ltB (a b : Nat) : Bool := FloatKind.f64.format.order a b == some Ordering.lt
def eqB (a b : Nat) : Bool := FloatKind.f64.format.order a b == some Ordering.eq

theorem abs_any (b : Nat) (w : World) : Calls Tryz.prog 157 #[.float .f64 b] w fun e w' => e = .returned (.float .f64 (absF b)) ∧ w = w' := by
  have h1 := f64bits b
  have h2 := f64from
  go_enter Tryz.func157, Tryz.ntmps157
  go_wp2
  go_ret
  exact ⟨rfl, rfl⟩
theorem isInf_any (b : Nat) (w : World) : Calls Tryz.prog 119 #[.float .f64 b, .int .i64 0] w fun e w' => e = .returned (.bool (gtB (absF b) 9218868437227405311)) ∧ w = w' := by
  go_enter Tryz.func119, Tryz.ntmps119
  go_wp2_with (go_at_call 157; refine (abs_any b _).mono ?_; rintro e w' ⟨rfl, rfl⟩)
  go_ret
  exact ⟨rfl, rfl⟩
theorem isNaN_any (b : Nat) (w : World) : Calls Tryz.prog 74 #[.float .f64 b] w fun e w' => e = .returned (.bool (!eqB b b)) ∧ w = w' := by
  go_enter Tryz.func74, Tryz.ntmps74
  go_wp2
  go_ret
  exact ⟨rfl, rfl⟩
theorem normalize_no (b : Nat) (w : World) (h : ltB (absF b) 4503599627370496 = false) : Calls Tryz.prog 151 #[.float .f64 b] w fun e w' => e = .returned (.tuple #[.float .f64 b, .int .i64 0]) ∧ w = w' := by
  have h' : (FloatKind.f64.format.order (absF b) 4503599627370496 == some Ordering.lt) = false := h
  clear h
  go_enter Tryz.func151, Tryz.ntmps151
  go_wp2_with (go_at_call 157; refine (abs_any b _).mono ?_; rintro e w' ⟨rfl, rfl⟩)
  go_ret2
  exact ⟨rfl, rfl⟩
theorem ldexp_zero (b : Nat) (x : Int) (w : World) (h : eqB b 0 = true) : Calls Tryz.prog 114 #[.float .f64 b, .int .i64 x] w fun e w' => e = .returned (.float .f64 b) ∧ w = w' := by
  have h' : (FloatKind.f64.format.order b 0 == some Ordering.eq) = true := h
  clear h
  go_enter Tryz.func114, Tryz.ntmps114
  go_wp2
  go_ret
  exact ⟨rfl, rfl⟩
end Go.Proofs.YtofjbakepneilaaGreatDoor
