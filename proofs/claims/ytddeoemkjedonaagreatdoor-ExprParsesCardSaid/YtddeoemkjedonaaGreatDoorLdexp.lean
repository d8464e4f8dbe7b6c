/- The walk of Ldexp: what it answers hangs on its two arguments alone. -/
import Derived.Test.YtddeoemkjedonaaGreatDoorRows
import Derived.Test.YtddeoemkjedonaaGreatDoorMQuotePlain
import Derived.Laws.Externs
import Derived.WalkKit
import Derived.WalkSpells
import Derived.WalkLawsBesides
import Derived.Lib.Hide
namespace Go.Proofs.YtddeoemkjedonaaGreatDoor
open Go.RowKit
set_option maxRecDepth 100000

theorem f64bits (b : Nat) (w : World) : (callFunc 119 #[.float .f64 b]).run Tryz.prog w = .ok (.value (.int .u64 b)) w := by
  rw [run_callFunc_extern Tryz.func119 (by kernel_rfl) (by kernel_rfl) (by kernel_rfl) (e := Extern.MathFloatBits.float64bits) (by kernel_rfl)]
  rfl
theorem f64from (n : Int) (w : World) : (callFunc 122 #[.int .u64 n]).run Tryz.prog w = .ok (.value (.float .f64 n.toNat)) w := by
  rw [run_callFunc_extern Tryz.func122 (by kernel_rfl) (by kernel_rfl) (by kernel_rfl) (e := Extern.MathFloatBits.float64frombits) (by kernel_rfl)]
  rfl

def absF (b : Nat) : Nat := (bits .andNot .u64 (b : Int) 9223372036854775808).toNat
def gtB (a b : Nat) : Bool := FloatKind.f64.format.order a b == some Ordering.gt
def ltB (a b : Nat) : Bool := FloatKind.f64.format.order a b == some Ordering.lt
def eqB (a b : Nat) : Bool := FloatKind.f64.format.order a b == some Ordering.eq

theorem abs_any (b : Nat) (w : World) : Calls Tryz.prog 134 #[.float .f64 b] w fun e w' => e = .returned (.float .f64 (absF b)) ∧ w = w' := by
  have h1 := f64bits b
  have h2 := f64from
  go_enter Tryz.func134, Tryz.ntmps134
  go_wp2
  go_ret
  exact ⟨rfl, rfl⟩
theorem isInf_any (b : Nat) (w : World) : Calls Tryz.prog 116 #[.float .f64 b, .int .i64 0] w fun e w' => e = .returned (.bool (gtB (absF b) 9218868437227405311)) ∧ w = w' := by
  go_enter Tryz.func116, Tryz.ntmps116
  go_wp2_with (go_at_call 134; refine (abs_any b _).mono ?_; rintro e w' ⟨rfl, rfl⟩)
  go_ret
  exact ⟨rfl, rfl⟩
theorem isNaN_any (b : Nat) (w : World) : Calls Tryz.prog 117 #[.float .f64 b] w fun e w' => e = .returned (.bool (!eqB b b)) ∧ w = w' := by
  go_enter Tryz.func117, Tryz.ntmps117
  go_wp2
  go_ret
  exact ⟨rfl, rfl⟩
theorem normalize_no (b : Nat) (w : World) (h : ltB (absF b) 4503599627370496 = false) : Calls Tryz.prog 118 #[.float .f64 b] w fun e w' => e = .returned (.tuple #[.float .f64 b, .int .i64 0]) ∧ w = w' := by
  have h' : (FloatKind.f64.format.order (absF b) 4503599627370496 == some Ordering.lt) = false := h
  clear h
  go_enter Tryz.func118, Tryz.ntmps118
  go_wp2_with (go_at_call 134; refine (abs_any b _).mono ?_; rintro e w' ⟨rfl, rfl⟩)
  go_ret2
  exact ⟨rfl, rfl⟩
theorem ldexp_zero (b : Nat) (x : Int) (w : World) (h : eqB b 0 = true) : Calls Tryz.prog 97 #[.float .f64 b, .int .i64 x] w fun e w' => e = .returned (.float .f64 b) ∧ w = w' := by
  have h' : (FloatKind.f64.format.order b 0 == some Ordering.eq) = true := h
  clear h
  go_enter Tryz.func97, Tryz.ntmps97
  go_wp2
  go_ret
  exact ⟨rfl, rfl⟩
end Go.Proofs.YtddeoemkjedonaaGreatDoor
