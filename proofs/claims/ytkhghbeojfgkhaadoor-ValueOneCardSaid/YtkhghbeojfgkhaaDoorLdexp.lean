/- The walk of Ldexp: what it answers hangs on its two arguments alone. -/
import Derived.Test.YtkhghbeojfgkhaaDoorRows
import Derived.Test.YtkhghbeojfgkhaaDoorPiecePlain
import Derived.Laws.Externs
import Derived.WalkKit
import Derived.WalkSpells
import Derived.WalkLawsBesides
import Derived.Lib.Hide
namespace Go.Proofs.YtkhghbeojfgkhaaDoor
open Go.RowKit
set_option maxRecDepth 100000

theorem f64bits (b : Nat) (w : World) : (callFunc 38 #[.float .f64 b]).run Tryd.prog w = .ok (.value (.int .u64 b)) w := by
  rw [run_callFunc_extern Tryd.func38 (by kernel_rfl) (by kernel_rfl) (by kernel_rfl) (e := Extern.MathFloatBits.float64bits) (by kernel_rfl)]
  rfl
theorem f64from (n : Int) (w : World) : (callFunc 110 #[.int .u64 n]).run Tryd.prog w = .ok (.value (.float .f64 n.toNat)) w := by
  rw [run_callFunc_extern Tryd.func110 (by kernel_rfl) (by kernel_rfl) (by kernel_rfl) (e := Extern.MathFloatBits.float64frombits) (by kernel_rfl)]
  rfl

def absF (b : Nat) : Nat := (bits .andNot .u64 (b : Int) 9223372036854775808).toNat
def gtB (a b : Nat) : Bool := FloatKind.f64.format.order a b == some Ordering.gt
def ltB (a b : Nat) : Bool := FloatKind.f64.format.order a b == some Ordering.lt
def eqB (a b : Nat) : Bool := FloatKind.f64.format.order a b == some Ordering.eq

theorem abs_any (b : Nat) (w : World) : Calls Tryd.prog 119 #[.float .f64 b] w fun e w' => e = .returned (.float .f64 (absF b)) ∧ w = w' := by
  have h1 := f64bits b
  have h2 := f64from
  go_enter Tryd.func119, Tryd.ntmps119
  go_wp2
  go_ret
  exact ⟨rfl, rfl⟩
theorem isInf_any (b : Nat) (w : World) : Calls Tryd.prog 87 #[.float .f64 b, .int .i64 0] w fun e w' => e = .returned (.bool (gtB (absF b) 9218868437227405311)) ∧ w = w' := by
  go_enter Tryd.func87, Tryd.ntmps87
  go_wp2_with (go_at_call 119; refine (abs_any b _).mono ?_; rintro e w' ⟨rfl, rfl⟩)
  go_ret
  exact ⟨rfl, rfl⟩
theorem isNaN_any (b : Nat) (w : World) : Calls Tryd.prog 52 #[.float .f64 b] w fun e w' => e = .returned (.bool (!eqB b b)) ∧ w = w' := by
  go_enter Tryd.func52, Tryd.ntmps52
  go_wp2
  go_ret
  exact ⟨rfl, rfl⟩
theorem normalize_no (b : Nat) (w : World) (h : ltB (absF b) 4503599627370496 = false) : Calls Tryd.prog 132 #[.float .f64 b] w fun e w' => e = .returned (.tuple #[.float .f64 b, .int .i64 0]) ∧ w = w' := by
  have h' : (FloatKind.f64.format.order (absF b) 4503599627370496 == some Ordering.lt) = false := h
  clear h
  go_enter Tryd.func132, Tryd.ntmps132
  go_wp2_with (go_at_call 119; refine (abs_any b _).mono ?_; rintro e w' ⟨rfl, rfl⟩)
  go_ret2
  exact ⟨rfl, rfl⟩
theorem ldexp_zero (b : Nat) (x : Int) (w : World) (h : eqB b 0 = true) : Calls Tryd.prog 113 #[.float .f64 b, .int .i64 x] w fun e w' => e = .returned (.float .f64 b) ∧ w = w' := by
  have h' : (FloatKind.f64.format.order b 0 == some Ordering.eq) = true := h
  clear h
  go_enter Tryd.func113, Tryd.ntmps113
  go_wp2
  go_ret
  exact ⟨rfl, rfl⟩
end Go.Proofs.YtkhghbeojfgkhaaDoor
