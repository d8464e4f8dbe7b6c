/- A product of two numbers. -/
import Derived.Test.YtdckenkomjikbaaCkWalks
import Derived.Test.YtdckenkomjikbaaShelf
namespace Go.Proofs.Ytdckenkomjikbaa
open Go.RowKit

/-- the upper and the lower half of a product of two sizes -/
def hiF (x y : Nat) : Nat := x * y / 18446744073709551616
def loF (x y : Nat) : Nat := x * y % 18446744073709551616
theorem lo_lt (x y : Nat) : loF x y < 18446744073709551616 := Nat.mod_lt _ (by decide)
theorem lo_all {x y : Nat} (h : hiF x y = 0) : loF x y = x * y := by unfold hiF at h; unfold loF; omega
theorem mul64_any (x y : Nat) (hx : x < 18446744073709551616) (hy : y < 18446744073709551616) (w : World) :
    Calls Try.prog 35 #[.int .u64 x, .int .u64 y] w fun e w' => e = .returned (.tuple #[.int .u64 (hiF x y : Int), .int .u64 (loF x y : Int)]) ∧ w = w' :=
  (Try.bits_Mul64 x y hx hy w).mono fun _ _ ⟨h, h2⟩ => ⟨h, h2.symm⟩

theorem over_mul {a b : Int} (m : Bool) (h : hiF a.natAbs b.natAbs ≠ 0) : signed m (a.natAbs * b.natAbs) < -9223372036854775808 ∨ 9223372036854775807 < signed m (a.natAbs * b.natAbs) := by
  unfold hiF at h
  generalize a.natAbs * b.natAbs = p at *
  have : 18446744073709551616 ≤ p := by omega
  unfold signed; split <;> omega

theorem mul_any (a b : Int) (w : World) (ha : In a) (hb : In b) :
    Calls Try.prog 13 #[.int .i64 a, .int .i64 b] w fun e w' => e = .returned (.tuple #[.int .i64 (fitV (a * b)), .int .i64 (fitE (a * b))]) ∧ w = w' := by
  have M := Lib.hid (mul_signed a b)
  by_cases h : hiF a.natAbs b.natAbs = 0
  · have t1 : (((hiF a.natAbs b.natAbs : Nat) : Int) != 0) = false := by simp [h]
    have hm : Hid (loF a.natAbs b.natAbs = a.natAbs * b.natAbs) := Lib.hid (lo_all h)
    clear h
    go_enter Try.func13, Try.ntmps13
    go_wp2_with (first
      | (go_at_call 34; refine (apart_any a b _ ha hb).mono ?_; rintro e w' ⟨rfl, rfl⟩)
      | (go_at_call 35; refine (mul64_any a.natAbs b.natAbs (natAbs_lt ha) (natAbs_lt hb) _).mono ?_; rintro e w' ⟨rfl, rfl⟩)
      | (go_at_call 36; refine (together_any (loF a.natAbs b.natAbs) (unlike a b) _ (lo_lt _ _)).mono ?_; rintro e w' ⟨rfl, rfl⟩))
    go_ret2
    exact ⟨ret2 (by rw [hm.out, ← M.out]) (by rw [hm.out, ← M.out]), rfl⟩
  · have t1 : (((hiF a.natAbs b.natAbs : Nat) : Int) != 0) = true := by simpa using h
    have V : Hid (fitV (a * b) = 0) := Lib.hid (by rw [mul_signed]; exact fitV_no (over_mul _ h))
    have E : Hid (fitE (a * b) = 30) := Lib.hid (by rw [mul_signed]; exact fitE_no (over_mul _ h))
    clear h
    go_enter Try.func13, Try.ntmps13
    go_wp2_with (first
      | (go_at_call 34; refine (apart_any a b _ ha hb).mono ?_; rintro e w' ⟨rfl, rfl⟩)
      | (go_at_call 35; refine (mul64_any a.natAbs b.natAbs (natAbs_lt ha) (natAbs_lt hb) _).mono ?_; rintro e w' ⟨rfl, rfl⟩))
    go_ret2
    exact ⟨ret2 V.out.symm E.out.symm, rfl⟩
end Go.Proofs.Ytdckenkomjikbaa
