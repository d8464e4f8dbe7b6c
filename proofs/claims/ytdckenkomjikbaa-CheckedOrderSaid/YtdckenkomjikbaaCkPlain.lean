/- Plain facts on whole numbers of 64 bits: no program. -/
import Derived.WalkKit
namespace Go.Proofs.Ytdckenkomjikbaa
open Go.RowKit

/-- is the number within 64 bits? -/
def inB (s : Int) : Bool := decide (-9223372036854775808 ≤ s) && decide (s ≤ 9223372036854775807)
/-- the number, or 0 where it is not within -/
def fitV (s : Int) : Int := if inB s then s else 0
/-- no error, or 30 where it is not within -/
def fitE (s : Int) : Int := if inB s then 0 else 30
def divV (a b : Int) : Int := if b = 0 then 0 else fitV (a.tdiv b)
def divE (a b : Int) : Int := if b = 0 then 31 else fitE (a.tdiv b)
def remV (a b : Int) : Int := if b = 0 then 0 else a.tmod b
def remE (b : Int) : Int := if b = 0 then 31 else 0
def eucV (a n : Int) : Int := if n < 1 then 0 else a % n
def eucE (n : Int) : Int := if n < 1 then 2 else 0

theorem inB_yes {s : Int} (h : -9223372036854775808 ≤ s) (h2 : s ≤ 9223372036854775807) : inB s = true := by
  simp [inB, h, h2]
theorem inB_no {s : Int} (h : s < -9223372036854775808 ∨ 9223372036854775807 < s) : inB s = false := by
  unfold inB; rw [Bool.and_eq_false_iff, decide_eq_false_iff_not, decide_eq_false_iff_not]; omega
theorem fitV_yes {s : Int} (h : -9223372036854775808 ≤ s) (h2 : s ≤ 9223372036854775807) : fitV s = s := by unfold fitV; rw [inB_yes h h2, if_pos rfl]
theorem fitE_yes {s : Int} (h : -9223372036854775808 ≤ s) (h2 : s ≤ 9223372036854775807) : fitE s = 0 := by unfold fitE; rw [inB_yes h h2, if_pos rfl]
theorem fitV_no {s : Int} (h : s < -9223372036854775808 ∨ 9223372036854775807 < s) : fitV s = 0 := by unfold fitV; rw [inB_no h]; rfl
theorem fitE_no {s : Int} (h : s < -9223372036854775808 ∨ 9223372036854775807 < s) : fitE s = 30 := by unfold fitE; rw [inB_no h]; rfl
theorem fit_cases (s : Int) : (-9223372036854775808 ≤ s ∧ s ≤ 9223372036854775807) ∨ (s < -9223372036854775808 ∨ 9223372036854775807 < s) := by omega
theorem fitV_in (s : Int) : -9223372036854775808 ≤ fitV s ∧ fitV s ≤ 9223372036854775807 := by
  rcases fit_cases s with ⟨h, h2⟩ | h
  · rw [fitV_yes h h2]; exact ⟨h, h2⟩
  · rw [fitV_no h]; omega
theorem emod_of {a n r : Int} (k : Int) (hr : 0 ≤ r) (hn : r < n) (h : a = r + n * k) : a % n = r := by
  rw [h, Int.add_mul_emod_self_left]; exact Int.emod_eq_of_lt hr hn
theorem eucV_yes {a n : Int} (h : 1 ≤ n) : eucV a n = a % n := by unfold eucV; rw [if_neg (by omega)]
theorem eucV_no {a n : Int} (h : n < 1) : eucV a n = 0 := by unfold eucV; rw [if_pos h]
theorem eucE_yes {n : Int} (h : 1 ≤ n) : eucE n = 0 := by unfold eucE; rw [if_neg (by omega)]
theorem eucE_no {n : Int} (h : n < 1) : eucE n = 2 := by unfold eucE; rw [if_pos h]
theorem ret2 {k k2 : IntKind} {a b c d : Int} (h : a = c) (h2 : b = d) : Ending.returned (.tuple #[.int k a, .int k2 b]) = .returned (.tuple #[.int k c, .int k2 d]) := by rw [h, h2]
/-- a size with a sign -/
def signed (m : Bool) (s : Nat) : Int := if m then -(s : Int) else s
def unlike (a b : Int) : Bool := decide (a < 0) != decide (b < 0)
theorem wrap64_up {a : Int} (h : 9223372036854775807 < a) (h2 : a ≤ 18446744073709551615) : wrap64 a = a - 18446744073709551616 := by unfold wrap64; omega
theorem wrap64_down {a : Int} (h : a < -9223372036854775808) (h2 : -18446744073709551616 ≤ a) : wrap64 a = a + 18446744073709551616 := by unfold wrap64; omega
theorem u64_neg {a : Int} (h : a < 0) (h2 : -9223372036854775808 ≤ a) : IntKind.u64.wrap a = a + 18446744073709551616 := by
  simp [IntKind.wrap, IntKind.bits, IntKind.signed]; omega
theorem u64_over {a : Int} (h : 18446744073709551616 ≤ a) (h2 : a < 36893488147419103232) : IntKind.u64.wrap a = a - 18446744073709551616 := by
  simp [IntKind.wrap, IntKind.bits, IntKind.signed]; omega
theorem mul_signed (a b : Int) : a * b = signed (unlike a b) (a.natAbs * b.natAbs) := by
  unfold signed unlike
  by_cases ha : a < 0 <;> by_cases hb : b < 0 <;> simp [ha, hb]
  · obtain ⟨x, rfl⟩ : ∃ x : Nat, a = -(x : Int) := ⟨a.natAbs, by omega⟩
    obtain ⟨y, rfl⟩ : ∃ y : Nat, b = -(y : Int) := ⟨b.natAbs, by omega⟩
    rw [Int.neg_mul_neg]; simp
  · obtain ⟨x, rfl⟩ : ∃ x : Nat, a = -(x : Int) := ⟨a.natAbs, by omega⟩
    obtain ⟨y, rfl⟩ : ∃ y : Nat, b = (y : Int) := ⟨b.natAbs, by omega⟩
    simp [Int.neg_mul]
  · obtain ⟨x, rfl⟩ : ∃ x : Nat, a = (x : Int) := ⟨a.natAbs, by omega⟩
    obtain ⟨y, rfl⟩ : ∃ y : Nat, b = -(y : Int) := ⟨b.natAbs, by omega⟩
    simp [Int.mul_neg]
  · obtain ⟨x, rfl⟩ : ∃ x : Nat, a = (x : Int) := ⟨a.natAbs, by omega⟩
    obtain ⟨y, rfl⟩ : ∃ y : Nat, b = (y : Int) := ⟨b.natAbs, by omega⟩
    simp
theorem div_signed (a b : Int) : a.tdiv b = signed (unlike a b) (a.natAbs / b.natAbs) := by
  unfold signed unlike
  by_cases ha : a < 0 <;> by_cases hb : b < 0 <;> simp [ha, hb]
  · obtain ⟨x, rfl⟩ : ∃ x : Nat, a = -(x : Int) := ⟨a.natAbs, by omega⟩
    obtain ⟨y, rfl⟩ : ∃ y : Nat, b = -(y : Int) := ⟨b.natAbs, by omega⟩
    rw [Int.neg_tdiv, Int.tdiv_neg]; simp
  · obtain ⟨x, rfl⟩ : ∃ x : Nat, a = -(x : Int) := ⟨a.natAbs, by omega⟩
    obtain ⟨y, rfl⟩ : ∃ y : Nat, b = (y : Int) := ⟨b.natAbs, by omega⟩
    rw [Int.neg_tdiv]; simp
  · obtain ⟨x, rfl⟩ : ∃ x : Nat, a = (x : Int) := ⟨a.natAbs, by omega⟩
    obtain ⟨y, rfl⟩ : ∃ y : Nat, b = -(y : Int) := ⟨b.natAbs, by omega⟩
    rw [Int.tdiv_neg]; simp
  · obtain ⟨x, rfl⟩ : ∃ x : Nat, a = (x : Int) := ⟨a.natAbs, by omega⟩
    obtain ⟨y, rfl⟩ : ∃ y : Nat, b = (y : Int) := ⟨b.natAbs, by omega⟩
    simp
theorem rem_signed (a b : Int) : a.tmod b = signed (decide (a < 0)) (a.natAbs % b.natAbs) := by
  unfold signed
  have hb : a.tmod b = a.tmod b.natAbs := by
    by_cases hb : b < 0
    · rw [Int.ofNat_natAbs_of_nonpos (by omega : b ≤ 0), Int.tmod_neg]
    · rw [Int.natAbs_of_nonneg (by omega : 0 ≤ b)]
  rw [hb]
  generalize b.natAbs = y
  by_cases ha : a < 0 <;> simp [ha]
  · obtain ⟨x, rfl⟩ : ∃ x : Nat, a = -(x : Int) := ⟨a.natAbs, by omega⟩
    rw [Int.neg_tmod]; simp [Int.tmod_eq_emod_of_nonneg]
  · obtain ⟨x, rfl⟩ : ∃ x : Nat, a = (x : Int) := ⟨a.natAbs, by omega⟩
    simp [Int.tmod_eq_emod_of_nonneg]
theorem tmod_lo (a n : Int) (h : 1 ≤ n) : -n < a.tmod n := by
  by_cases ha : 0 ≤ a
  · have := Int.tmod_nonneg n ha; omega
  · obtain ⟨x, rfl⟩ : ∃ x : Int, a = -x := ⟨-a, by omega⟩
    rw [Int.neg_tmod]
    have := Int.tmod_lt_of_pos x (by omega : 0 < n); omega
theorem tmod_hi (a n : Int) (h : 1 ≤ n) : a.tmod n < n := Int.tmod_lt_of_pos a (by omega)
theorem euc_pos {a n : Int} (h : 1 ≤ n) (h0 : 0 ≤ a.tmod n) : eucV a n = a.tmod n := by
  rw [eucV_yes h]; exact emod_of (a.tdiv n) h0 (tmod_hi a n h) (by have := Int.mul_tdiv_add_tmod a n; omega)
theorem euc_neg {a n : Int} (h : 1 ≤ n) (h0 : a.tmod n < 0) : eucV a n = a.tmod n + n := by
  rw [eucV_yes h]; exact emod_of (a.tdiv n - 1) (by have := tmod_lo a n h; omega) (by omega) (by have := Int.mul_tdiv_add_tmod a n; rw [Int.mul_sub]; omega)
end Go.Proofs.Ytdckenkomjikbaa
