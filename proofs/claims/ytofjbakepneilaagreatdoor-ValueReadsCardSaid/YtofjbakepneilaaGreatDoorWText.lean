/- Numbers' texts are read back: whole numbers, and a real's two parts. -/
import Derived.Test.YtofjbakepneilaaGreatDoorRealsPlain
namespace Go.Proofs.YtofjbakepneilaaGreatDoor
open Go.RowKit

theorem uint_dd (n : Nat) (h : n < 18446744073709551616) : Lib.parseUintB 64 (Lib.decDigits n) = .ok n := by
  unfold Lib.parseUintB
  rw [if_neg (dd_ne n)]
  have := parse_digits (Lib.decDigits n) 0 (dd_digit n) (by rw [dd_val]; omega)
  rw [dd_val] at this
  exact this
theorem parse_dd (n : Nat) (h : n < 9223372036854775808) : Lib.parseIntB 64 (Lib.decDigits n) = .ok (n : Int) := by
  have hu := uint_dd n (by omega)
  obtain ⟨c, r, hcr⟩ : ∃ c r, Lib.decDigits n = c :: r := by
    cases hx : Lib.decDigits n with
    | nil => exact absurd hx (dd_ne n)
    | cons c r => exact ⟨c, r, rfl⟩
  have hc := dd_digit n c (by rw [hcr]; simp)
  rw [hcr] at hu ⊢
  rw [Lib.parseIntB_plain 64 c r (by omega) (by omega), hu]
  unfold Lib.signlessC
  simp only
  rw [if_neg (by omega)]
theorem parse_neg (n : Nat) (h : n ≤ 9223372036854775808) : Lib.parseIntB 64 (45 :: Lib.decDigits n) = .ok (-(n : Int)) := by
  rw [Lib.parseIntB_minus, uint_dd n (by omega)]
  unfold Lib.signedC
  simp only
  rw [if_neg (by omega)]
theorem parse_itoa (n : Int) (h0 : -9223372036854775808 ≤ n) (h1 : n ≤ 9223372036854775807) : Lib.parseIntB 64 (Lib.itoa n) = .ok n := by
  unfold Lib.itoa
  split
  · rw [parse_neg _ (by omega)]
    congr 1
    omega
  · rw [parse_dd _ (by omega)]
    congr 1
    omega
theorem atoi_itoa (n : Int) (h0 : -9223372036854775808 ≤ n) (h1 : n ≤ 9223372036854775807) : Lib.atoiAll (Lib.itoa n) = .ok n := by
  rw [← Lib.parseIntB_64]; exact parse_itoa n h0 h1
/-- where the p stands in a real's text below nought -/
theorem index_neg (n : Nat) (t : List UInt8) : Lib.indexByte (45 :: (Lib.decDigits n ++ 112 :: t)) 112 = (Lib.decDigits n).length + 1 := by
  have h := index_digits (Lib.decDigits n) t (dd_digit n)
  have e : Lib.indexByte (45 :: (Lib.decDigits n ++ 112 :: t)) 112 = if (45 : UInt8) == 112 then 0 else if Lib.indexByte (Lib.decDigits n ++ 112 :: t) 112 == -1 then -1 else Lib.indexByte (Lib.decDigits n ++ 112 :: t) 112 + 1 := rfl
  rw [e, if_neg (by decide), h, if_neg]
  simp
end Go.Proofs.YtofjbakepneilaaGreatDoor
