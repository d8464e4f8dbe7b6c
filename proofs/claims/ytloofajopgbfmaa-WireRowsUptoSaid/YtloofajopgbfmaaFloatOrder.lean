/- The order of reals: a word's place among all. -/
import Derived.Test.YtloofajopgbfmaaRows
namespace Go.Proofs.Ytloofajopgbfmaa
set_option linter.all false
/-- a word's rung, its sign, and its place in the order of numbers -/
def rungB (b : Nat) : Nat := b % 9223372036854775808
def negB (b : Nat) : Bool := b / 9223372036854775808 % 2 == 1
def nanB (b : Nat) : Bool := decide (9218868437227405312 < rungB b)
def keyI (b : Nat) : Int := if negB b then -(rungB b : Int) else (rungB b : Int)

theorem oS : Ieee.double.signWeight = 9223372036854775808 := by decide
theorem oB : Ieee.double.binade = 4503599627370496 := by decide
theorem oI : Ieee.double.infRung = 9218868437227405312 := by decide
theorem oL : Ieee.double.leastPlace = -1074 := by decide

def valN (r : Nat) : Nat := if r < 4503599627370496 then r else (4503599627370496 + r % 4503599627370496) * 2 ^ (r / 4503599627370496 - 1)

theorem valN_succ (r : Nat) : valN r < valN (r + 1) := by
  unfold valN
  split
  · split
    · omega
    · have e1 : (r + 1) % 4503599627370496 = 0 := by omega
      have e2 : (r + 1) / 4503599627370496 = 1 := by omega
      rw [e1, e2]; omega
  · rw [if_neg (by omega)]
    rcases Nat.lt_or_ge (r % 4503599627370496 + 1) 4503599627370496 with h | h
    · have e1 : (r + 1) % 4503599627370496 = r % 4503599627370496 + 1 := by omega
      have e2 : (r + 1) / 4503599627370496 = r / 4503599627370496 := by omega
      rw [e1, e2]
      exact Nat.mul_lt_mul_of_pos_right (by omega) (Nat.two_pow_pos _)
    · have e1 : (r + 1) % 4503599627370496 = 0 := by omega
      have e2 : (r + 1) / 4503599627370496 - 1 = (r / 4503599627370496 - 1) + 1 := by omega
      have e3 : r % 4503599627370496 = 4503599627370495 := by omega
      rw [e1, e2, e3, Nat.pow_succ]
      have := Nat.two_pow_pos (r / 4503599627370496 - 1)
      omega
theorem valN_add (r d : Nat) : valN r < valN (r + d + 1) := by
  induction d with
  | zero => exact valN_succ r
  | succ d ih => exact Nat.lt_trans ih (valN_succ _)
theorem valN_lt {r s : Nat} (h : r < s) : valN r < valN s := by
  obtain ⟨d, rfl⟩ : ∃ d, s = r + d + 1 := ⟨s - r - 1, by omega⟩
  exact valN_add r d
theorem valN_zero : valN 0 = 0 := by decide

/-- the compare of two Ints, told by an order that keeps it -/
theorem compare_of {a b x y : Int} (h1 : a < b → x < y) (h2 : b < a → y < x) (h3 : a = b → x = y) : compare x y = compare a b := by
  rcases Int.lt_trichotomy a b with h | h | h
  · rw [Int.compare_eq_lt.2 h, Int.compare_eq_lt.2 (h1 h)]
  · rw [Int.compare_eq_eq.2 h, Int.compare_eq_eq.2 (h3 h)]
  · rw [Int.compare_eq_gt.2 h, Int.compare_eq_gt.2 (h2 h)]

def sv (b : Nat) : Int := if negB b then -(valN (rungB b) : Int) else (valN (rungB b) : Int)
theorem sv_lt {a b : Nat} (h : keyI a < keyI b) : sv a < sv b := by
  unfold keyI at h
  unfold sv
  have z := valN_zero
  by_cases ha : negB a <;> by_cases hb : negB b <;> simp only [ha, hb, if_true, Bool.false_eq_true, if_false] at h ⊢
  · have := valN_lt (r := rungB b) (s := rungB a) (by omega); omega
  · rcases Nat.eq_zero_or_pos (rungB a) with h0 | h0
    · rw [h0] at h ⊢
      have := valN_lt (r := 0) (s := rungB b) (by omega); omega
    · have := valN_lt h0; omega
  · omega
  · have := valN_lt (r := rungB a) (s := rungB b) (by omega); omega
theorem sv_eq {a b : Nat} (h : keyI a = keyI b) : sv a = sv b := by
  unfold keyI at h
  unfold sv
  have z := valN_zero
  by_cases ha : negB a <;> by_cases hb : negB b <;> simp only [ha, hb, if_true, Bool.false_eq_true, if_false] at h ⊢
  · rw [show rungB a = rungB b by omega]
  · rw [show rungB a = 0 by omega, show rungB b = 0 by omega, z]; rfl
  · rw [show rungB a = 0 by omega, show rungB b = 0 by omega, z]; rfl
  · rw [show rungB a = rungB b by omega]
theorem sv_compare (a b : Nat) : compare (sv a) (sv b) = compare (keyI a) (keyI b) := compare_of sv_lt sv_lt sv_eq

/-- what a word that is a number reads as -/
theorem read_fin (b : Nat) (h : rungB b < 9218868437227405312) : ∃ (m : Nat) (p : Int), Ieee.double.read b = .number (negB b) m p ∧ -1074 ≤ p ∧ m * 2 ^ (p + 1074).toNat = valN (rungB b) := by
  unfold Ieee.Format.read
  rw [oS, oB, oI, oL]
  show ∃ m p, (if rungB b < _ then Ieee.Datum.number (negB b) (rungB b) _ else if rungB b < _ then Ieee.Datum.number (negB b) (4503599627370496 + rungB b % 4503599627370496) (-1074 + ((rungB b / 4503599627370496 - 1 : Nat) : Int)) else _) = _ ∧ _
  rw [if_pos h]
  unfold valN
  split
  · exact ⟨_, _, rfl, by omega, by simp⟩
  · refine ⟨_, _, rfl, by omega, ?_⟩
    rw [show (-1074 + ((rungB b / 4503599627370496 - 1 : Nat) : Int) + 1074).toNat = rungB b / 4503599627370496 - 1 by omega]
theorem read_inf (b : Nat) (h : rungB b = 9218868437227405312) : Ieee.double.read b = .infinity (negB b) := by
  unfold Ieee.Format.read
  rw [oS, oB, oI, oL]
  show (if rungB b < _ then _ else if rungB b < _ then _ else if rungB b = _ then Ieee.Datum.infinity (negB b) else _) = _
  rw [if_neg (by omega), if_neg (by omega), if_pos h]
theorem read_nan (b : Nat) (h : 9218868437227405312 < rungB b) : ∃ n, Ieee.double.read b = .nan (negB b) n := by
  unfold Ieee.Format.read
  rw [oS, oB, oI, oL]
  show ∃ n, (if rungB b < _ then _ else if rungB b < _ then _ else if rungB b = _ then _ else Ieee.Datum.nan (negB b) (rungB b - 9218868437227405312)) = _
  rw [if_neg (by omega), if_neg (by omega), if_neg (by omega)]
  exact ⟨_, rfl⟩

theorem order_nan_l (a b : Nat) (h : nanB a = true) : Ieee.double.order a b = none := by
  obtain ⟨n, hn⟩ := read_nan a (by simpa [nanB] using h)
  unfold Ieee.Format.order
  rw [hn]
  unfold Ieee.Datum.order
  cases Ieee.double.read b <;> rfl
theorem order_nan_r (a b : Nat) (h : nanB b = true) : Ieee.double.order a b = none := by
  obtain ⟨n, hn⟩ := read_nan b (by simpa [nanB] using h)
  unfold Ieee.Format.order
  rw [hn]
  unfold Ieee.Datum.order
  cases Ieee.double.read a <;> rfl

theorem signed_scale (s : Bool) (m u B : Nat) : Ieee.signed s m u * ((2 ^ B : Nat) : Int) = if s then -((m * 2 ^ (u + B) : Nat) : Int) else ((m * 2 ^ (u + B) : Nat) : Int) := by
  unfold Ieee.signed
  rw [Nat.shiftLeft_eq, Nat.pow_add, ← Nat.mul_assoc]
  cases s
  · simp only [Bool.false_eq_true, if_false, Int.natCast_mul]
  · simp only [if_true, Int.natCast_mul, Int.neg_mul]

theorem order_key (a b : Nat) (ha : nanB a = false) (hb : nanB b = false) : Ieee.double.order a b = some (compare (keyI a) (keyI b)) := by
  have ha' : rungB a ≤ 9218868437227405312 := by simpa [nanB] using ha
  have hb' : rungB b ≤ 9218868437227405312 := by simpa [nanB] using hb
  unfold Ieee.Format.order
  rcases Nat.lt_or_ge (rungB a) 9218868437227405312 with h1 | h1 <;> rcases Nat.lt_or_ge (rungB b) 9218868437227405312 with h2 | h2
  · obtain ⟨m, p, e1, p1, v1⟩ := read_fin a h1
    obtain ⟨n, q, e2, q1, v2⟩ := read_fin b h2
    rw [e1, e2]
    unfold Ieee.Datum.order
    simp only [Option.some.injEq]
    rw [← sv_compare]
    obtain ⟨B, hB⟩ : ∃ B : Nat, min p q + 1074 = B := ⟨(min p q + 1074).toNat, by omega⟩
    have s1 := signed_scale (negB a) m (p - min p q).toNat B
    have s2 := signed_scale (negB b) n (q - min p q).toNat B
    rw [show (p - min p q).toNat + B = (p + 1074).toNat by omega, v1] at s1
    rw [show (q - min p q).toNat + B = (q + 1074).toNat by omega, v2] at s2
    have g1 : Ieee.signed (negB a) m (p - min p q).toNat * ((2 ^ B : Nat) : Int) = sv a := s1
    have g2 : Ieee.signed (negB b) n (q - min p q).toNat * ((2 ^ B : Nat) : Int) = sv b := s2
    have hpos : (0 : Int) < ((2 ^ B : Nat) : Int) := Int.ofNat_lt.2 (Nat.two_pow_pos B)
    refine (compare_of (fun h => ?_) (fun h => ?_) (fun h => ?_)).symm
    · rw [← g1, ← g2]; exact Int.mul_lt_mul_of_pos_right h hpos
    · rw [← g1, ← g2]; exact Int.mul_lt_mul_of_pos_right h hpos
    · rw [← g1, ← g2, h]
  · obtain ⟨m, p, e1, p1, v1⟩ := read_fin a h1
    rw [e1, read_inf b (by omega)]
    unfold Ieee.Datum.order
    unfold keyI
    by_cases x : negB a <;> by_cases y : negB b <;> simp only [x, y, if_true, Bool.false_eq_true, if_false, Option.some.injEq] <;> first | exact (Int.compare_eq_gt.2 (by omega)).symm | exact (Int.compare_eq_lt.2 (by omega)).symm
  · obtain ⟨m, p, e1, p1, v1⟩ := read_fin b h2
    rw [e1, read_inf a (by omega)]
    unfold Ieee.Datum.order
    unfold keyI
    by_cases x : negB a <;> by_cases y : negB b <;> simp only [x, y, if_true, Bool.false_eq_true, if_false, Option.some.injEq] <;> first | exact (Int.compare_eq_gt.2 (by omega)).symm | exact (Int.compare_eq_lt.2 (by omega)).symm
  · rw [read_inf a (by omega), read_inf b (by omega)]
    unfold Ieee.Datum.order
    unfold keyI
    by_cases x : negB a <;> by_cases y : negB b <;> simp only [x, y, if_true, Bool.false_eq_true, if_false, Option.some.injEq] <;> first | exact (Int.compare_eq_gt.2 (by omega)).symm | exact (Int.compare_eq_lt.2 (by omega)).symm | exact (Int.compare_eq_eq.2 (by omega)).symm
end Go.Proofs.Ytloofajopgbfmaa
