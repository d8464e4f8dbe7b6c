/- The reals of m times 2 to e: what their bits are, and what Ldexp's steps make of them. -/
import Derived.Test.YtddeoemkjedonaaDoorRows
import Derived.Test.YtddeoemkjedonaaDoorLdexp
import Derived.Test.YtddeoemkjedonaaDoorScaled
import Derived.Laws.BitsLemmas
import Derived.Laws.Bits64
namespace Go.Proofs.YtddeoemkjedonaaDoor
open Go.RowKit

theorem dS : Ieee.double.signWeight = 9223372036854775808 := by decide
theorem dB : Ieee.double.binade = 4503599627370496 := by decide
theorem dI : Ieee.double.infRung = 9218868437227405312 := by decide
theorem dL : Ieee.double.leastPlace = -1074 := by decide
theorem dF : Ieee.double.fractionBits = 52 := rfl

theorem read_zero : Ieee.double.read 0 = .number false 0 (-1074) := by decide
theorem read_norm (q r : Nat) (h1 : 1 ≤ q) (h2 : q ≤ 2046) (hr : r < 4503599627370496) :
    Ieee.double.read (q * 4503599627370496 + r) = .number false (4503599627370496 + r) (-1074 + ((q - 1 : Nat) : Int)) := by
  unfold Ieee.Format.read
  rw [dS, dB, dI, dL]
  have e1 : (q * 4503599627370496 + r) / 9223372036854775808 % 2 = 0 := by omega
  have e2 : (q * 4503599627370496 + r) % 9223372036854775808 = q * 4503599627370496 + r := by omega
  have e3 : (q * 4503599627370496 + r) % 4503599627370496 = r := by omega
  have e4 : (q * 4503599627370496 + r) / 4503599627370496 = q := by omega
  simp only [e1, e2]
  rw [if_neg (by omega), if_pos (by omega), e3, e4]
  rfl

theorem cut_exact (n d kept : Nat) (h : kept * 2 ^ d = n) (hn : 0 < n) : Ieee.Toward.even.cut false n d = kept := by
  have hk : 0 < kept := by
    rcases Nat.eq_zero_or_pos kept with rfl | h'
    · simp at h; omega
    · exact h'
  have hd : d ≤ n.log2 := by
    rw [Nat.le_log2 (by omega)]
    rw [← h]
    exact Nat.le_mul_of_pos_left _ hk
  unfold Ieee.Toward.cut
  rw [Nat.min_eq_left (by omega : d ≤ n.log2 + 2), Nat.one_shiftLeft]
  have hp : 0 < 2 ^ d := Nat.two_pow_pos d
  have e1 : n / 2 ^ d = kept := by rw [← h]; exact Nat.mul_div_cancel _ hp
  have e2 : n % 2 ^ d = 0 := by rw [← h]; exact Nat.mul_mod_left _ _
  simp only [e1, e2]
  simp only [Nat.mul_zero]
  have e3 : decide (2 ^ d < 0) = false := by simp
  have e4 : (2 ^ d == 0) = false := by rw [beq_eq_false_iff_ne]; omega
  rw [e3, e4]
  rfl

theorem word_false (f : Ieee.Format) (r : Nat) : f.word false r = r := rfl
/-- where nothing is dropped, the word is told by the place of the last digit and what is kept -/
theorem nearest_of (mag : Nat) (place last : Int) (kept : Nat) (hm : 0 < mag) (hl : last = max (place + (mag.log2 : Int) - 52) (-1074))
    (hk : kept * 2 ^ (last - place).toNat = mag * 2 ^ (place - last).toNat) : Ieee.double.nearest false mag place = min ((last + 1074).toNat * 4503599627370496 + kept) 9218868437227405312 := by
  unfold Ieee.Format.nearest
  rw [if_neg (by omega)]
  simp only [dB, dI, dL, dF]
  have e : max (place + (mag.log2 : Int) - ((52 : Nat) : Int)) (-1074) = last := by rw [hl]; congr 1
  rw [e, Nat.shiftLeft_eq, cut_exact _ _ kept hk (Nat.mul_pos hm (Nat.two_pow_pos _))]
  have e2 : last - -1074 = last + 1074 := by omega
  rw [e2, word_false]

theorem log2_bounds {m : Nat} (h : 0 < m) : 2 ^ m.log2 ≤ m ∧ m < 2 ^ (m.log2 + 1) := ⟨Nat.log2_self_le (by omega), Nat.lt_log2_self⟩
theorem scaled_bounds {m k : Nat} (h : 0 < m) (hk : k = m.log2) (hk2 : k ≤ 52) : 4503599627370496 ≤ m * 2 ^ (52 - k) ∧ m * 2 ^ (52 - k) < 9007199254740992 := by
  obtain ⟨h1, h2⟩ := log2_bounds h
  rw [← hk] at h1 h2
  have e1 : 2 ^ k * 2 ^ (52 - k) = 4503599627370496 := by rw [← Nat.pow_add, Nat.add_sub_cancel' hk2]
  have e2 : 2 ^ (k + 1) * 2 ^ (52 - k) = 9007199254740992 := by rw [← Nat.pow_add, show k + 1 + (52 - k) = 53 by omega]
  have hp : 0 < 2 ^ (52 - k) := Nat.two_pow_pos _
  exact ⟨by rw [← e1]; exact Nat.mul_le_mul_right _ h1, by rw [← e2]; exact Nat.mul_lt_mul_of_pos_right h2 hp⟩
theorem log2_le {m : Nat} (h : 0 < m) (h2 : m < 9007199254740992) : m.log2 ≤ 52 := by
  have := (log2_bounds h).1
  rcases Nat.lt_or_ge 52 m.log2 with h' | h'
  · have : 2 ^ 53 ≤ 2 ^ m.log2 := Nat.pow_le_pow_right (by omega) h'
    omega
  · exact h'

/-- the bits of a whole number that a float holds -/
theorem bits_int (m k : Nat) (h : 0 < m) (hk : k = m.log2) (hk2 : k ≤ 52) : floatOfInt .f64 (m : Int) = (k + 1023) * 4503599627370496 + (m * 2 ^ (52 - k) - 4503599627370496) := by
  obtain ⟨h1, h2⟩ := scaled_bounds h hk hk2
  have e := nearest_of m 0 ((k : Int) - 52) (m * 2 ^ (52 - k)) h (by rw [← hk]; omega)
    (by rw [show ((k : Int) - 52 - 0).toNat = 0 by omega, show (0 - ((k : Int) - 52)).toNat = 52 - k by omega]; simp)
  have e0 : floatOfInt .f64 (m : Int) = Ieee.double.nearest false m 0 := by
    show Ieee.double.nearest (decide ((m : Int) < 0)) (m : Int).natAbs 0 = _
    rw [decide_eq_false (by omega), Int.natAbs_natCast]
  rw [e0, e, show ((k : Int) - 52 + 1074).toNat = k + 1022 by omega]
  omega

/-- what Ldexp makes is m times 2 to e -/
theorem mul_made (m k q : Nat) (e : Int) (c : Nat) (pc : Int) (h : 0 < m) (hk : k = m.log2) (hk2 : k ≤ 52) (hc : Ieee.double.read c = .number false 4503599627370496 pc)
    (hq1 : 1 ≤ q) (hq2 : q ≤ 2046) (hp : pc + (-1074 + ((q - 1 : Nat) : Int)) = e + (k : Int) - 104) (he : -1074 ≤ e) :
    floatBits .mul .f64 c (q * 4503599627370496 + (m * 2 ^ (52 - k) - 4503599627370496)) = some (realBits m e) := by
  obtain ⟨h1, h2⟩ := scaled_bounds h hk hk2
  show Ieee.Format.mul Ieee.double _ _ = _
  unfold Ieee.Format.mul
  rw [hc, read_norm q _ hq1 hq2 (by omega)]
  show some (Ieee.double.nearest (false ^^ false) (4503599627370496 * (4503599627370496 + (m * 2 ^ (52 - k) - 4503599627370496))) _) = _
  rw [hp, Nat.add_sub_cancel' h1]
  obtain ⟨L, hL⟩ : ∃ L : Int, L = max (e + (k : Int) - 52) (-1074) := ⟨_, rfl⟩
  have hLe : L ≤ e := by rw [hL]; omega
  have hL2 : e + (k : Int) - 52 ≤ L := by rw [hL]; omega
  have e52 : (4503599627370496 : Nat) = 2 ^ 52 := by decide
  have hlog : (4503599627370496 * (m * 2 ^ (52 - k))).log2 = 104 := by
    have : 2 ^ 104 ≤ 4503599627370496 * (m * 2 ^ (52 - k)) := by
      have : (2 : Nat) ^ 104 = 4503599627370496 * 4503599627370496 := by decide
      rw [this]; exact Nat.mul_le_mul_left _ h1
    have h3 : 4503599627370496 * (m * 2 ^ (52 - k)) < 2 ^ 105 := by
      have : (2 : Nat) ^ 105 = 4503599627370496 * 9007199254740992 := by decide
      rw [this]; exact Nat.mul_lt_mul_of_pos_left h2 (by decide)
    have hne : 4503599627370496 * (m * 2 ^ (52 - k)) ≠ 0 := by omega
    have g1 := (Nat.le_log2 hne).2 this
    have g2 := (Nat.log2_lt hne).2 h3
    omega
  have r1 := nearest_of m e L (m * 2 ^ (e - L).toNat) h (by rw [hL, ← hk]) (by rw [show (L - e).toNat = 0 by omega]; simp)
  have r2 := nearest_of (4503599627370496 * (m * 2 ^ (52 - k))) (e + (k : Int) - 104) L (m * 2 ^ (e - L).toNat) (by omega) (by rw [hlog, hL]; congr 1; omega) (by
    rw [show (e + (k : Int) - 104 - L).toNat = 0 by omega, Nat.pow_zero, Nat.mul_one, e52, Nat.mul_comm (2 ^ 52), Nat.mul_assoc, Nat.mul_assoc, ← Nat.pow_add, ← Nat.pow_add]
    congr 2
    omega)
  unfold realBits
  rw [Int.toNat_natCast, r1]
  exact congrArg some r2

theorem order_num (m1 m2 : Nat) (p1 p2 : Int) : Ieee.Datum.order (.number false m1 p1) (.number false m2 p2) = some (compare ((m1 * 2 ^ (p1 - min p1 p2).toNat : Nat) : Int) ((m2 * 2 ^ (p2 - min p1 p2).toNat : Nat) : Int)) := by
  simp only [Ieee.Datum.order, Ieee.signed, Nat.shiftLeft_eq]
  rfl
theorem cmp_not_lt (x y : Int) (h : y ≤ x) : (some (compare x y) == some Ordering.lt) = false := by
  have h1 : compare x y ≠ .lt := by rw [Ne, Int.compare_eq_lt]; omega
  revert h1; cases compare x y <;> simp
theorem cmp_not_gt (x y : Int) (h : x ≤ y) : (some (compare x y) == some Ordering.gt) = false := by
  have h1 : compare x y ≠ .gt := by rw [Ne, Int.compare_eq_gt]; omega
  revert h1; cases compare x y <;> simp
theorem cmp_not_eq (x y : Int) (h : x ≠ y) : (some (compare x y) == some Ordering.eq) = false := by
  have h1 : compare x y ≠ .eq := by rw [Ne, Int.compare_eq_eq]; exact h
  revert h1; cases compare x y <;> simp
theorem cmp_self (q r : Nat) (h1 : 1 ≤ q) (h2 : q ≤ 2046) (hr : r < 4503599627370496) : eqB (q * 4503599627370496 + r) (q * 4503599627370496 + r) = true := by
  unfold eqB
  show ((Ieee.double.read _).order (Ieee.double.read _) == some Ordering.eq) = true
  rw [read_norm q r h1 h2 hr, order_num, Int.compare_eq_eq.2 rfl]
  rfl
theorem cmp_zero (q r : Nat) (h1 : 1 ≤ q) (h2 : q ≤ 2046) (hr : r < 4503599627370496) : eqB (q * 4503599627370496 + r) 0 = false := by
  unfold eqB
  show ((Ieee.double.read _).order (Ieee.double.read 0) == some Ordering.eq) = false
  rw [read_norm q r h1 h2 hr, read_zero, order_num]
  refine cmp_not_eq _ _ ?_
  have : 0 < (4503599627370496 + r) * 2 ^ (-1074 + ((q - 1 : Nat) : Int) - min (-1074 + ((q - 1 : Nat) : Int)) (-1074)).toNat := Nat.mul_pos (by omega) (Nat.two_pow_pos _)
  rw [Nat.zero_mul]
  omega
theorem cmp_least (q r : Nat) (h1 : 1 ≤ q) (h2 : q ≤ 2046) (hr : r < 4503599627370496) : ltB (q * 4503599627370496 + r) 4503599627370496 = false := by
  unfold ltB
  show ((Ieee.double.read _).order (Ieee.double.read 4503599627370496) == some Ordering.lt) = false
  have e := read_norm 1 0 (by omega) (by omega) (by omega)
  rw [Nat.one_mul, Nat.add_zero] at e
  rw [read_norm q r h1 h2 hr, e, order_num]
  refine cmp_not_lt _ _ ?_
  rw [show (-1074 + ((1 - 1 : Nat) : Int) - min (-1074 + ((q - 1 : Nat) : Int)) (-1074 + ((1 - 1 : Nat) : Int))).toNat = 0 by omega, Nat.pow_zero, Nat.mul_one]
  have h3 := Nat.le_mul_of_pos_right (4503599627370496 + r) (Nat.two_pow_pos (-1074 + ((q - 1 : Nat) : Int) - min (-1074 + ((q - 1 : Nat) : Int)) (-1074 + ((1 - 1 : Nat) : Int))).toNat)
  exact Int.ofNat_le.2 (Nat.le_trans (Nat.le_add_right _ r) h3)
theorem cmp_most (q r : Nat) (h1 : 1 ≤ q) (h2 : q ≤ 2046) (hr : r < 4503599627370496) : gtB (q * 4503599627370496 + r) 9218868437227405311 = false := by
  unfold gtB
  show ((Ieee.double.read _).order (Ieee.double.read 9218868437227405311) == some Ordering.gt) = false
  have e := read_norm 2046 4503599627370495 (by omega) (by omega) (by omega)
  rw [show 2046 * 4503599627370496 + 4503599627370495 = 9218868437227405311 from by decide] at e
  rw [read_norm q r h1 h2 hr, e, order_num]
  refine cmp_not_gt _ _ ?_
  rw [show (-1074 + ((q - 1 : Nat) : Int) - min (-1074 + ((q - 1 : Nat) : Int)) (-1074 + ((2046 - 1 : Nat) : Int))).toNat = 0 by omega, Nat.pow_zero, Nat.mul_one]
  have h3 := Nat.le_mul_of_pos_right (4503599627370496 + 4503599627370495) (Nat.two_pow_pos (-1074 + ((2046 - 1 : Nat) : Int) - min (-1074 + ((q - 1 : Nat) : Int)) (-1074 + ((2046 - 1 : Nat) : Int))).toNat)
  exact Int.ofNat_le.2 (Nat.le_trans (by omega) h3)

theorem u64_andNot (a m : Nat) (ha : a < 18446744073709551616) (hm : m < 18446744073709551616) : bits .andNot .u64 (a : Int) (m : Int) = ((a &&& (18446744073709551615 - m) : Nat) : Int) := by
  have h1 : (BitVec.ofInt 64 (a : Int)).toNat = a := by rw [BitVec.ofInt_natCast, BitVec.toNat_ofNat]; exact Nat.mod_eq_of_lt (by omega)
  have h2 : (BitVec.ofInt 64 (m : Int)).toNat = m := by rw [BitVec.ofInt_natCast, BitVec.toNat_ofNat]; exact Nat.mod_eq_of_lt (by omega)
  have h3 : (BitVec.ofInt 64 (a : Int) &&& ~~~(BitVec.ofInt 64 (m : Int))).toNat = a &&& (18446744073709551615 - m) := by
    rw [BitVec.toNat_and, BitVec.toNat_not, h1, h2]
  show IntKind.u64.wrap (((BitVec.ofInt 64 (a : Int) &&& ~~~(BitVec.ofInt 64 (m : Int))).toNat : Nat) : Int) = _
  rw [h3, IntKind.wrap_u64]
  have h4 : a &&& (18446744073709551615 - m) ≤ a := Nat.and_le_left
  omega
theorem abs_pos (b : Nat) (h : b < 9223372036854775808) : absF b = b := by
  unfold absF
  have e := u64_andNot b 9223372036854775808 (by omega) (by omega)
  rw [show ((9223372036854775808 : Nat) : Int) = 9223372036854775808 from rfl] at e
  rw [e]
  have h2 : (18446744073709551615 - 9223372036854775808 : Nat) = 2 ^ 63 - 1 := by decide
  rw [h2, Nat.and_two_pow_sub_one_eq_mod, Int.toNat_natCast]
  exact Nat.mod_eq_of_lt h
theorem exp_out (b : Nat) (h : b < 9223372036854775808) : bits .andNot .u64 (b : Int) 9218868437227405312 = ((b % 4503599627370496 : Nat) : Int) := by
  have e := u64_andNot b 9218868437227405312 (by omega) (by omega)
  rw [show ((9218868437227405312 : Nat) : Int) = 9218868437227405312 from rfl] at e
  rw [e]
  have h1 : b &&& (2 ^ 63 - 1) = b := by rw [Nat.and_two_pow_sub_one_eq_mod]; exact Nat.mod_eq_of_lt h
  have h2 : (2 ^ 63 - 1) &&& (18446744073709551615 - 9218868437227405312 : Nat) = 2 ^ 52 - 1 := by decide
  have h3 : b &&& (18446744073709551615 - 9218868437227405312 : Nat) = b % 4503599627370496 := by
    rw [← h1, Nat.and_assoc, h2, Nat.and_two_pow_sub_one_eq_mod, h1]
  rw [h3]
theorem wraps_u63 (n : Int) (h₀ : 0 ≤ n) (h₁ : n < 2 ^ 63) : IntKind.u64.wrap n = n := by rw [IntKind.wrap_u64]; omega
theorem wraps_i63 (n : Int) (h₀ : 0 ≤ n) (h₁ : n < 2 ^ 63) : IntKind.i64.wrap n = n := by rw [IntKind.wrap_i64]; omega
theorem exp_in (r q : Nat) (hr : r < 4503599627370496) (hq : q ≤ 2046) : bits .or .u64 (r : Int) ((q * 4503599627370496 : Nat) : Int) = ((q * 4503599627370496 + r : Nat) : Int) := by
  have h1 := (bits_nat .u64 63 (by decide) wraps_u63 r (q * 4503599627370496) (by omega) (by omega)).2
  have h2 := (bits_nat .u64 63 (by decide) wraps_u63 (q * 4503599627370496) r (by omega) (by omega)).2
  have h3 := bits_join .u64 63 (by decide) wraps_u63 52 ((q * 4503599627370496 : Nat) : Int) (r : Int) (by omega) (by omega) (by omega) (by omega) (by omega) (by omega)
  rw [h1, Nat.or_comm, ← h2, h3]
  omega
theorem exp_of (q r : Nat) (hr : r < 4503599627370496) (hq : q ≤ 2046) : bits .and .i64 ((q * 4503599627370496 + r : Nat) / 4503599627370496 : Int) 2047 = (q : Int) := by
  have h := bits_mask .i64 63 (by decide) wraps_i63 11 (by decide) (((q * 4503599627370496 + r : Nat) : Int) / 4503599627370496) (by omega) (by omega)
  have e : ((2 : Int) ^ 11 - 1) = 2047 := by decide
  have e2 : ((2 : Int) ^ 11) = 2048 := by decide
  rw [e, e2] at h
  rw [h]
  omega

theorem read_one : Ieee.double.read 4607182418800017408 = .number false 4503599627370496 (-52) := by
  have e := read_norm 1023 0 (by omega) (by omega) (by omega)
  rw [show 1023 * 4503599627370496 + 0 = 4607182418800017408 from by decide] at e
  rw [e]
  rfl
theorem read_least : Ieee.double.read 4368491638549381120 = .number false 4503599627370496 (-105) := by
  have e := read_norm 970 0 (by omega) (by omega) (by omega)
  rw [show 970 * 4503599627370496 + 0 = 4368491638549381120 from by decide] at e
  rw [e]
  rfl
theorem made (m k r : Nat) (e : Int) (c : Nat) (pc : Int) (x : Int) (h : 0 < m) (hk : k = m.log2) (hk2 : k ≤ 52) (hr : r = m * 2 ^ (52 - k) - 4503599627370496) (hc : Ieee.double.read c = .number false 4503599627370496 pc)
    (hx1 : 1 ≤ x) (hx2 : x ≤ 2046) (hp : pc + x = e + (k : Int) + 971) (he : -1074 ≤ e) (t : TypeId) (w : World) :
    (binOp .mul t (.float .f64 c) (.float .f64 (bits .or .u64 (r : Int) (x * 4503599627370496)).toNat)).run Tryd.prog w = .ok (.float .f64 (realBits m e)) w := by
  obtain ⟨h1, h2⟩ := scaled_bounds h hk hk2
  obtain ⟨q, rfl⟩ := Int.eq_ofNat_of_zero_le (show 0 ≤ x by omega)
  have e1 := exp_in r q (by omega) (by omega)
  rw [Int.natCast_mul] at e1
  rw [show ((4503599627370496 : Nat) : Int) = 4503599627370496 from rfl] at e1
  rw [e1, Int.toNat_natCast, hr]
  exact run_float_arith (h := mul_made m k q e c pc h hk hk2 hc (by omega) (by omega) (by omega) he) ..

set_option maxRecDepth 100000
theorem bitLenAux_log2 : ∀ (f m : Nat), 0 < m → m < 2 ^ f → Lib.bitLenAux f m = m.log2 + 1
  | 0, m, h, h2 => by simp at h2; omega
  | f + 1, m, h, h2 => by
    unfold Lib.bitLenAux
    rw [if_neg (by omega), Nat.log2_def]
    split
    · rw [bitLenAux_log2 f (m / 2) (by omega) (by rw [Nat.pow_succ] at h2; omega)]
      omega
    · have h3 : m / 2 = 0 := by omega
      rw [h3]
      cases f <;> rfl
theorem bitLen_log2 (m : Nat) (h : 0 < m) (h2 : m < 18446744073709551616) : Lib.bitLen m = m.log2 + 1 := bitLenAux_log2 64 m h h2
end Go.Proofs.YtddeoemkjedonaaDoor
