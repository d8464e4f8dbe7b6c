/- A real's text hangs on its bits alone. -/
import Derived.Test.YtofjbakepneilaaGreatDoorVForm
import Derived.Test.YtofjbakepneilaaGreatDoorRealsPlain
import Derived.Test.YtofjbakepneilaaGreatDoorWReal
namespace Go.Proofs.YtofjbakepneilaaGreatDoor
open Go.RowKit Go.Shelf
set_option maxRecDepth 100000

theorem sign_any (b : Nat) (hb : b < 18446744073709551616) (w : World) : Calls Tryz.prog 75 #[.float .f64 b] w fun e w' => e = .returned (.bool (decide (9223372036854775808 ≤ b))) ∧ w = w' := by
  have h1 := f64bits b
  by_cases h : 9223372036854775808 ≤ b
  · have e1 : IntKind.i64.wrap (b : Int) = (b : Int) - 18446744073709551616 := by rw [IntKind.wrap_i64]; omega
    have d1 : decide ((b : Int) - 18446744073709551616 < 0) = true := by rw [decide_eq_true_eq]; omega
    have d2 : decide (9223372036854775808 ≤ b) = true := by rw [decide_eq_true_eq]; exact h
    have d3 : (b : Int) < 18446744073709551616 := by omega
    rw [d2]
    clear h hb d2
    go_enter Tryz.func75, Tryz.ntmps75
    go_wp2
    go_ret
    exact ⟨rfl, rfl⟩
  · have e1 : IntKind.i64.wrap (b : Int) = (b : Int) := by rw [IntKind.wrap_i64]; omega
    have d1 : decide ((b : Int) < 0) = false := by rw [decide_eq_false_iff_not]; omega
    have d2 : decide (9223372036854775808 ≤ b) = false := by rw [decide_eq_false_iff_not]; exact h
    rw [d2]
    clear h hb d2
    go_enter Tryz.func75, Tryz.ntmps75
    go_wp2
    go_ret
    exact ⟨rfl, rfl⟩
theorem isInf1_any (b : Nat) (w : World) : Calls Tryz.prog 119 #[.float .f64 b, .int .i64 1] w fun e w' => e = .returned (.bool (gtB b 9218868437227405311)) ∧ w = w' := by
  go_enter Tryz.func119, Tryz.ntmps119
  go_wp2
  go_ret
  exact ⟨rfl, rfl⟩
/-- what a number's bits are taken apart into -/
def oddM (b : Nat) : Nat := if b / 4503599627370496 = 0 then b % 4503599627370496 else b % 4503599627370496 + 4503599627370496
def oddE (b : Nat) : Int := (if b / 4503599627370496 = 0 then 0 else (b / 4503599627370496 : Nat) - 1) - 1074 + (Lib.ctz 64 (oddM b) : Nat)
theorem ediv_pow (r k : Nat) : ((r / 2 ^ k : Nat) : Int) = (r : Int) / 2 ^ k := by
  rw [Int.natCast_ediv, Int.natCast_pow]
  rfl
set_option maxHeartbeats 1000000 in
theorem odd_any (b : Nat) (hb : b < 9223372036854775808) (h0 : b ≠ 0) (w : World) (hG : GlobV w) :
    Calls Tryz.prog 120 #[.float .f64 b] w fun e w' => e = .returned (.tuple #[.int .u64 (oddM b / 2 ^ Lib.ctz 64 (oddM b) : Nat), .int .i64 (oddE b)]) ∧ w = w' := by
  have h1 := f64bits b
  obtain ⟨q, hq⟩ : ∃ q, q = b / 4503599627370496 := ⟨_, rfl⟩
  obtain ⟨r, hr⟩ : ∃ r, r = b % 4503599627370496 := ⟨_, rfl⟩
  have hA : bits .and .u64 (b : Int) 4503599627370495 = (r : Int) := by
    have := bits_and_u64_nat b 4503599627370495 (by omega) (by omega)
    rw [show ((4503599627370495 : Nat) : Int) = 4503599627370495 from rfl] at this
    rw [this, show (4503599627370495 : Nat) = 2 ^ 52 - 1 from rfl, Nat.and_two_pow_sub_one_eq_mod, hr]
  have hS : (b : Int) / 4503599627370496 = (q : Int) := by omega
  have hq2 : q ≤ 2047 := by omega
  have hr2 : r < 4503599627370496 := by omega
  by_cases hz : q = 0
  · have hm : oddM b = r := by unfold oddM; rw [if_pos (by omega), hr]
    have he : oddE b = -1074 + (Lib.ctz 64 r : Nat) := by unfold oddE; rw [if_pos (by omega), hm]; omega
    have hr0 : r ≠ 0 := by omega
    obtain ⟨_, hk⟩ := Lib.lowest_bit 64 r hr0 (by omega)
    have ht := tz_any r (by omega) hr0 w hG.2.2
    have ed := ediv_pow r (Lib.ctz 64 r)
    rw [hm, he, ed]
    generalize Lib.ctz 64 r = k at ht hk ⊢
    have HTZ := Lib.hid ht
    subst hz
    have e0 : ((0 : Nat) : Int) = 0 := rfl
    clear hm he ht hq hr hr0 hb h0 ed
    go_enter Tryz.func120, Tryz.ntmps120
    go_wp2_with fail
    refine HTZ.out.mono ?_
    rintro e w' ⟨rfl, rfl⟩
    go_wp2_with fail
    go_ret2
    exact ⟨rfl, rfl⟩
  · have hm : oddM b = r + 4503599627370496 := by unfold oddM; rw [if_neg (by omega), hr]
    have he : oddE b = (q : Int) - 1 - 1074 + (Lib.ctz 64 (r + 4503599627370496) : Nat) := by unfold oddE; rw [if_neg (by omega), hm]; omega
    have hor : bits .or .u64 (r : Int) 4503599627370496 = ((r + 4503599627370496 : Nat) : Int) := by
      have := exp_in r 1 hr2 (by omega)
      rw [show ((1 * 4503599627370496 : Nat) : Int) = 4503599627370496 from rfl] at this
      rw [this]
      omega
    obtain ⟨m, hmm⟩ : ∃ m, m = r + 4503599627370496 := ⟨_, rfl⟩
    rw [← hmm] at hm he hor
    have hm0 : m ≠ 0 := by omega
    obtain ⟨_, hk⟩ := Lib.lowest_bit 64 m hm0 (by omega)
    have ht := tz_any m (by omega) hm0 w hG.2.2
    have ed := ediv_pow m (Lib.ctz 64 m)
    rw [hm, he, ed]
    generalize Lib.ctz 64 m = k at ht hk ⊢
    have HTZ := Lib.hid ht
    have hq1 : 0 < q := by omega
    have d1 : decide ((0 : Int) < (q : Int)) = true := by rw [decide_eq_true_eq]; omega
    have hml : (m : Int) < 9007199254740992 := by omega
    clear hm he ht hq hr hm0 hb h0 ed hmm hz
    go_enter Tryz.func120, Tryz.ntmps120
    go_wp2_with fail
    refine HTZ.out.mono ?_
    rintro e w' ⟨rfl, rfl⟩
    go_wp2_with fail
    go_ret2
    exact ⟨rfl, rfl⟩

theorem oddM_bounds {b : Nat} (hb : b < 9223372036854775808) : oddM b / 2 ^ Lib.ctz 64 (oddM b) < 18446744073709551616 := by
  have h1 : oddM b < 9007199254740992 := by unfold oddM; split <;> omega
  have := Nat.div_le_self (oddM b) (2 ^ Lib.ctz 64 (oddM b))
  omega
theorem oddE_bounds {b : Nat} (hb : b < 9223372036854775808) (h0 : b ≠ 0) : -9223372036854775808 ≤ oddE b ∧ oddE b ≤ 9223372036854775807 := by
  have h1 : oddM b ≠ 0 ∧ oddM b < 18446744073709551616 := by unfold oddM; split <;> omega
  obtain ⟨_, hk⟩ := Lib.lowest_bit 64 (oddM b) h1.1 h1.2
  unfold oddE
  split <;> omega
theorem itoa_len (E : Int) (h1 : -9223372036854775808 ≤ E) (h2 : E ≤ 9223372036854775807) : (Lib.itoa E).length ≤ 21 := by
  rcases Int.lt_or_le E 0 with h | h
  · obtain ⟨u, rfl⟩ : ∃ u : Nat, E = -(u : Int) := ⟨E.natAbs, by omega⟩
    rw [Lib.itoa_neg u (by omega)]
    have := dd_len20 u (by omega)
    simp only [List.length_cons]
    omega
  · obtain ⟨u, rfl⟩ := Int.eq_ofNat_of_zero_le h
    rw [Lib.itoa_nonneg]
    have := dd_len20 u (by omega)
    omega
/-- the text of a real without a sign -/
def magT (b : Nat) : ByteArray := if gtB b 9218868437227405311 = true then ⟨#[105, 110, 102]⟩ else if eqB b 0 = true then ⟨#[48, 112, 48]⟩ else (⟨(Lib.decDigits (oddM b / 2 ^ Lib.ctz 64 (oddM b))).toArray⟩ ++ ⟨#[112]⟩) ++ ⟨(Lib.itoa (oddE b)).toArray⟩
set_option maxHeartbeats 1000000 in
theorem mag_any (b : Nat) (hb : b < 9223372036854775808) (w : World) (hG : GlobV w) :
    Calls Tryz.prog 76 #[.float .f64 b] w fun e w' => e = .returned (.string (magT b)) ∧ Below w.heap.size w w' := by
  by_cases h1 : gtB b 9218868437227405311 = true
  · have hm : magT b = ⟨#[105, 110, 102]⟩ := by unfold magT; rw [if_pos h1]
    have hi := isInf1_any b w
    rw [h1] at hi
    have HI := Lib.hid hi
    rw [hm]
    clear hm hi h1
    go_enter Tryz.func76, Tryz.ntmps76
    go_wp2_with fail
    refine HI.out.mono ?_
    rintro e w' ⟨rfl, rfl⟩
    go_wp2_with fail
    go_ret
    exact ⟨rfl, Below.refl _ _⟩
  · have h1' : gtB b 9218868437227405311 = false := by simpa using h1
    have hi := isInf1_any b w
    rw [h1'] at hi
    have HI := Lib.hid hi
    by_cases h2 : eqB b 0 = true
    · have hm : magT b = ⟨#[48, 112, 48]⟩ := by unfold magT; rw [if_neg h1, if_pos h2]
      have t2 : (FloatKind.f64.format.order b 0 == some Ordering.eq) = true := h2
      rw [hm]
      clear hm hi h1 h1' h2
      go_enter Tryz.func76, Tryz.ntmps76
      go_wp2_with fail
      refine HI.out.mono ?_
      rintro e w' ⟨rfl, rfl⟩
      go_wp2_with fail
      go_ret
      exact ⟨rfl, Below.refl _ _⟩
    · have hm : magT b = (⟨(Lib.decDigits (oddM b / 2 ^ Lib.ctz 64 (oddM b))).toArray⟩ ++ ⟨#[112]⟩) ++ ⟨(Lib.itoa (oddE b)).toArray⟩ := by unfold magT; rw [if_neg h1, if_neg h2]
      have t2 : (FloatKind.f64.format.order b 0 == some Ordering.eq) = false := by
        cases hh : eqB b 0 with
        | true => exact absurd hh h2
        | false => exact hh
      have hb0 : b ≠ 0 := by
        rintro rfl
        exact h2 (by decide)
      have ho := odd_any b hb hb0 w hG
      have hM := oddM_bounds hb
      obtain ⟨hE1, hE2⟩ := oddE_bounds hb hb0
      generalize oddM b / 2 ^ Lib.ctz 64 (oddM b) = M at hm ho hM
      generalize oddE b = E at hm ho hE1 hE2
      have hf1 := fun W hW => fmtUint_any M hM W hW
      have hf2 := fun W hW => itoa_any E hE1 hE2 W hW
      have hl1 : (⟨(Lib.decDigits M).toArray⟩ : ByteArray).size ≤ 20 := dd_len20 M hM
      have hl2 : (⟨(Lib.itoa E).toArray⟩ : ByteArray).size ≤ 21 := itoa_len E hE1 hE2
      generalize (⟨(Lib.decDigits M).toArray⟩ : ByteArray) = s1 at hm hf1 hl1
      generalize (⟨(Lib.itoa E).toArray⟩ : ByteArray) = s2 at hm hf2 hl2
      rw [hm]
      have HO := Lib.hid ho
      have HG := Lib.hid hG
      have HF1 := Lib.hid hf1
      have HF2 := Lib.hid hf2
      clear hf1 hf2 hm hi h1 h1' h2 ho hb0 hG
      go_enter Tryz.func76, Tryz.ntmps76
      go_wp2_with fail
      refine HI.out.mono ?_
      rintro e w' ⟨rfl, rfl⟩
      go_wp2_with fail
      refine HO.out.mono ?_
      rintro e w' ⟨rfl, rfl⟩
      go_wp2_with fail
      refine (HF1.out w HG.out).mono ?_
      rintro e w1 ⟨rfl, hb1⟩
      have HB1 := Lib.hid hb1
      clear hb1
      go_wp2_with fail
      refine (HF2.out w1 (HG.out.below HB1.out (Nat.le_refl _))).mono ?_
      rintro e w2 ⟨rfl, hb2⟩
      have HB2 := Lib.hid (HB1.out.trans (hb2.mono HB1.out.size))
      clear hb2
      go_wp2_with fail
      go_ret
      exact ⟨rfl, HB2.out⟩
end Go.Proofs.YtofjbakepneilaaGreatDoor
/- A finite real is its odd number times its power of 2. -/
namespace Go.Proofs.YtofjbakepneilaaGreatDoor
open Go.RowKit

theorem ctz_dvd (n : Nat) : ∀ x, 2 ^ Lib.ctzFrom n x ∣ x := by
  induction n with
  | zero => intro x; simp [Lib.ctzFrom]
  | succ n ih =>
    intro x
    unfold Lib.ctzFrom
    split
    · simp
    · have h := ih (x / 2)
      have hx : x = 2 * (x / 2) := by omega
      rw [Nat.add_comm, Nat.pow_succ, Nat.mul_comm]
      conv => rhs; rw [hx]
      exact Nat.mul_dvd_mul_left 2 h
theorem near_low (M : Nat) (e0 : Int) (h : 0 < M) (h2 : M < 4503599627370496) (he : e0 = -1074) : Ieee.double.nearest false M e0 = M := by
  subst he
  have hl : M.log2 ≤ 52 := log2_le h (by omega)
  have r := nearest_of M (-1074) (-1074) M h (by omega) rfl
  rw [r, show ((-1074 : Int) + 1074).toNat = 0 from rfl, Nat.zero_mul, Nat.zero_add]
  exact Nat.min_eq_left (by omega)
theorem near_high (M : Nat) (e0 : Int) (k : Nat) (h : 4503599627370496 ≤ M) (h2 : M < 9007199254740992) (he : e0 = (k : Int) - 1074) (hk : k ≤ 2045) : Ieee.double.nearest false M e0 = k * 4503599627370496 + M := by
  have hl : M.log2 = 52 := by
    have h52 : (2 : Nat) ^ 52 = 4503599627370496 := by decide
    have k1 := (Nat.le_log2 (by omega : M ≠ 0)).2 (show 2 ^ 52 ≤ M by omega)
    have := log2_le (m := M) (by omega) h2
    omega
  have r := nearest_of M e0 e0 M (by omega) (by rw [hl]; omega) rfl
  rw [r, show (e0 + 1074).toNat = k by omega]
  exact Nat.min_eq_left (by omega)
theorem word_back (b : Nat) (h0 : 0 < b) (h1 : b < 9218868437227405312) :
    ∃ m : Nat, m = oddM b / 2 ^ Lib.ctz 64 (oddM b) ∧ 0 < m ∧ m < 9007199254740992 ∧ -1074 ≤ oddE b ∧ (m.log2 : Int) + 1 + oddE b ≤ 1024 ∧ realBits m (oddE b) = b := by
  obtain ⟨q, hq⟩ : ∃ q, q = b / 4503599627370496 := ⟨_, rfl⟩
  obtain ⟨f, hf⟩ : ∃ f, f = b % 4503599627370496 := ⟨_, rfl⟩
  obtain ⟨M, hM⟩ : ∃ M, M = oddM b := ⟨_, rfl⟩
  have hM0 : 0 < M := by rw [hM]; unfold oddM; split <;> omega
  have hM1 : M < 9007199254740992 := by rw [hM]; unfold oddM; split <;> omega
  obtain ⟨s, hs⟩ : ∃ s, s = Lib.ctz 64 (oddM b) := ⟨_, rfl⟩
  have hd : 2 ^ s ∣ M := by
    rw [hs, hM]
    unfold Lib.ctz
    rw [if_neg (by omega)]
    exact ctz_dvd _ _
  obtain ⟨m, hm⟩ := hd
  have hm' : M / 2 ^ s = m := by rw [hm]; exact Nat.mul_div_cancel_left _ (Nat.two_pow_pos _)
  have hm0 : 0 < m := by
    rcases Nat.eq_zero_or_pos m with rfl | h
    · simp at hm; omega
    · exact h
  have hmM : m ≤ M := by rw [hm]; exact Nat.le_mul_of_pos_left _ (Nat.two_pow_pos _)
  obtain ⟨e0, he0⟩ : ∃ e0 : Int, e0 = (if q = 0 then (0 : Int) else (q : Int) - 1) - 1074 := ⟨_, rfl⟩
  have hE : oddE b = e0 + (s : Int) := by
    unfold oddE
    rw [← hq, ← hs, he0]
    split
    · rfl
    · rename_i hq0
      rw [Int.natCast_sub (by omega)]
      rfl
  have hEl : -1074 ≤ oddE b := by rw [hE, he0]; split <;> omega
  refine ⟨m, by rw [← hs, ← hM, hm'], hm0, by omega, hEl, ?_, ?_⟩
  · have hlog : M.log2 = m.log2 + s := by
      obtain ⟨g1, g2⟩ := log2_bounds hm0
      have k1 : 2 ^ (m.log2 + s) ≤ M := by rw [hm, Nat.pow_add, Nat.mul_comm (2 ^ s)]; exact Nat.mul_le_mul_right _ g1
      have k2 : M < 2 ^ (m.log2 + s + 1) := by
        rw [hm, show m.log2 + s + 1 = s + (m.log2 + 1) by omega, Nat.pow_add]
        exact Nat.mul_lt_mul_of_pos_left g2 (Nat.two_pow_pos _)
      have := (Nat.le_log2 (by omega : M ≠ 0)).2 k1
      have := (Nat.log2_lt (by omega : M ≠ 0)).2 k2
      omega
    have hl52 := log2_le hM0 hM1
    have : q ≤ 2046 := by omega
    rw [hE, he0]
    split <;> omega
  · have hsc := real_scale m s (oddE b) hm0 (by omega) hEl
    rw [← hsc, show oddE b - (s : Int) = e0 by omega, Nat.mul_comm, ← hm]
    have hMv : M = if q = 0 then f else f + 4503599627370496 := by rw [hM]; unfold oddM; rw [← hq, ← hf]
    by_cases hq0 : q = 0
    · rw [if_pos hq0] at hMv he0
      rw [near_low M e0 hM0 (by omega) (by omega)]
      omega
    · rw [if_neg hq0] at hMv he0
      rw [near_high M e0 (q - 1) (by omega) hM1 (by omega) (by omega)]
      omega
end Go.Proofs.YtofjbakepneilaaGreatDoor
/- readReal at a real's own text. -/
namespace Go.Proofs.YtofjbakepneilaaGreatDoor
open Go.RowKit Go.Shelf

theorem head_dd (m : Nat) (h : 0 < m) : ∃ c r, Lib.decDigits m = c :: r ∧ 49 ≤ c.toNat ∧ c.toNat ≤ 57 := by
  obtain ⟨c, r, hcr⟩ : ∃ c r, Lib.decDigits m = c :: r := by
    cases hx : Lib.decDigits m with
    | nil => exact absurd hx (dd_ne m)
    | cons c r => exact ⟨c, r, rfl⟩
  have hc := dd_digit m c (by rw [hcr]; simp)
  have h48 : c.toNat ≠ 48 := by
    intro hh
    have hc48 : c = 48 := UInt8.toNat_inj.1 (by rw [hh]; rfl)
    exact dd_head m h (by rw [hcr]; simp [bAt, hc48])
  exact ⟨c, r, hcr, by omega, hc.2⟩
theorem tl_mk (l : List UInt8) : (⟨l.toArray⟩ : ByteArray).toList = l := by rw [ByteArray.toList_mk]
theorem ne_list {c d : UInt8} {r t : List UInt8} (h : c ≠ d) : ((c :: r) == (d :: t)) = false := by
  rw [beq_eq_false_iff_ne]
  intro e
  injection e with e1 e2
  exact h e1
theorem sz_mk (l : List UInt8) : (⟨l.toArray⟩ : ByteArray).size = l.length := rfl
theorem ba_eq {x : ByteArray} {l : List UInt8} (h : x.data.toList = l) : x = ⟨l.toArray⟩ := by
  cases x with
  | mk d => simp at h; subst h; simp
theorem ne_list2 {c d e : UInt8} {r t t' : List UInt8} (h : c ≠ d) : ((e :: ((c :: r) ++ t)) == (e :: d :: t')) = false := by
  rw [beq_eq_false_iff_ne]
  intro q
  injection q with _ q2
  rw [List.cons_append] at q2
  injection q2 with e1 e2
  exact h e1
theorem exp_range {m : Nat} {E : Int} (hf : (m.log2 : Int) + 1 + E ≤ 1024) : E ≤ 1023 := by omega
theorem readReal_pos (m : Nat) (E : Int) (w : World) (h : 0 < m) (h2 : m < 9007199254740992) (h0 : -1074 ≤ E) (hf : (m.log2 : Int) + 1 + E ≤ 1024) :
    Calls Tryz.prog 39 #[.string ⟨(Lib.decDigits m ++ 112 :: Lib.itoa E).toArray⟩] w fun e w' => e = .returned (.tuple #[.float .f64 (realBits m E), .bool true]) ∧ Below w.heap.size w w' := by
  obtain ⟨c, r, hcr, c1, c2⟩ := head_dd m h
  have l1 := dd_len20 m (by omega)
  have l2 := itoa_len E (by omega) (by omega)
  have n1 : c ≠ 110 := by rintro rfl; exact absurd c2 (by decide)
  have n2 : c ≠ 105 := by rintro rfl; exact absurd c2 (by decide)
  have n3 : c ≠ 45 := by rintro rfl; exact absurd c1 (by decide)
  refine readReal_num _ ⟨(Lib.decDigits m).toArray⟩ ⟨(Lib.itoa E).toArray⟩ m E _ w (by rw [sz_mk]; simp; omega) (by rw [sz_mk]; omega) (by rw [sz_mk]; omega)
    (by rw [tl_mk, hcr]; exact ne_list n1) (by rw [tl_mk, hcr]; exact ne_list n2) (by rw [tl_mk, hcr]; exact ne_list n3) (by rw [tl_mk, hcr]; exact ne_list n3) ?_ (parse_dd m (by omega)) (atoi_itoa E (by omega) (by omega)) h0 (by omega) (fun W => Ldexp_pos m E W h h2 h0 hf)
  have hi : Lib.indexByte (⟨(Lib.decDigits m ++ 112 :: Lib.itoa E).toArray⟩ : ByteArray).data.toList 112 = (Lib.decDigits m).length := index_digits _ _ (dd_digit m)
  unfold cutV
  rw [hi, if_pos (by omega), Int.toNat_natCast]
  have g1 := ex_take (Lib.decDigits m) (Lib.itoa E)
  have g2 := ex_drop (Lib.decDigits m) (Lib.itoa E)
  rw [ba_eq g1, ba_eq g2]
theorem readReal_neg (m : Nat) (E : Int) (w : World) (h : 0 < m) (h2 : m < 9007199254740992) (h0 : -1074 ≤ E) (hf : (m.log2 : Int) + 1 + E ≤ 1024) :
    Calls Tryz.prog 39 #[.string ⟨(45 :: (Lib.decDigits m ++ 112 :: Lib.itoa E)).toArray⟩] w fun e w' => e = .returned (.tuple #[.float .f64 (9223372036854775808 + realBits m E), .bool true]) ∧ Below w.heap.size w w' := by
  obtain ⟨c, r, hcr, c1, c2⟩ := head_dd m h
  have l1 := dd_len20 m (by omega)
  have l2 := itoa_len E (by omega) (by omega)
  have n2 : c ≠ 105 := by rintro rfl; exact absurd c2 (by decide)
  have n4 : c ≠ 48 := by rintro rfl; exact absurd c1 (by decide)
  refine readReal_num _ ⟨(45 :: Lib.decDigits m).toArray⟩ ⟨(Lib.itoa E).toArray⟩ (-(m : Int)) E _ w (by rw [sz_mk]; simp; omega) (by rw [sz_mk]; simp; omega) (by rw [sz_mk]; omega)
    (by rw [tl_mk]; exact ne_list (by decide)) (by rw [tl_mk]; exact ne_list (by decide)) (by rw [tl_mk, hcr]; exact ne_list2 n2) (by rw [tl_mk, hcr]; exact ne_list2 n4) ?_ (parse_neg m (by omega)) (atoi_itoa E (by omega) (by omega)) h0 (by omega) (fun W => Ldexp_neg m E W h h2 h0 hf)
  have hi : Lib.indexByte (⟨(45 :: (Lib.decDigits m ++ 112 :: Lib.itoa E)).toArray⟩ : ByteArray).data.toList 112 = (Lib.decDigits m).length + 1 := index_neg _ _
  unfold cutV
  rw [hi, if_pos (by omega), show ((Lib.decDigits m).length + 1 : Int).toNat = (45 :: Lib.decDigits m).length by simp]
  have g1 := ex_take (45 :: Lib.decDigits m) (Lib.itoa E)
  have g2 := ex_drop (45 :: Lib.decDigits m) (Lib.itoa E)
  rw [List.cons_append] at g1 g2
  rw [ba_eq g1, ba_eq g2]
end Go.Proofs.YtofjbakepneilaaGreatDoor
