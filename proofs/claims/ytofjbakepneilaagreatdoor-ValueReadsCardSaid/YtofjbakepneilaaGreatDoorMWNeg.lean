/- Ldexp at a number below nought. -/
import Derived.Test.YtofjbakepneilaaGreatDoorVLdexp
import Derived.Test.YtofjbakepneilaaGreatDoorFloat
namespace Go.Proofs.YtofjbakepneilaaGreatDoor
open Go.RowKit Go.Shelf

theorem word_true (f : Ieee.Format) (r : Nat) : f.word true r = f.signWeight + r := rfl
theorem cut_neg (n d : Nat) : Ieee.Toward.even.cut true n d = Ieee.Toward.even.cut false n d := rfl
theorem nearest_sign (f : Ieee.Format) (m : Nat) (p : Int) : f.nearest true m p = f.signWeight + f.nearest false m p := by
  unfold Ieee.Format.nearest
  by_cases h : m = 0
  · rw [if_pos h, if_pos h, word_true, word_false]
  · rw [if_neg h, if_neg h]
    simp only [cut_neg, word_true, word_false]
theorem nearest_neg (m : Nat) (p : Int) : Ieee.double.nearest true m p = 9223372036854775808 + Ieee.double.nearest false m p := by
  rw [nearest_sign, dS]
theorem read_neg (q r : Nat) (h1 : 1 ≤ q) (h2 : q ≤ 2046) (hr : r < 4503599627370496) :
    Ieee.double.read (9223372036854775808 + (q * 4503599627370496 + r)) = .number true (4503599627370496 + r) (-1074 + ((q - 1 : Nat) : Int)) := by
  unfold Ieee.Format.read
  rw [dS, dB, dI, dL]
  have e1 : (9223372036854775808 + (q * 4503599627370496 + r)) / 9223372036854775808 % 2 = 1 := by omega
  have e2 : (9223372036854775808 + (q * 4503599627370496 + r)) % 9223372036854775808 = q * 4503599627370496 + r := by omega
  have e3 : (q * 4503599627370496 + r) % 4503599627370496 = r := by omega
  have e4 : (q * 4503599627370496 + r) / 4503599627370496 = q := by omega
  simp only [e1, e2]
  rw [if_neg (by omega), if_pos (by omega), e3, e4]
  rfl
theorem int_neg (m : Nat) (h : 0 < m) : floatOfInt .f64 (-(m : Int)) = 9223372036854775808 + floatOfInt .f64 (m : Int) := by
  show Ieee.double.nearest (decide (-(m : Int) < 0)) (-(m : Int)).natAbs 0 = 9223372036854775808 + Ieee.double.nearest (decide ((m : Int) < 0)) (m : Int).natAbs 0
  rw [decide_eq_true (by omega), decide_eq_false (by omega), Int.natAbs_neg, nearest_neg]
theorem mul_neg (m k q : Nat) (e : Int) (c : Nat) (pc : Int) (h : 0 < m) (hk : k = m.log2) (hk2 : k ≤ 52) (hc : Ieee.double.read c = .number false 4503599627370496 pc)
    (hq1 : 1 ≤ q) (hq2 : q ≤ 2046) (hp : pc + (-1074 + ((q - 1 : Nat) : Int)) = e + (k : Int) - 104) (he : -1074 ≤ e) :
    floatBits .mul .f64 c (9223372036854775808 + (q * 4503599627370496 + (m * 2 ^ (52 - k) - 4503599627370496))) = some (9223372036854775808 + realBits m e) := by
  obtain ⟨h1, h2⟩ := scaled_bounds h hk hk2
  have hpos := mul_made m k q e c pc h hk hk2 hc hq1 hq2 hp he
  have hpos2 : Ieee.Format.mul Ieee.double c (q * 4503599627370496 + (m * 2 ^ (52 - k) - 4503599627370496)) = some (realBits m e) := hpos
  unfold Ieee.Format.mul at hpos2
  rw [hc, read_norm q _ hq1 hq2 (by omega)] at hpos2
  show Ieee.Format.mul Ieee.double _ _ = _
  unfold Ieee.Format.mul
  rw [hc, read_neg q _ hq1 hq2 (by omega)]
  have e0 : Ieee.double.nearest false (4503599627370496 * (4503599627370496 + (m * 2 ^ (52 - k) - 4503599627370496))) (pc + (-1074 + ((q - 1 : Nat) : Int))) = realBits m e := Option.some.inj hpos2
  show some (Ieee.double.nearest true (4503599627370496 * (4503599627370496 + (m * 2 ^ (52 - k) - 4503599627370496))) (pc + (-1074 + ((q - 1 : Nat) : Int)))) = _
  rw [nearest_neg, e0]
theorem top_or (a : Nat) (h : a < 9223372036854775808) : 9223372036854775808 + a = 2 ^ 63 ||| a := by
  have := Nat.two_pow_add_eq_or_of_lt (i := 63) (b := a) (by omega) 1
  omega
theorem andNot_neg (q r : Nat) (hr : r < 4503599627370496) (hq : q ≤ 2046) : bits .andNot .u64 ((9223372036854775808 + (q * 4503599627370496 + r) : Nat) : Int) 9218868437227405312 = ((9223372036854775808 + r : Nat) : Int) := by
  have e := u64_andNot (9223372036854775808 + (q * 4503599627370496 + r)) 9218868437227405312 (by omega) (by omega)
  rw [show ((9218868437227405312 : Nat) : Int) = 9218868437227405312 from rfl] at e
  rw [e, show (18446744073709551615 - 9218868437227405312 : Nat) = 9223372036854775808 + (2 ^ 52 - 1) from by decide, top_or _ (by omega), top_or (2 ^ 52 - 1) (by decide), ← Nat.or_and_distrib_left, Nat.and_two_pow_sub_one_eq_mod, top_or r (by omega)]
  congr 2
  omega
theorem abs_neg (b : Nat) (h : b < 9223372036854775808) : absF (9223372036854775808 + b) = b := by
  unfold absF
  have e := u64_andNot (9223372036854775808 + b) 9223372036854775808 (by omega) (by omega)
  rw [show ((9223372036854775808 : Nat) : Int) = 9223372036854775808 from rfl] at e
  rw [e]
  have h2 : (18446744073709551615 - 9223372036854775808 : Nat) = 2 ^ 63 - 1 := by decide
  rw [h2, Nat.and_two_pow_sub_one_eq_mod, Int.toNat_natCast]
  omega
theorem or_neg (r q : Nat) (hr : r < 4503599627370496) (hq : q ≤ 2046) : bits .or .u64 ((9223372036854775808 + r : Nat) : Int) ((q * 4503599627370496 : Nat) : Int) = ((9223372036854775808 + (q * 4503599627370496 + r) : Nat) : Int) := by
  have h1 := bits_or_u64_nat r (q * 4503599627370496) (by omega) (by omega)
  rw [exp_in r q hr hq] at h1
  have h1' : q * 4503599627370496 + r = r ||| q * 4503599627370496 := Int.ofNat.inj h1
  rw [bits_or_u64_nat (9223372036854775808 + r) (q * 4503599627370496) (by omega) (by omega), top_or r (by omega), Nat.or_assoc, ← h1', ← top_or _ (by omega)]
theorem cmp_zero_neg (q r : Nat) (h1 : 1 ≤ q) (h2 : q ≤ 2046) (hr : r < 4503599627370496) : eqB (9223372036854775808 + (q * 4503599627370496 + r)) 0 = false := by
  unfold eqB
  show ((Ieee.double.read _).order (Ieee.double.read 0) == some Ordering.eq) = false
  rw [read_neg q r h1 h2 hr, read_zero]
  simp only [Ieee.Datum.order, Ieee.signed, Nat.shiftLeft_eq]
  refine cmp_not_eq _ _ ?_
  have : 0 < (4503599627370496 + r) * 2 ^ (-1074 + ((q - 1 : Nat) : Int) - min (-1074 + ((q - 1 : Nat) : Int)) (-1074)).toNat := Nat.mul_pos (by omega) (Nat.two_pow_pos _)
  rw [Nat.zero_mul]
  simp only [if_true]
  generalize (4503599627370496 + r) * 2 ^ (-1074 + ((q - 1 : Nat) : Int) - min (-1074 + ((q - 1 : Nat) : Int)) (-1074)).toNat = X at this ⊢
  simp
  omega
theorem cmp_self_neg (q r : Nat) (h1 : 1 ≤ q) (h2 : q ≤ 2046) (hr : r < 4503599627370496) : eqB (9223372036854775808 + (q * 4503599627370496 + r)) (9223372036854775808 + (q * 4503599627370496 + r)) = true := by
  unfold eqB
  show ((Ieee.double.read _).order (Ieee.double.read _) == some Ordering.eq) = true
  rw [read_neg q r h1 h2 hr]
  simp only [Ieee.Datum.order]
  rw [Int.compare_eq_eq.2 rfl]
  rfl
theorem made_neg (m k r : Nat) (e : Int) (c : Nat) (pc : Int) (x : Int) (R : Nat) (hR : R = 9223372036854775808 + r) (h : 0 < m) (hk : k = m.log2) (hk2 : k ≤ 52) (hr : r = m * 2 ^ (52 - k) - 4503599627370496) (hc : Ieee.double.read c = .number false 4503599627370496 pc)
    (hx1 : 1 ≤ x) (hx2 : x ≤ 2046) (hp : pc + x = e + (k : Int) + 971) (he : -1074 ≤ e) (t : TypeId) (w : World) :
    (binOp .mul t (.float .f64 c) (.float .f64 (bits .or .u64 (R : Int) (x * 4503599627370496)).toNat)).run Tryz.prog w = .ok (.float .f64 (9223372036854775808 + realBits m e)) w := by
  obtain ⟨h1, h2⟩ := scaled_bounds h hk hk2
  obtain ⟨q, rfl⟩ := Int.eq_ofNat_of_zero_le (show 0 ≤ x by omega)
  have e1 := or_neg r q (by omega) (by omega)
  rw [Int.natCast_mul] at e1
  rw [show ((4503599627370496 : Nat) : Int) = 4503599627370496 from rfl] at e1
  rw [hR, e1, Int.toNat_natCast, hr]
  exact run_float_arith (h := mul_neg m k q e c pc h hk hk2 hc (by omega) (by omega) (by omega) he) ..
end Go.Proofs.YtofjbakepneilaaGreatDoor
/- Ldexp at a number below nought: the walk. -/
namespace Go.Proofs.YtofjbakepneilaaGreatDoor
open Go.RowKit Go.Shelf

set_option maxRecDepth 100000
set_option maxHeartbeats 2000000 in
theorem ldexp_neg (m k r b R : Nat) (e : Int) (w : World) (hm : 0 < m) (hk : k = m.log2) (hk2 : k ≤ 52) (hr : r = m * 2 ^ (52 - k) - 4503599627370496) (hr2 : r < 4503599627370496) (hR : R = 9223372036854775808 + r) (hb : b = 9223372036854775808 + ((k + 1023) * 4503599627370496 + r)) (h0 : -1074 ≤ e) (h1 : (k : Int) + 1 + e ≤ 1024) :
    Calls Tryz.prog 114 #[.float .f64 b, .int .i64 e] w fun x w' => x = .returned (.float .f64 (9223372036854775808 + realBits m e)) ∧ w = w' := by
  have b1 := f64bits b
  have b2 := f64from
  have ha : absF b = (k + 1023) * 4503599627370496 + r := by rw [hb]; exact abs_neg _ (by omega)
  have t1' : (FloatKind.f64.format.order b 0 == some Ordering.eq) = false := by rw [hb]; exact cmp_zero_neg (k + 1023) r (by omega) (by omega) hr2
  have t2 : gtB (absF b) 9218868437227405311 = false := by rw [ha]; exact cmp_most (k + 1023) r (by omega) (by omega) hr2
  have t3 : eqB b b = true := by rw [hb]; exact cmp_self_neg (k + 1023) r (by omega) (by omega) hr2
  have t4 : ltB (absF b) 4503599627370496 = false := by rw [ha]; exact cmp_least (k + 1023) r (by omega) (by omega) hr2
  have T2 := Lib.hid t2
  have T3 := Lib.hid t3
  have T4 := Lib.hid t4
  have x1 : bits .and .i64 ((b : Int) / 4503599627370496) 2047 = ((k + 1023 : Nat) : Int) := by
    rw [exp_any b (by omega)]
    congr 1
    omega
  have x2 : bits .andNot .u64 (b : Int) 9218868437227405312 = (R : Int) := by rw [hb, andNot_neg (k + 1023) r hr2 (by omega), hR]
  have wx : wrap64 ((b : Int) / 4503599627370496) = (b : Int) / 4503599627370496 := by unfold wrap64; omega
  have mn : -1022 ≤ e + (k : Int) → ∀ (t : TypeId) (w : World), (binOp .mul t (.float .f64 4607182418800017408) (.float .f64 (bits .or .u64 (R : Int) ((e + (k : Int) + 1023) * 4503599627370496)).toNat)).run Tryz.prog w = .ok (.float .f64 (9223372036854775808 + realBits m e)) w :=
    fun h => made_neg m k r e _ _ _ R hR hm hk hk2 hr read_one (by omega) (by omega) (by omega) h0
  have mf : e + (k : Int) < -1022 → ∀ (t : TypeId) (w : World), (binOp .mul t (.float .f64 4368491638549381120) (.float .f64 (bits .or .u64 (R : Int) ((e + (k : Int) + 53 + 1023) * 4503599627370496)).toNat)).run Tryz.prog w = .ok (.float .f64 (9223372036854775808 + realBits m e)) w :=
    fun h => made_neg m k r e _ _ _ R hR hm hk hk2 hr read_least (by omega) (by omega) (by omega) h0
  generalize 9223372036854775808 + realBits m e = res at mn mf ⊢
  clear t2 t3 t4 ha hb hr hr2 hk hm hR
  rcases Int.lt_or_le (e + (k : Int)) (-1022) with hn | hn
  · have mf' := mf hn
    clear mf mn
    go_enter Tryz.func114, Tryz.ntmps114
    go_wp2_with (first | (go_at_call 119; refine (isInf_any b _).mono ?_; rintro e w' ⟨rfl, rfl⟩; rw [T2.out]) | (go_at_call 74; refine (isNaN_any b _).mono ?_; rintro e w' ⟨rfl, rfl⟩; rw [T3.out]) | (go_at_call 151; refine (normalize_no b _ T4.out).mono ?_; rintro e w' ⟨rfl, rfl⟩))
    go_ret
    exact ⟨rfl, rfl⟩
  · have mn' := mn hn
    clear mf mn
    go_enter Tryz.func114, Tryz.ntmps114
    go_wp2_with (first | (go_at_call 119; refine (isInf_any b _).mono ?_; rintro e w' ⟨rfl, rfl⟩; rw [T2.out]) | (go_at_call 74; refine (isNaN_any b _).mono ?_; rintro e w' ⟨rfl, rfl⟩; rw [T3.out]) | (go_at_call 151; refine (normalize_no b _ T4.out).mono ?_; rintro e w' ⟨rfl, rfl⟩))
    go_ret
    exact ⟨rfl, rfl⟩
/-- Ldexp at -m, where m is below 2^53 -/
theorem Ldexp_neg (m : Nat) (e : Int) (w : World) (h : 0 < m) (h2 : m < 9007199254740992) (h0 : -1074 ≤ e) (h1 : (m.log2 : Int) + 1 + e ≤ 1024) :
    Calls Tryz.prog 72 #[.float .f64 (floatOfInt .f64 (-(m : Int))), .int .i64 e] w fun x w' => x = .returned (.float .f64 (9223372036854775808 + realBits m e)) ∧ w = w' := by
  have hk2 := log2_le h h2
  obtain ⟨g1, g2⟩ := scaled_bounds h rfl hk2
  refine Ldexp_of _ e _ w ?_
  rw [int_neg m h, bits_int m m.log2 h rfl hk2]
  exact ldexp_neg m m.log2 _ _ _ e w h rfl hk2 rfl (by omega) rfl rfl h0 h1
/-- Ldexp at m -/
theorem Ldexp_pos (m : Nat) (e : Int) (w : World) (h : 0 < m) (h2 : m < 9007199254740992) (h0 : -1074 ≤ e) (h1 : (m.log2 : Int) + 1 + e ≤ 1024) :
    Calls Tryz.prog 72 #[.float .f64 (floatOfInt .f64 (m : Int)), .int .i64 e] w fun x w' => x = .returned (.float .f64 (realBits m e)) ∧ w = w' := by
  have hk2 := log2_le h h2
  obtain ⟨g1, g2⟩ := scaled_bounds h rfl hk2
  refine Ldexp_of _ e _ w ?_
  rw [bits_int m m.log2 h rfl hk2]
  exact ldexp_some m m.log2 _ _ e w h rfl hk2 rfl (by omega) rfl h0 h1
end Go.Proofs.YtofjbakepneilaaGreatDoor
