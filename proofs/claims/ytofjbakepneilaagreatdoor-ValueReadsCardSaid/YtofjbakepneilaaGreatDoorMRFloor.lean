/- Floor of a real, and a whole real as a number. -/
import Derived.Test.YtofjbakepneilaaGreatDoorMRReal0
import Derived.Test.YtofjbakepneilaaGreatDoorWBack
import Derived.Test.YtofjbakepneilaaGreatDoorVForm
import Derived.Test.YtofjbakepneilaaGreatDoorQuoteLex
import Derived.Deep.Cut
import Derived.Deep.RegionHeld3
import Derived.Deep.RegionWith
import Derived.Test.YtofjbakepneilaaGreatDoorVPrint
import Derived.Test.YtofjbakepneilaaGreatDoorMVRead2
namespace Go.Proofs.YtofjbakepneilaaGreatDoor
open Go.RowKit
set_option maxRecDepth 100000

theorem cut_down (n d : Nat) : Ieee.Toward.down.cut false n d = n / 2 ^ d := by
  unfold Ieee.Toward.cut
  simp only [Bool.false_and, Bool.toNat_false, Nat.add_zero, Nat.shiftLeft_eq, Nat.one_mul]
  rcases Nat.le_total d (n.log2 + 2) with h | h
  · rw [Nat.min_eq_left h]
  · rw [Nat.min_eq_right h]
    have h1 : n < 2 ^ (n.log2 + 2) := Nat.lt_of_lt_of_le Nat.lt_log2_self (Nat.pow_le_pow_right (by omega) (by omega))
    have h2 : n < 2 ^ d := Nat.lt_of_lt_of_le h1 (Nat.pow_le_pow_right (by omega) h)
    rw [Nat.div_eq_of_lt h1, Nat.div_eq_of_lt h2]
theorem cut_zero (n d : Nat) : Ieee.Toward.zero.cut false n d = n / 2 ^ d := by
  unfold Ieee.Toward.cut
  simp only [Bool.toNat_false, Nat.add_zero, Nat.shiftLeft_eq, Nat.one_mul]
  rcases Nat.le_total d (n.log2 + 2) with h | h
  · rw [Nat.min_eq_left h]
  · rw [Nat.min_eq_right h]
    have h1 : n < 2 ^ (n.log2 + 2) := Nat.lt_of_lt_of_le Nat.lt_log2_self (Nat.pow_le_pow_right (by omega) (by omega))
    have h2 : n < 2 ^ d := Nat.lt_of_lt_of_le h1 (Nat.pow_le_pow_right (by omega) h)
    rw [Nat.div_eq_of_lt h1, Nat.div_eq_of_lt h2]
/-- a real's bits made whole -/
def floorB (b : Nat) : Nat := FloatKind.f64.encode ((FloatKind.f64.decode b).integral .down)
theorem floor_num (b : Nat) (s : Bool) (m : Nat) (i : Int) (hd : FloatKind.f64.decode b = .number s m i) : Extern.MathFloor.toIntegral "math.archFloor" .down #[.float .f64 b] = pure (.float .f64 (floorB b)) := by
  unfold floorB
  conv => lhs; whnf
  simp only [hd]
theorem run_floor (b : Nat) (w : World) (s : Bool) (m : Nat) (i : Int) (hr : Ieee.double.read b = .number s m i) : (callFunc 123 #[.float .f64 b]).run Tryz.prog w = .ok (.value (.float .f64 (floorB b))) w := by
  rw [run_callFunc_extern Tryz.func123 (by kernel_rfl) (by kernel_rfl) (by kernel_rfl) (e := Extern.MathFloor.toIntegral "math.archFloor" .down) (by kernel_rfl), floor_num b s m i hr]
  rfl
theorem floor_whole (m : Nat) (e : Int) (h : 0 < m) (h2 : m < 9007199254740992) (he : 0 ≤ e) (hf : (m.log2 : Int) + 1 + e ≤ 1024) : floorB (realBits m e) = realBits m e := by
  obtain ⟨_, s, hs, hr⟩ := read_real m e h h2 (by omega) hf
  have hr' : FloatKind.f64.decode (realBits m e) = .number false (m * 2 ^ s) (e - s) := hr
  unfold floorB
  rw [hr']
  unfold Ieee.Datum.integral
  simp only
  rw [cut_down, Nat.shiftLeft_eq]
  have hq : m * 2 ^ s * 2 ^ (e - (s : Int)).toNat / 2 ^ (-(e - (s : Int))).toNat = m * 2 ^ e.toNat := by
    rcases Int.lt_or_le (e - s) 0 with hlt | hge
    · obtain ⟨d, hd⟩ : ∃ d : Nat, (s : Int) = e + d := ⟨(s - e).toNat, by omega⟩
      rw [show (e - (s : Int)).toNat = 0 by omega, Nat.pow_zero, Nat.mul_one, show (-(e - (s : Int))).toNat = d by omega, show s = e.toNat + d by omega, Nat.pow_add, ← Nat.mul_assoc, Nat.mul_div_cancel _ (Nat.two_pow_pos d)]
    · rw [show (-(e - (s : Int))).toNat = 0 by omega, Nat.pow_zero, Nat.div_one, Nat.mul_assoc, ← Nat.pow_add]
      congr 2
      omega
  rw [hq]
  have := real_scale m e.toNat e h h2 (by omega)
  rw [show e - ((e.toNat : Nat) : Int) = 0 by omega] at this
  exact this
theorem floor_part (m : Nat) (e : Int) (h : 0 < m) (hodd : m % 2 = 1) (h2 : m < 9007199254740992) (he : -1074 ≤ e) (h0 : e < 0) (hf : (m.log2 : Int) + 1 + e ≤ 1024) : floorB (realBits m e) ≠ realBits m e ∧ floorB (realBits m e) < 9218868437227405312 := by
  obtain ⟨hlt, s, hs, hr⟩ := read_real m e h h2 (by omega) hf
  have hr' : FloatKind.f64.decode (realBits m e) = .number false (m * 2 ^ s) (e - s) := hr
  have hfl : floorB (realBits m e) = realBits ((m * 2 ^ s / 2 ^ (-(e - (s : Int))).toNat : Nat) : Int) 0 := by
    unfold floorB
    rw [hr']
    unfold Ieee.Datum.integral
    simp only
    rw [cut_down, Nat.shiftLeft_eq, show (e - (s : Int)).toNat = 0 by omega, Nat.pow_zero, Nat.mul_one]
    unfold realBits
    rw [Int.toNat_natCast]
    rfl
  obtain ⟨N, hN⟩ : ∃ N, N = m * 2 ^ s / 2 ^ (-(e - (s : Int))).toNat := ⟨_, rfl⟩
  rw [← hN] at hfl
  have hNlt : N < 9007199254740992 := by rw [hN]; exact Nat.lt_of_le_of_lt (Nat.div_le_self _ _) hs
  rw [hfl]
  rcases Nat.eq_zero_or_pos N with hz | hp
  · rw [hz, real_zeroN]
    refine ⟨?_, by decide⟩
    intro e0
    rw [← e0, read_zero] at hr
    have := (Ieee.Datum.number.inj hr).2.1
    have := Nat.mul_pos h (Nat.two_pow_pos s)
    omega
  · have hl := log2_le hp hNlt
    obtain ⟨hlt2, t, ht, hr2⟩ := read_real N 0 hp hNlt (by omega) (by omega)
    refine ⟨?_, hlt2⟩
    intro e0
    rw [e0, hr] at hr2
    obtain ⟨_, k1, k2⟩ := Ieee.Datum.number.inj hr2
    obtain ⟨u, hu⟩ : ∃ u : Nat, s + (u + 1) = t + 0 ∨ (s : Int) - e = t := ⟨0, .inr (by omega)⟩
    have hst : s = t + (s - t) ∨ t = s + (t - s) := by omega
    have ht' : t = s + (-e).toNat := by omega
    rw [ht', Nat.pow_add, ← Nat.mul_assoc, Nat.mul_right_comm] at k1
    have k3 := Nat.eq_of_mul_eq_mul_right (Nat.two_pow_pos s) k1
    obtain ⟨v, hv⟩ : ∃ v, (-e).toNat = v + 1 := ⟨(-e).toNat - 1, by omega⟩
    rw [hv, Nat.pow_succ, ← Nat.mul_assoc] at k3
    omega
/-- is a real whole? -/
theorem floor_order (m : Nat) (e : Int) (h : 0 < m) (hodd : m % 2 = 1) (h2 : m < 9007199254740992) (he : -1074 ≤ e) (hf : (m.log2 : Int) + 1 + e ≤ 1024) :
    (FloatKind.f64.format.order (realBits m e) (floorB (realBits m e)) == some Ordering.eq) = decide (0 ≤ e) := by
  by_cases h0 : 0 ≤ e
  · rw [floor_whole m e h h2 h0 hf, decide_eq_true h0]
    exact real_self m e h h2 he hf
  · rw [decide_eq_false h0]
    obtain ⟨h3, h4⟩ := floor_part m e h hodd h2 he (by omega) hf
    obtain ⟨h5, _⟩ := read_real m e h h2 he hf
    show (Ieee.double.order _ _ == some Ordering.eq) = false
    rw [order_key _ _ (by rw [nan_pos (by omega)]; exact decide_eq_false (by omega)) (by rw [nan_pos (by omega)]; exact decide_eq_false (by omega)), (key_pos (by omega)).1, (key_pos (by omega)).1]
    exact cmp_not_eq _ _ (by omega)
theorem real_int (m : Nat) (h : 0 < m) (h2 : m < 9007199254740992) : floatToIntVal .f64 (realBits m 0) .u64 = some (m : Int) := by
  have hl := log2_le h h2
  obtain ⟨_, s, hs, hr⟩ := read_real m 0 h h2 (by omega) (by omega)
  have hr' : FloatKind.f64.decode (realBits m 0) = .number false (m * 2 ^ s) (0 - s) := hr
  have ht : (FloatKind.f64.decode (realBits m 0)).toInt .zero = some (m : Int) := by
    rw [hr']
    unfold Ieee.Datum.toInt Ieee.Datum.integral
    simp only
    rw [cut_zero, Nat.shiftLeft_eq, show ((0 : Int) - (s : Int)).toNat = 0 by omega, Nat.pow_zero, Nat.mul_one, show (-((0 : Int) - (s : Int))).toNat = s by omega, Nat.mul_div_cancel _ (Nat.two_pow_pos s)]
    unfold Ieee.signed
    simp
  unfold floatToIntVal
  rw [ht]
  simp only
  rw [if_pos]
  have e1 : IntKind.u64.min = 0 := by decide
  have e2 : IntKind.u64.max = 18446744073709551615 := by decide
  rw [e1, e2]
  omega
theorem odd_back (b : Nat) (h0 : 0 < b) (h1 : b < 9218868437227405312) : oddM b / 2 ^ Lib.ctz 64 (oddM b) % 2 = 1 := by
  have hM0 : oddM b ≠ 0 := by unfold oddM; split <;> omega
  have hM1 : oddM b < 2 ^ 64 := by unfold oddM; split <;> omega
  unfold Lib.ctz
  rw [if_neg hM0]
  obtain ⟨k, hk, _⟩ := Lib.ctzFrom_spec 64 (oddM b) (by omega) hM1
  have : oddM b / 2 ^ Lib.ctzFrom 64 (oddM b) = 2 * k + 1 := by
    conv => lhs; lhs; rw [hk]
    exact Nat.mul_div_cancel_left _ (Nat.two_pow_pos _)
  omega
end Go.Proofs.YtofjbakepneilaaGreatDoor
/- The reference's whole numbers as texts. -/
namespace Go.Proofs.YtofjbakepneilaaGreatDoor
open Go.RowKit Go.Shelf
set_option maxRecDepth 100000

theorem conv_at (W : World) (g : Nat) (c : UInt8) (h : W.cell? ⟨g, 0, none⟩ = some (.int .u8 (c.toNat : Int))) : (convert 37 9 (.slice (some ⟨g, 0, none⟩) 1 1)).run Tryz.prog W = .ok (.string ⟨#[c]⟩) W := by
  have h := run_convert_bytes_back (P := Tryz.prog) W 37 9 5 ⟨g, 0, none⟩ 1 [c] Tryz.underlying37 Tryz.underlying5 Tryz.underlying9 (fun j hj => by
    have hj0 : j = 0 := by simp at hj; omega
    subst hj0
    exact h)
  exact h
theorem fresh_one (W : World) (x : Value) (t : TypeId) : (W.alloc (.cells #[x] t)).cell? ⟨W.heap.size, 0, none⟩ = some x := cells_new W [x] t 0 x rfl
/-- a text of one byte that was laid just now -/
theorem conv_one (W : World) (c : UInt8) (t : TypeId) : (convert 37 9 (.slice (some ⟨W.heap.size, 0, none⟩) 1 1)).run Tryz.prog (W.alloc (.cells #[.int .u8 (c.toNat : Int)] t)) = .ok (.string ⟨#[c]⟩) (W.alloc (.cells #[.int .u8 (c.toNat : Int)] t)) := conv_at _ _ c (fresh_one W _ t)
theorem cell_kept {w w1 : World} {x : Value} {t : TypeId} (h : Below (w.alloc (.cells #[x] t)).drew.heap.size (w.alloc (.cells #[x] t)).drew w1) : w1.cell? ⟨w.heap.size, 0, none⟩ = some x := by
  have h1 := h.cell (p := ⟨w.heap.size, 0, none⟩) (by show w.heap.size < (w.alloc (.cells #[x] t)).heap.size; simp)
  rw [h1]
  exact fresh_one w x t
theorem digit_val (n : Nat) (h : n < 10) : (48 + (n : Int)) % 256 = (((UInt8.ofNat (48 + n)).toNat : Nat) : Int) := by
  rw [digit_ofNat h]
  omega
set_option maxHeartbeats 2000000 in
theorem digits_any : ∀ (n : Nat), n < 18446744073709551616 → ∀ w : World,
    Calls Tryz.prog 78 #[.int .u64 n] w fun e w' => e = .returned (.string ⟨(Lib.decDigits n).toArray⟩) ∧ Below w.heap.size w w' := by
  intro n
  induction n using Nat.strongRecOn with
  | _ n ih =>
    intro hn w
    by_cases h : n < 10
    · rw [Lib.decDigits_one h]
      have e1 := digit_val n h
      have hc := conv_one w (UInt8.ofNat (48 + n)) 5
      have e0 : IntKind.u64.wrap (48 + (n : Int)) = 48 + (n : Int) := by rw [IntKind.wrap_u64]; omega
      have d1 : decide ((n : Int) < 10) = true := decide_eq_true (by omega)
      rw [← e1] at hc
      have HB := Lib.hid ((Below.refl w.heap.size w).alloc (Nat.le_refl _) (.cells #[.int .u8 ((48 + (n : Int)) % 256)] 5))
      generalize UInt8.ofNat (48 + n) = c at hc ⊢
      clear h ih e1
      go_enter Tryz.func78, Tryz.ntmps78
      go_wp2
      go_ret
      exact ⟨rfl, HB.out⟩
    · rw [dd_big h]
      have d1 : decide ((n : Int) < 10) = false := decide_eq_false (by omega)
      have hq2 : (n : Int) / 10 = ((n / 10 : Nat) : Int) := by omega
      have e1 := digit_val (n % 10) (Nat.mod_lt _ (by omega))
      rw [show ((n % 10 : Nat) : Int) = (n : Int) % 10 by omega] at e1
      have HD := Lib.hid (ih (n / 10) (by omega) (by omega))
      have e0 : IntKind.u64.wrap (48 + (n : Int) % 10) = 48 + (n : Int) % 10 := by rw [IntKind.wrap_u64]; omega
      have hcv := fun (W : World) (g : Nat) => conv_at W g (UInt8.ofNat (48 + n % 10))
      rw [← e1] at hcv
      have hfr := fun W : World => fresh_one W (.int .u8 ((48 + (n : Int) % 10) % 256)) 5
      have hl := dd_len20 (n / 10) (by omega)
      have hl1 : (⟨(Lib.decDigits (n / 10)).toArray⟩ : ByteArray).size ≤ 20 := hl
      have hcat : (⟨(Lib.decDigits (n / 10)).toArray⟩ : ByteArray) ++ ⟨#[UInt8.ofNat (48 + n % 10)]⟩ = ⟨(Lib.decDigits (n / 10) ++ [UInt8.ofNat (48 + n % 10)]).toArray⟩ := by
        apply ba_eq
        simp
      rw [← hcat]
      have hbn := fun W : World => (Below.refl W.heap.size W).alloc (Nat.le_refl _) (.cells #[.int .u8 ((48 + (n : Int) % 10) % 256)] 5)
      have HBN := Lib.hid hbn
      generalize (⟨(Lib.decDigits (n / 10)).toArray⟩ : ByteArray) = D at HD hl1 ⊢
      generalize UInt8.ofNat (48 + n % 10) = c at e1 hcv hcat HBN ⊢
      clear h ih hl hcat hbn e1
      obtain ⟨q, hq⟩ : ∃ q, q = n / 10 := ⟨_, rfl⟩
      rw [← hq] at hq2 HD
      have e2 : IntKind.u64.wrap (q : Int) = q := by rw [IntKind.wrap_u64]; omega
      have e3 : (n : Int).tmod 10 = (n : Int) % 10 := Int.tmod_eq_emod_of_nonneg (by omega)
      have e4 : IntKind.u8.wrap (48 + (n : Int) % 10) = (48 + (n : Int) % 10) % 256 := by rw [IntKind.wrap_u8]
      have hsum : ∀ W : World, (Op.stringOp .add D ⟨#[c]⟩).run Tryz.prog W = .ok (.string (D ++ ⟨#[c]⟩)) W := fun W => run_string_add_sum W _ _ (by have : (⟨#[c]⟩ : ByteArray).size = 1 := rfl; omega)
      clear hq hl1
      go_enter Tryz.func78, Tryz.ntmps78
      go_upto_region 3 with fail
      go_region_with (go_at_call 78; with_reducible refine (HD.out _).mono ?_; rintro e w1 ⟨rfl, hb1⟩; have HB1 := Lib.hid hb1; (first | have hx1 := cell_kept hb1 | skip); clear hb1)
      all_goals go_wp2
      all_goals go_ret
      all_goals exact ⟨rfl, by first | exact ((HBN.out w).drew).trans (HB1.out.mono (HBN.out w).size) | exact ((Below.refl _ w).drew).trans (HB1.out.trans ((HBN.out _).mono HB1.out.size))⟩
set_option maxHeartbeats 1000000 in
theorem rwhole_any (n : Int) (h0 : -9223372036854775808 ≤ n) (h1 : n ≤ 9223372036854775807) (w : World) :
    Calls Tryz.prog 46 #[.int .i64 n] w fun e w' => e = .returned (.string ⟨(Lib.itoa n).toArray⟩) ∧ Below w.heap.size w w' := by
  rcases Int.lt_or_le n 0 with h | h
  · obtain ⟨u, hu⟩ : ∃ u : Nat, n = -(u : Int) := ⟨n.natAbs, by omega⟩
    have hit : Lib.itoa n = 45 :: Lib.decDigits u := by rw [hu, Lib.itoa_neg u (by omega)]
    rw [hit]
    have d1 : decide (n < 0) = true := decide_eq_true h
    have e1 : IntKind.i64.wrap (n + 1) = n + 1 := by rw [IntKind.wrap_i64]; omega
    have e2 : IntKind.i64.wrap (-(n + 1)) = -(n + 1) := by rw [IntKind.wrap_i64]; omega
    have e3 : IntKind.u64.wrap (-(n + 1)) = -(n + 1) := by rw [IntKind.wrap_u64]; omega
    have e4 : IntKind.u64.wrap (-(n + 1) + 1) = (u : Int) := by rw [IntKind.wrap_u64]; omega
    have HD := Lib.hid (digits_any u (by omega))
    have hl1 : (⟨(Lib.decDigits u).toArray⟩ : ByteArray).size ≤ 20 := dd_len20 u (by omega)
    have hcat : (⟨#[45]⟩ : ByteArray) ++ ⟨(Lib.decDigits u).toArray⟩ = ⟨(45 :: Lib.decDigits u).toArray⟩ := by
      apply ba_eq
      simp
    rw [← hcat]
    generalize (⟨(Lib.decDigits u).toArray⟩ : ByteArray) = D at HD hl1 ⊢
    have HU := Lib.hid hu
    clear h hcat hu hit h0 h1
    go_enter Tryz.func46, Tryz.ntmps46
    go_wp2_with (go_at_call 78; with_reducible refine (HD.out _).mono ?_; rintro e w1 ⟨rfl, hb1⟩; have HB1 := Lib.hid hb1; clear hb1)
    go_ret
    exact ⟨rfl, HB1.out⟩
  · obtain ⟨u, rfl⟩ := Int.eq_ofNat_of_zero_le h
    rw [Lib.itoa_nonneg]
    have d1 : decide ((u : Int) < 0) = false := decide_eq_false (by omega)
    have e3 : IntKind.u64.wrap (u : Int) = (u : Int) := by rw [IntKind.wrap_u64]; omega
    have HD := Lib.hid (digits_any u (by omega))
    clear h
    go_enter Tryz.func46, Tryz.ntmps46
    go_wp2_with (go_at_call 78; with_reducible refine (HD.out _).mono ?_; rintro e w1 ⟨rfl, hb1⟩; have HB1 := Lib.hid hb1; clear hb1)
    go_ret
    exact ⟨rfl, HB1.out⟩
end Go.Proofs.YtofjbakepneilaaGreatDoor
/- The reference's text of a real. -/
namespace Go.Proofs.YtofjbakepneilaaGreatDoor
open Go.RowKit Go.Shelf
set_option maxRecDepth 100000

theorem inv_zero : floatBits .quo .f64 4607182418800017408 0 = some 9218868437227405312 := by decide
theorem inv_less : floatBits .quo .f64 4607182418800017408 9223372036854775808 = some 18442240474082181120 := by decide
theorem key_neg {c : Nat} (h : c < 9223372036854775808) : keyI (9223372036854775808 + c) = -(c : Int) ∧ rungB (9223372036854775808 + c) = c := by
  have h1 : rungB (9223372036854775808 + c) = c := by unfold rungB; omega
  have h2 : negB (9223372036854775808 + c) = true := by
    unfold negB
    rw [show (9223372036854775808 + c) / 9223372036854775808 = 1 by omega]
    rfl
  unfold keyI
  rw [h2, h1]
  exact ⟨rfl, rfl⟩
theorem order_zero (b : Nat) (h : nanB b = false) : FloatKind.f64.format.order b 0 = some (compare (keyI b) 0) := by
  show Ieee.double.order b 0 = _
  rw [order_key b 0 h (by decide)]
  rfl
set_option maxHeartbeats 1000000 in
theorem below_pos (b : Nat) (h : b ≤ 9218868437227405312) (w : World) : Calls Tryz.prog 79 #[.float .f64 b] w fun e w' => e = .returned (.bool false) ∧ w = w' := by
  have hn : nanB b = false := by rw [nan_pos (by omega)]; exact decide_eq_false (by omega)
  have ho := order_zero b hn
  rw [(key_pos (by omega)).1] at ho
  have g0 : ∀ ty w, (binOp .quo ty (.float .f64 4607182418800017408) (.float .f64 0)).run Tryz.prog w = .ok (.float .f64 9218868437227405312) w := fun ty w => run_float_arith (h := inv_zero) ..
  have g1 : (FloatKind.f64.format.order 9218868437227405312 0 == some Ordering.lt) = false := by decide
  by_cases h0 : b = 0
  · subst h0
    have o1 : (FloatKind.f64.format.order 0 0 == some Ordering.lt) = false := by decide
    have o2 : (FloatKind.f64.format.order 0 0 == some Ordering.eq) = true := by decide
    clear ho hn h
    go_enter Tryz.func79, Tryz.ntmps79
    go_wp2
    go_ret
    exact ⟨rfl, rfl⟩
  · have o1 : (FloatKind.f64.format.order b 0 == some Ordering.lt) = false := by rw [ho]; exact cmp_not_lt _ _ (by omega)
    have o2 : (FloatKind.f64.format.order b 0 == some Ordering.eq) = false := by rw [ho]; exact cmp_not_eq _ _ (by omega)
    clear ho hn h h0
    go_enter Tryz.func79, Tryz.ntmps79
    go_wp2
    go_ret
    exact ⟨rfl, rfl⟩
set_option maxHeartbeats 1000000 in
theorem below_neg (c : Nat) (h : c ≤ 9218868437227405312) (w : World) : Calls Tryz.prog 79 #[.float .f64 (9223372036854775808 + c)] w fun e w' => e = .returned (.bool true) ∧ w = w' := by
  have hn : nanB (9223372036854775808 + c) = false := by unfold nanB; rw [(key_neg (by omega)).2]; exact decide_eq_false (by omega)
  have ho := order_zero _ hn
  rw [(key_neg (by omega)).1] at ho
  have g0 : ∀ ty w, (binOp .quo ty (.float .f64 4607182418800017408) (.float .f64 9223372036854775808)).run Tryz.prog w = .ok (.float .f64 18442240474082181120) w := fun ty w => run_float_arith (h := inv_less) ..
  have g1 : (FloatKind.f64.format.order 18442240474082181120 0 == some Ordering.lt) = true := by decide
  by_cases h0 : c = 0
  · subst h0
    have o1 : (FloatKind.f64.format.order 9223372036854775808 0 == some Ordering.lt) = false := by decide
    have o2 : (FloatKind.f64.format.order 9223372036854775808 0 == some Ordering.eq) = true := by decide
    clear ho hn h
    show Calls Tryz.prog 79 #[.float .f64 9223372036854775808] w _
    go_enter Tryz.func79, Tryz.ntmps79
    go_wp2
    go_ret
    exact ⟨rfl, rfl⟩
  · have o1 : (FloatKind.f64.format.order (9223372036854775808 + c) 0 == some Ordering.lt) = true := by rw [ho, Int.compare_eq_lt.2 (by omega)]; rfl
    clear ho hn h h0
    generalize 9223372036854775808 + c = b at o1
    go_enter Tryz.func79, Tryz.ntmps79
    go_wp2
    go_ret
    exact ⟨rfl, rfl⟩
set_option maxHeartbeats 1000000 in
theorem Floor_any (m : Nat) (e : Int) (h : 0 < m) (h2 : m < 9007199254740992) (he : -1074 ≤ e) (hf : (m.log2 : Int) + 1 + e ≤ 1024) (w : World) :
    Calls Tryz.prog 80 #[.float .f64 (realBits m e)] w fun x w' => x = .returned (.float .f64 (floorB (realBits m e))) ∧ w = w' := by
  obtain ⟨_, s, hs, hr⟩ := read_real m e h h2 he hf
  have hfl := fun W => run_floor (realBits m e) W _ _ _ hr
  generalize realBits m e = b at hfl
  generalize floorB b = c at hfl
  clear hr hs
  go_enter Tryz.func80, Tryz.ntmps80
  go_wp2
  go_ret
  exact ⟨rfl, rfl⟩
end Go.Proofs.YtofjbakepneilaaGreatDoor
/- The reference's text of a real: what Print writes. -/
namespace Go.Proofs.YtofjbakepneilaaGreatDoor
open Go.RowKit Go.Shelf
set_option maxRecDepth 100000

theorem realT_pos {c : Nat} (h : c ≤ 9218868437227405312) : (realT c).data.toList = magL c := by
  have hn : nanB c = false := by rw [nan_pos (by omega)]; exact decide_eq_false (by omega)
  rw [realT_list (by omega), hn]
  simp only [Bool.false_eq_true, if_false]
  rw [if_neg (by omega)]
theorem realT_neg {c : Nat} (h : c ≤ 9218868437227405312) : (realT (9223372036854775808 + c)).data.toList = 45 :: magL c := by
  have hn : nanB (9223372036854775808 + c) = false := by unfold nanB; rw [(key_neg (by omega)).2]; exact decide_eq_false (by omega)
  rw [realT_list (by omega), hn]
  simp only [Bool.false_eq_true, if_false]
  rw [if_pos (by omega), Nat.add_sub_cancel_left]
set_option maxHeartbeats 8000000 in
theorem rreal_pos (c : Nat) (h : c ≤ 9218868437227405312) (w : World) :
    Calls Tryz.prog 47 #[.float .f64 c] w fun e w' => e = .returned (.string (realT c)) ∧ Below w.heap.size w w' := by
  have HBL := Lib.hid (fun W => below_pos c h W)
  have hn1 : nanB c = false := by rw [nan_pos (by omega)]; exact decide_eq_false (by omega)
  have q1 : (FloatKind.f64.format.order c c == some Ordering.eq) = true := by
    have := eqB_self c
    rw [hn1] at this
    exact this
  have q2 : (FloatKind.f64.format.order c c != some Ordering.eq) = false := by rw [bne, q1]; rfl
  have g1 := gtB_max h
  have g2 := eqB_zero h
  have hT := realT_pos h
  clear hn1
  by_cases h1 : c = 9218868437227405312
  · have o1 : (FloatKind.f64.format.order c 9218868437227405311 == some Ordering.gt) = true := by rw [decide_eq_true h1] at g1; exact g1
    have hR : realT c = ⟨#[]⟩ ++ ⟨#[105, 110, 102]⟩ := by apply ext_eq; rw [hT]; unfold magL; rw [if_pos h1]; rfl
    rw [hR]
    clear g1 g2 hT hR h1 h
    go_enter Tryz.func47, Tryz.ntmps47
    go_wp2_with (go_at_call 79; refine (HBL.out _).mono ?_; rintro e w' ⟨rfl, rfl⟩)
    go_ret
    exact ⟨rfl, Below.refl _ _⟩
  have o1 : (FloatKind.f64.format.order c 9218868437227405311 == some Ordering.gt) = false := by rw [decide_eq_false h1] at g1; exact g1
  by_cases h2 : c = 0
  · have o2 : (FloatKind.f64.format.order c 0 == some Ordering.eq) = true := by rw [decide_eq_true h2] at g2; exact g2
    have hR : realT c = ⟨#[]⟩ ++ ⟨#[48, 112, 48]⟩ := by apply ext_eq; rw [hT]; unfold magL; rw [if_neg h1, if_pos h2]; rfl
    rw [hR]
    clear g1 g2 hT hR h1 h2 h
    go_enter Tryz.func47, Tryz.ntmps47
    go_wp2_with (go_at_call 79; refine (HBL.out _).mono ?_; rintro e w' ⟨rfl, rfl⟩)
    go_ret
    exact ⟨rfl, Below.refl _ _⟩
  have o2 : (FloatKind.f64.format.order c 0 == some Ordering.eq) = false := by rw [decide_eq_false h2] at g2; exact g2
  obtain ⟨m, hm, m0, m2, e0, ef, hw⟩ := word_back c (by omega) (by omega)
  have hodd := odd_back c (by omega) (by omega)
  rw [← hm] at hodd
  have hR : realT c = ((⟨#[]⟩ ++ ⟨(Lib.decDigits m).toArray⟩) ++ ⟨#[112]⟩) ++ ⟨(Lib.itoa (oddE c)).toArray⟩ := by
    apply ext_eq
    rw [hT]
    unfold magL
    rw [if_neg h1, if_neg h2, ← hm]
    simp
  rw [hR]
  have hlog := log2_le m0 m2
  have hl1 : (⟨(Lib.decDigits m).toArray⟩ : ByteArray).size ≤ 20 := dd_len20 m (by omega)
  have hl2 : (⟨(Lib.itoa (oddE c)).toArray⟩ : ByteArray).size ≤ 21 := itoa_len (oddE c) (by omega) (by omega)
  have HD := Lib.hid (digits_any m (by omega))
  have HWh := Lib.hid (rwhole_any (oddE c) (by omega) (by omega))
  have HCV : Hid (∀ W, (convert 22 88 (.float .f64 (realBits m 0))).run Tryz.prog W = .ok (.int .u64 m) W) := fun W => run_convert_float_int W 22 88 .f64 .u64 (realBits m 0) m (by rw [Tryz.underlying22]; rfl) Tryz.underlying88 (real_int m m0 m2)
  clear g1 g2 hT hR h1 h2 hm
  generalize oddE c = E at *
  generalize (⟨(Lib.decDigits m).toArray⟩ : ByteArray) = D at HD hl1 ⊢
  generalize (⟨(Lib.itoa E).toArray⟩ : ByteArray) = T at HWh hl2 ⊢
  have A1 : ∀ W : World, (Op.stringOp .add ⟨#[]⟩ D).run Tryz.prog W = .ok (.string (⟨#[]⟩ ++ D)) W := fun W => run_string_add_sum W _ _ (by
    have : (⟨#[]⟩ : ByteArray).size ≤ 1 := by decide
    omega)
  have A2 : ∀ W : World, (Op.stringOp .add (⟨#[]⟩ ++ D) ⟨#[112]⟩).run Tryz.prog W = .ok (.string ((⟨#[]⟩ ++ D) ++ ⟨#[112]⟩)) W := fun W => run_string_add_sum W _ _ (by
    have : (⟨#[]⟩ : ByteArray).size ≤ 1 := by decide
    have : (⟨#[112]⟩ : ByteArray).size = 1 := rfl
    rw [size_cat]
    omega)
  have A3 : ∀ W : World, (Op.stringOp .add ((⟨#[]⟩ ++ D) ++ ⟨#[112]⟩) T).run Tryz.prog W = .ok (.string (((⟨#[]⟩ ++ D) ++ ⟨#[112]⟩) ++ T)) W := fun W => run_string_add_sum W _ _ (by
    have : (⟨#[]⟩ : ByteArray).size ≤ 1 := by decide
    have : (⟨#[112]⟩ : ByteArray).size = 1 := rfl
    rw [size_cat, size_cat]
    omega)
  have HA1 := Lib.hid A1
  have HA2 := Lib.hid A2
  have HA3 := Lib.hid A3
  have HW := Lib.hid hw
  clear A1 A2 A3 hw hl1 hl2
  go_enter Tryz.func47, Tryz.ntmps47
  go_wp2_with (go_at_call 79; refine (HBL.out _).mono ?_; rintro e w' ⟨rfl, rfl⟩)
  go_loop [0, 4] (fun v i => ∃ j : Nat, (j = 0 ∨ E + j ≤ 0) ∧ i = .int .i64 (-(j : Int)) ∧ v = .float .f64 (realBits m (E + j))) (fun _ i => (intOf i - E).toNat)
  case atStart => exact ⟨0, .inl rfl, rfl, by rw [← HW.out]; simp⟩
  case round =>
    obtain ⟨j, hj, rfl, rfl⟩ := hrel
    have hfin : (m.log2 : Int) + 1 + (E + j) ≤ 1024 := by omega
    have hfo := floor_order m (E + j) m0 hodd m2 (by omega) hfin
    have HFl := Lib.hid (fun W => Floor_any m (E + j) m0 m2 (by omega) hfin W)
    by_cases hlt : E + j < 0
    · rw [decide_eq_false (by omega)] at hfo
      have hq : ∀ t w, (binOp .mul t (.float .f64 (realBits m (E + j))) (.float .f64 4611686018427387904)).run Tryz.prog w = .ok (.float .f64 (realBits m (E + ((j + 1 : Nat) : Int)))) w := by
        intro t w
        have h := twice m (E + j) m0 m2 (by omega)
        rw [show E + (j : Int) + 1 = E + ((j + 1 : Nat) : Int) by omega] at h
        exact run_float_arith (h := h) ..
      generalize floorB (realBits m (E + j)) = fl at hfo HFl
      obtain ⟨r1, hr1⟩ : ∃ r1, r1 = realBits m (E + j) := ⟨_, rfl⟩
      obtain ⟨r2, hr2⟩ : ∃ r2, r2 = realBits m (E + ((j + 1 : Nat) : Int)) := ⟨_, rfl⟩
      rw [← hr1, ← hr2] at hq
      rw [← hr1] at hfo HFl ⊢
      have hfo2 : (FloatKind.f64.format.order r1 fl != some Ordering.eq) = true := by rw [bne, hfo]; rfl
      have HR2 := Lib.hid hr2
      have e1 : IntKind.i64.wrap (-(j : Int) - 1) = -((j + 1 : Nat) : Int) := by rw [IntKind.wrap_i64]; omega
      have e2 : -(j : Int) - 1 = -((j + 1 : Nat) : Int) := by omega
      have HE2 := Lib.hid e2
      clear hr1 hr2 hfin e1 e2
      go_wp2_with (go_at_call 80; refine (HFl.out _).mono ?_; rintro e w' ⟨rfl, rfl⟩)
      go_round
      case rel => exact ⟨j + 1, .inr (by omega), by rw [← HE2.out]; try go_num, by rw [HR2.out]⟩
      case measure => simp [intOf]; omega
    · rw [decide_eq_true (by omega)] at hfo
      obtain ⟨Y, hY⟩ : ∃ Y : Nat, E + (j : Int) = Y := ⟨(E + j).toNat, by omega⟩
      rw [hY] at hfo HFl hfin ⊢
      rw [show -(j : Int) = E - (Y : Int) by omega]
      generalize floorB (realBits m (Y : Int)) = fl at hfo HFl
      obtain ⟨r1, hr1⟩ : ∃ r1, r1 = realBits m (Y : Int) := ⟨_, rfl⟩
      rw [← hr1] at hfo HFl ⊢
      have hfo2 : (FloatKind.f64.format.order r1 fl != some Ordering.eq) = false := by rw [bne, hfo]; rfl
      have HR1 := Lib.hid hr1
      have HYj := Lib.hid hY
      clear hr1 hY hj
      go_wp2_with (go_at_call 80; refine (HFl.out _).mono ?_; rintro e w' ⟨rfl, rfl⟩)
      clear hfo hfo2 HFl
      go_loop [0, 4] (fun v i => ∃ y : Nat, y ≤ Y ∧ i = .int .i64 (E - (y : Int)) ∧ v = .float .f64 (realBits m (y : Int))) (fun _ i => (E - intOf i).toNat)
      case atStart => exact ⟨Y, Nat.le_refl _, rfl, by rw [HR1.out]⟩
      case round =>
        obtain ⟨y, hy, rfl, rfl⟩ := hrel
        rcases Nat.eq_zero_or_pos y with rfl | hpos
        · have hfo := floor_order m (-1) m0 hodd m2 (by omega) (by omega)
          have HFl := Lib.hid (fun W => Floor_any m (-1) m0 m2 (by omega) (by omega) W)
          rw [decide_eq_false (by omega)] at hfo
          have hq : ∀ t w, (binOp .quo t (.float .f64 (realBits m 0)) (.float .f64 4611686018427387904)).run Tryz.prog w = .ok (.float .f64 (realBits m (-1))) w := by
            intro t w
            have h := half m 0 m0 m2 (by omega) (by omega)
            exact run_float_arith (h := h) ..
          have hcv := HCV.out
          have A1 := HA1.out
          have A2 := HA2.out
          have A3 := HA3.out
          rw [show E - ((0 : Nat) : Int) = E from Int.sub_zero E, show ((0 : Nat) : Int) = 0 from rfl]
          generalize floorB (realBits m (-1)) = fl2 at hfo HFl
          generalize realBits m (-1) = r3 at hq hfo HFl
          generalize realBits m 0 = r4 at hq hcv ⊢
          clear hfin
          go_wp2_with (first | (go_at_call 80; refine (HFl.out _).mono ?_; rintro e w' ⟨rfl, rfl⟩) | (go_at_call 78; refine (HD.out _).mono ?_; rintro e w1 ⟨rfl, hb1⟩; have HB1 := Lib.hid hb1; clear hb1) | (go_at_call 46; refine (HWh.out _).mono ?_; rintro e w2 ⟨rfl, hb2⟩; have HB2 := Lib.hid (HB1.out.trans (hb2.mono HB1.out.size)); clear hb2))
          go_ret
          exact ⟨rfl, HB2.out⟩
        · obtain ⟨z, rfl⟩ : ∃ z, y = z + 1 := ⟨y - 1, by omega⟩
          have hfo := floor_order m (z : Int) m0 hodd m2 (by omega) (by omega)
          have HFl := Lib.hid (fun W => Floor_any m (z : Int) m0 m2 (by omega) (by omega) W)
          rw [decide_eq_true (by omega)] at hfo
          have hq : ∀ t w, (binOp .quo t (.float .f64 (realBits m ((z + 1 : Nat) : Int))) (.float .f64 4611686018427387904)).run Tryz.prog w = .ok (.float .f64 (realBits m (z : Int))) w := by
            intro t w
            have h := half m ((z + 1 : Nat) : Int) m0 m2 (by omega) (by omega)
            rw [show ((z + 1 : Nat) : Int) - 1 = (z : Int) by omega] at h
            exact run_float_arith (h := h) ..
          generalize floorB (realBits m (z : Int)) = fl2 at hfo HFl
          obtain ⟨r3, hr3⟩ : ∃ r3, r3 = realBits m (z : Int) := ⟨_, rfl⟩
          obtain ⟨r4, hr4⟩ : ∃ r4, r4 = realBits m ((z + 1 : Nat) : Int) := ⟨_, rfl⟩
          rw [← hr3, ← hr4] at hq
          rw [← hr3] at hfo HFl
          rw [← hr4]
          have HR3 := Lib.hid hr3
          have e1 : IntKind.i64.wrap (E - ((z + 1 : Nat) : Int) + 1) = E - (z : Int) := by rw [IntKind.wrap_i64]; omega
          have HE1 : Hid (E - ((z + 1 : Nat) : Int) + 1 = E - (z : Int)) := Lib.hid (by omega)
          clear hr3 hr4 hpos e1
          go_wp2_with (go_at_call 80; refine (HFl.out _).mono ?_; rintro e w' ⟨rfl, rfl⟩)
          go_round
          case rel => exact ⟨z, by omega, by rw [← HE1.out]; try go_num, by rw [HR3.out]⟩
          case measure => simp [intOf]; omega
set_option maxHeartbeats 8000000 in
theorem rreal_neg (c : Nat) (h : c ≤ 9218868437227405312) (w : World) :
    Calls Tryz.prog 47 #[.float .f64 (9223372036854775808 + c)] w fun e w' => e = .returned (.string (realT (9223372036854775808 + c))) ∧ Below w.heap.size w w' := by
  have HBL := Lib.hid (fun W => below_neg c h W)
  have hn1 : nanB (9223372036854775808 + c) = false := by unfold nanB; rw [(key_neg (by omega)).2]; exact decide_eq_false (by omega)
  have q1 : (FloatKind.f64.format.order (9223372036854775808 + c) (9223372036854775808 + c) == some Ordering.eq) = true := by
    have := eqB_self (9223372036854775808 + c)
    rw [hn1] at this
    exact this
  have q2 : (FloatKind.f64.format.order (9223372036854775808 + c) (9223372036854775808 + c) != some Ordering.eq) = false := by rw [bne, q1]; rfl
  have hneg : ∀ w, (Op.unary UnOp.neg (.float .f64 (9223372036854775808 + c))).run Tryz.prog w = .ok (.float .f64 c) w := by
    intro w
    have := run_neg (9223372036854775808 + c) (by omega) (by omega) w
    rw [Nat.add_sub_cancel_left] at this
    exact this
  have g1 := gtB_max h
  have g2 := eqB_zero h
  have hT := realT_neg h
  clear hn1
  by_cases h1 : c = 9218868437227405312
  · have o1 : (FloatKind.f64.format.order c 9218868437227405311 == some Ordering.gt) = true := by rw [decide_eq_true h1] at g1; exact g1
    have hR : realT (9223372036854775808 + c) = ⟨#[45]⟩ ++ ⟨#[105, 110, 102]⟩ := by apply ext_eq; rw [hT]; unfold magL; rw [if_pos h1]; rfl
    rw [hR]
    clear g1 g2 hT hR h1 h
    generalize (9223372036854775808 + c) = b at HBL q1 q2 hneg ⊢
    go_enter Tryz.func47, Tryz.ntmps47
    go_wp2_with (go_at_call 79; refine (HBL.out _).mono ?_; rintro e w' ⟨rfl, rfl⟩)
    go_ret
    exact ⟨rfl, Below.refl _ _⟩
  have o1 : (FloatKind.f64.format.order c 9218868437227405311 == some Ordering.gt) = false := by rw [decide_eq_false h1] at g1; exact g1
  by_cases h2 : c = 0
  · have o2 : (FloatKind.f64.format.order c 0 == some Ordering.eq) = true := by rw [decide_eq_true h2] at g2; exact g2
    have hR : realT (9223372036854775808 + c) = ⟨#[45]⟩ ++ ⟨#[48, 112, 48]⟩ := by apply ext_eq; rw [hT]; unfold magL; rw [if_neg h1, if_pos h2]; rfl
    rw [hR]
    clear g1 g2 hT hR h1 h2 h
    generalize (9223372036854775808 + c) = b at HBL q1 q2 hneg ⊢
    go_enter Tryz.func47, Tryz.ntmps47
    go_wp2_with (go_at_call 79; refine (HBL.out _).mono ?_; rintro e w' ⟨rfl, rfl⟩)
    go_ret
    exact ⟨rfl, Below.refl _ _⟩
  have o2 : (FloatKind.f64.format.order c 0 == some Ordering.eq) = false := by rw [decide_eq_false h2] at g2; exact g2
  obtain ⟨m, hm, m0, m2, e0, ef, hw⟩ := word_back c (by omega) (by omega)
  have hodd := odd_back c (by omega) (by omega)
  rw [← hm] at hodd
  have hR : realT (9223372036854775808 + c) = ((⟨#[45]⟩ ++ ⟨(Lib.decDigits m).toArray⟩) ++ ⟨#[112]⟩) ++ ⟨(Lib.itoa (oddE c)).toArray⟩ := by
    apply ext_eq
    rw [hT]
    unfold magL
    rw [if_neg h1, if_neg h2, ← hm]
    simp
  rw [hR]
  have hlog := log2_le m0 m2
  have hl1 : (⟨(Lib.decDigits m).toArray⟩ : ByteArray).size ≤ 20 := dd_len20 m (by omega)
  have hl2 : (⟨(Lib.itoa (oddE c)).toArray⟩ : ByteArray).size ≤ 21 := itoa_len (oddE c) (by omega) (by omega)
  have HD := Lib.hid (digits_any m (by omega))
  have HWh := Lib.hid (rwhole_any (oddE c) (by omega) (by omega))
  have HCV : Hid (∀ W, (convert 22 88 (.float .f64 (realBits m 0))).run Tryz.prog W = .ok (.int .u64 m) W) := fun W => run_convert_float_int W 22 88 .f64 .u64 (realBits m 0) m (by rw [Tryz.underlying22]; rfl) Tryz.underlying88 (real_int m m0 m2)
  clear g1 g2 hT hR h1 h2 hm
  generalize oddE c = E at *
  generalize (⟨(Lib.decDigits m).toArray⟩ : ByteArray) = D at HD hl1 ⊢
  generalize (⟨(Lib.itoa E).toArray⟩ : ByteArray) = T at HWh hl2 ⊢
  have A1 : ∀ W : World, (Op.stringOp .add ⟨#[45]⟩ D).run Tryz.prog W = .ok (.string (⟨#[45]⟩ ++ D)) W := fun W => run_string_add_sum W _ _ (by
    have : (⟨#[45]⟩ : ByteArray).size ≤ 1 := by decide
    omega)
  have A2 : ∀ W : World, (Op.stringOp .add (⟨#[45]⟩ ++ D) ⟨#[112]⟩).run Tryz.prog W = .ok (.string ((⟨#[45]⟩ ++ D) ++ ⟨#[112]⟩)) W := fun W => run_string_add_sum W _ _ (by
    have : (⟨#[45]⟩ : ByteArray).size ≤ 1 := by decide
    have : (⟨#[112]⟩ : ByteArray).size = 1 := rfl
    rw [size_cat]
    omega)
  have A3 : ∀ W : World, (Op.stringOp .add ((⟨#[45]⟩ ++ D) ++ ⟨#[112]⟩) T).run Tryz.prog W = .ok (.string (((⟨#[45]⟩ ++ D) ++ ⟨#[112]⟩) ++ T)) W := fun W => run_string_add_sum W _ _ (by
    have : (⟨#[45]⟩ : ByteArray).size ≤ 1 := by decide
    have : (⟨#[112]⟩ : ByteArray).size = 1 := rfl
    rw [size_cat, size_cat]
    omega)
  have HA1 := Lib.hid A1
  have HA2 := Lib.hid A2
  have HA3 := Lib.hid A3
  have HW := Lib.hid hw
  clear A1 A2 A3 hw hl1 hl2
  generalize (9223372036854775808 + c) = b at HBL q1 q2 hneg ⊢
  go_enter Tryz.func47, Tryz.ntmps47
  go_wp2_with (go_at_call 79; refine (HBL.out _).mono ?_; rintro e w' ⟨rfl, rfl⟩)
  go_loop [0, 4] (fun v i => ∃ j : Nat, (j = 0 ∨ E + j ≤ 0) ∧ i = .int .i64 (-(j : Int)) ∧ v = .float .f64 (realBits m (E + j))) (fun _ i => (intOf i - E).toNat)
  case atStart => exact ⟨0, .inl rfl, rfl, by rw [← HW.out]; simp⟩
  case round =>
    obtain ⟨j, hj, rfl, rfl⟩ := hrel
    have hfin : (m.log2 : Int) + 1 + (E + j) ≤ 1024 := by omega
    have hfo := floor_order m (E + j) m0 hodd m2 (by omega) hfin
    have HFl := Lib.hid (fun W => Floor_any m (E + j) m0 m2 (by omega) hfin W)
    by_cases hlt : E + j < 0
    · rw [decide_eq_false (by omega)] at hfo
      have hq : ∀ t w, (binOp .mul t (.float .f64 (realBits m (E + j))) (.float .f64 4611686018427387904)).run Tryz.prog w = .ok (.float .f64 (realBits m (E + ((j + 1 : Nat) : Int)))) w := by
        intro t w
        have h := twice m (E + j) m0 m2 (by omega)
        rw [show E + (j : Int) + 1 = E + ((j + 1 : Nat) : Int) by omega] at h
        exact run_float_arith (h := h) ..
      generalize floorB (realBits m (E + j)) = fl at hfo HFl
      obtain ⟨r1, hr1⟩ : ∃ r1, r1 = realBits m (E + j) := ⟨_, rfl⟩
      obtain ⟨r2, hr2⟩ : ∃ r2, r2 = realBits m (E + ((j + 1 : Nat) : Int)) := ⟨_, rfl⟩
      rw [← hr1, ← hr2] at hq
      rw [← hr1] at hfo HFl ⊢
      have hfo2 : (FloatKind.f64.format.order r1 fl != some Ordering.eq) = true := by rw [bne, hfo]; rfl
      have HR2 := Lib.hid hr2
      have e1 : IntKind.i64.wrap (-(j : Int) - 1) = -((j + 1 : Nat) : Int) := by rw [IntKind.wrap_i64]; omega
      have e2 : -(j : Int) - 1 = -((j + 1 : Nat) : Int) := by omega
      have HE2 := Lib.hid e2
      clear hr1 hr2 hfin e1 e2
      go_wp2_with (go_at_call 80; refine (HFl.out _).mono ?_; rintro e w' ⟨rfl, rfl⟩)
      go_round
      case rel => exact ⟨j + 1, .inr (by omega), by rw [← HE2.out]; try go_num, by rw [HR2.out]⟩
      case measure => simp [intOf]; omega
    · rw [decide_eq_true (by omega)] at hfo
      obtain ⟨Y, hY⟩ : ∃ Y : Nat, E + (j : Int) = Y := ⟨(E + j).toNat, by omega⟩
      rw [hY] at hfo HFl hfin ⊢
      rw [show -(j : Int) = E - (Y : Int) by omega]
      generalize floorB (realBits m (Y : Int)) = fl at hfo HFl
      obtain ⟨r1, hr1⟩ : ∃ r1, r1 = realBits m (Y : Int) := ⟨_, rfl⟩
      rw [← hr1] at hfo HFl ⊢
      have hfo2 : (FloatKind.f64.format.order r1 fl != some Ordering.eq) = false := by rw [bne, hfo]; rfl
      have HR1 := Lib.hid hr1
      have HYj := Lib.hid hY
      clear hr1 hY hj
      go_wp2_with (go_at_call 80; refine (HFl.out _).mono ?_; rintro e w' ⟨rfl, rfl⟩)
      clear hfo hfo2 HFl
      go_loop [0, 4] (fun v i => ∃ y : Nat, y ≤ Y ∧ i = .int .i64 (E - (y : Int)) ∧ v = .float .f64 (realBits m (y : Int))) (fun _ i => (E - intOf i).toNat)
      case atStart => exact ⟨Y, Nat.le_refl _, rfl, by rw [HR1.out]⟩
      case round =>
        obtain ⟨y, hy, rfl, rfl⟩ := hrel
        rcases Nat.eq_zero_or_pos y with rfl | hpos
        · have hfo := floor_order m (-1) m0 hodd m2 (by omega) (by omega)
          have HFl := Lib.hid (fun W => Floor_any m (-1) m0 m2 (by omega) (by omega) W)
          rw [decide_eq_false (by omega)] at hfo
          have hq : ∀ t w, (binOp .quo t (.float .f64 (realBits m 0)) (.float .f64 4611686018427387904)).run Tryz.prog w = .ok (.float .f64 (realBits m (-1))) w := by
            intro t w
            have h := half m 0 m0 m2 (by omega) (by omega)
            exact run_float_arith (h := h) ..
          have hcv := HCV.out
          have A1 := HA1.out
          have A2 := HA2.out
          have A3 := HA3.out
          rw [show E - ((0 : Nat) : Int) = E from Int.sub_zero E, show ((0 : Nat) : Int) = 0 from rfl]
          generalize floorB (realBits m (-1)) = fl2 at hfo HFl
          generalize realBits m (-1) = r3 at hq hfo HFl
          generalize realBits m 0 = r4 at hq hcv ⊢
          clear hfin
          go_wp2_with (first | (go_at_call 80; refine (HFl.out _).mono ?_; rintro e w' ⟨rfl, rfl⟩) | (go_at_call 78; refine (HD.out _).mono ?_; rintro e w1 ⟨rfl, hb1⟩; have HB1 := Lib.hid hb1; clear hb1) | (go_at_call 46; refine (HWh.out _).mono ?_; rintro e w2 ⟨rfl, hb2⟩; have HB2 := Lib.hid (HB1.out.trans (hb2.mono HB1.out.size)); clear hb2))
          go_ret
          exact ⟨rfl, HB2.out⟩
        · obtain ⟨z, rfl⟩ : ∃ z, y = z + 1 := ⟨y - 1, by omega⟩
          have hfo := floor_order m (z : Int) m0 hodd m2 (by omega) (by omega)
          have HFl := Lib.hid (fun W => Floor_any m (z : Int) m0 m2 (by omega) (by omega) W)
          rw [decide_eq_true (by omega)] at hfo
          have hq : ∀ t w, (binOp .quo t (.float .f64 (realBits m ((z + 1 : Nat) : Int))) (.float .f64 4611686018427387904)).run Tryz.prog w = .ok (.float .f64 (realBits m (z : Int))) w := by
            intro t w
            have h := half m ((z + 1 : Nat) : Int) m0 m2 (by omega) (by omega)
            rw [show ((z + 1 : Nat) : Int) - 1 = (z : Int) by omega] at h
            exact run_float_arith (h := h) ..
          generalize floorB (realBits m (z : Int)) = fl2 at hfo HFl
          obtain ⟨r3, hr3⟩ : ∃ r3, r3 = realBits m (z : Int) := ⟨_, rfl⟩
          obtain ⟨r4, hr4⟩ : ∃ r4, r4 = realBits m ((z + 1 : Nat) : Int) := ⟨_, rfl⟩
          rw [← hr3, ← hr4] at hq
          rw [← hr3] at hfo HFl
          rw [← hr4]
          have HR3 := Lib.hid hr3
          have e1 : IntKind.i64.wrap (E - ((z + 1 : Nat) : Int) + 1) = E - (z : Int) := by rw [IntKind.wrap_i64]; omega
          have HE1 : Hid (E - ((z + 1 : Nat) : Int) + 1 = E - (z : Int)) := Lib.hid (by omega)
          clear hr3 hr4 hpos e1
          go_wp2_with (go_at_call 80; refine (HFl.out _).mono ?_; rintro e w' ⟨rfl, rfl⟩)
          go_round
          case rel => exact ⟨z, by omega, by rw [← HE1.out]; try go_num, by rw [HR3.out]⟩
          case measure => simp [intOf]; omega
set_option maxHeartbeats 1000000 in
theorem rreal_any (b : Nat) (hb : b < 18446744073709551616) (w : World) :
    Calls Tryz.prog 47 #[.float .f64 b] w fun e w' => e = .returned (.string (realT b)) ∧ Below w.heap.size w w' := by
  cases hn : nanB b with
  | true =>
    have q1 : (FloatKind.f64.format.order b b == some Ordering.eq) = false := by have := eqB_self b; rw [hn] at this; exact this
    have q2 : (FloatKind.f64.format.order b b != some Ordering.eq) = true := by rw [bne, q1]; rfl
    have hR : realT b = ⟨#[110, 97, 110]⟩ := by unfold realT; rw [if_pos (show eqB b b = false from q1)]
    rw [hR]
    clear hn hR hb
    go_enter Tryz.func47, Tryz.ntmps47
    go_wp2
    go_ret
    exact ⟨rfl, Below.refl _ _⟩
  | false =>
    have hr : b % 9223372036854775808 ≤ 9218868437227405312 := by
      have h := hn
      unfold nanB rungB at h
      have := of_decide_eq_false h
      omega
    by_cases h2 : 9223372036854775808 ≤ b
    · obtain ⟨c, rfl⟩ : ∃ c, b = 9223372036854775808 + c := ⟨b - 9223372036854775808, by omega⟩
      exact rreal_neg c (by omega) w
    · exact rreal_pos b (by omega) w
end Go.Proofs.YtofjbakepneilaaGreatDoor
