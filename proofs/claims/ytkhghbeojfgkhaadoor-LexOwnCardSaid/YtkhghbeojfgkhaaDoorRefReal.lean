/- The reference's power and real. -/
import Derived.Test.YtkhghbeojfgkhaaDoorRefEnd
import Derived.Laws.FloatArith
namespace Go.Proofs.YtkhghbeojfgkhaaDoor
open Go.RowKit
set_option maxRecDepth 100000

theorem read_inf0 : Ieee.double.read 9218868437227405312 = .infinity false := by decide
/-- past the greatest, a real is infinite -/
theorem real_inf (m : Nat) (e : Int) (h : 0 < m) (h2 : m < 9007199254740992) (he : -1074 ≤ e) (hf : ¬ ((m.log2 : Int) + 1 + e ≤ 1024)) : realBits m e = 9218868437227405312 := by
  have h0 := nearest_scale m 0 e h h2 he
  rw [Nat.pow_zero, Nat.mul_one, show e - ((0 : Nat) : Int) = e by omega] at h0
  have hre : realBits m e = Ieee.double.nearest false m e := by unfold realBits; rw [Int.toNat_natCast]
  have hk2 := log2_le h h2
  obtain ⟨b1, b2⟩ := scaled_bounds h rfl hk2
  have hl : lastP m e = e + (m.log2 : Int) - 52 := by unfold lastP; omega
  rw [hre, h0, hl, show (e - (e + (m.log2 : Int) - 52)).toNat = 52 - m.log2 by omega]
  obtain ⟨L, hL⟩ : ∃ L : Nat, (e + (m.log2 : Int) - 52 + 1074).toNat = L ∧ 2046 ≤ L := ⟨_, rfl, by omega⟩
  rw [hL.1]
  refine Nat.min_eq_right ?_
  have := Nat.mul_le_mul_right 4503599627370496 hL.2
  omega
theorem inf_two : floatBits .mul .f64 9218868437227405312 4611686018427387904 = some 9218868437227405312 := by decide
theorem twice (m : Nat) (e : Int) (h : 0 < m) (h2 : m < 9007199254740992) (he : -1074 ≤ e) : floatBits .mul .f64 (realBits m e) 4611686018427387904 = some (realBits m (e + 1)) := by
  by_cases hf : (m.log2 : Int) + 1 + e ≤ 1024
  · exact times_two m e h h2 he hf
  · rw [real_inf m e h h2 he hf, real_inf m (e + 1) h h2 (by omega) (by omega), inf_two]

/-- a finite real less itself is nought -/
theorem less_self (m : Nat) (e : Int) (h : 0 < m) (h2 : m < 9007199254740992) (he : -1074 ≤ e) (hf : (m.log2 : Int) + 1 + e ≤ 1024) : floatBits .sub .f64 (realBits m e) (realBits m e) = some 0 := by
  obtain ⟨_, s, hs, hr⟩ := read_real m e h h2 he hf
  show Ieee.Format.sub Ieee.double _ _ = _
  unfold Ieee.Format.sub
  rw [hr]
  have hq : Ieee.Datum.sum (.number false (m * 2 ^ s) (e - s)) (Ieee.Datum.opposite (.number false (m * 2 ^ s) (e - s))) = some (.number false 0 (e - s)) := by
    unfold Ieee.Datum.opposite Ieee.Datum.sum
    simp only [Int.min_self, Int.sub_self, Int.toNat_zero]
    unfold Ieee.signed
    simp [Int.add_right_neg]
  rw [hq]
  show some (Ieee.double.nearest false 0 (e - s)) = some 0
  unfold Ieee.Format.nearest
  rw [if_pos rfl]
  rfl
theorem zero_less : floatBits .sub .f64 0 0 = some 0 := by decide
theorem inf_less : floatBits .sub .f64 9218868437227405312 9218868437227405312 = none := by decide
/-- what is no number, as it is drawn, is not nought -/
theorem drawn_nan (t : Nat) : (FloatKind.f64.format.order ((t % 2) * 2 ^ 63 + 0x7ff0000000000000 + 1 + (t / 2) % (2 ^ 52 - 1)) 0 != some Ordering.eq) = true := by
  obtain ⟨a, ha, ha2⟩ : ∃ a, a = t % 2 ∧ a < 2 := ⟨_, rfl, Nat.mod_lt _ (by omega)⟩
  obtain ⟨r, hr, hr2⟩ : ∃ r, r = (t / 2) % (2 ^ 52 - 1) ∧ r < 4503599627370495 := ⟨_, rfl, Nat.mod_lt _ (by omega)⟩
  rw [← ha, ← hr]
  clear ha hr
  have e63 : (2 : Nat) ^ 63 = 9223372036854775808 := by decide
  rw [e63]
  have hrd : ∃ n f, Ieee.double.read (a * 9223372036854775808 + 9218868437227405312 + 1 + r) = .nan n f := by
    unfold Ieee.Format.read
    rw [dS, dB, dI, dL]
    have e2 : (a * 9223372036854775808 + 9218868437227405312 + 1 + r) % 9223372036854775808 = 9218868437227405312 + 1 + r := by omega
    simp only [e2]
    rw [if_neg (by omega), if_neg (by omega), if_neg (by omega)]
    exact ⟨_, _, rfl⟩
  obtain ⟨n, f, hrd⟩ := hrd
  show ((Ieee.double.read (a * 9223372036854775808 + 9218868437227405312 + 1 + r)).order (Ieee.double.read 0) != some Ordering.eq) = true
  rw [hrd]
  rfl
theorem run_inf_less (t : TypeId) (w : World) : ∃ b, (binOp .sub t (.float .f64 9218868437227405312) (.float .f64 9218868437227405312)).run Tryd.prog w = .ok (.float .f64 b) w.drew ∧ (FloatKind.f64.format.order b 0 != some Ordering.eq) = true :=
  ⟨_, rfl, drawn_nan _⟩

set_option maxHeartbeats 1000000 in
/-- power, downwards -/
theorem power_down (m x : Nat) (w : World) (h2 : m < 9007199254740992) (hx : x ≤ 1074) (h0 : 0 < m ∨ x = 0) :
    Calls Tryd.prog 99 #[.int .i64 m, .int .i64 x, .bool true] w fun e w' => e = .returned (.float .f64 (realBits m (-(x : Int)))) ∧ w = w' := by
  have HH : Hid (∀ k : Nat, k < x → ∀ t w, (binOp .quo t (.float .f64 (realBits m (-(k : Int)))) (.float .f64 4611686018427387904)).run Tryd.prog w = .ok (.float .f64 (realBits m (-((k + 1 : Nat) : Int)))) w) := by
    have : ∀ k : Nat, k < x → ∀ t w, (binOp .quo t (.float .f64 (realBits m (-(k : Int)))) (.float .f64 4611686018427387904)).run Tryd.prog w = .ok (.float .f64 (realBits m (-((k + 1 : Nat) : Int)))) w := by
      intro k hk t w
      have hm : 0 < m := by omega
      have hk2 := log2_le hm h2
      have h := half m (-(k : Int)) hm h2 (by omega) (by omega)
      rw [show -(k : Int) - 1 = -((k + 1 : Nat) : Int) by omega] at h
      exact run_float_arith (h := h) ..
    exact this
  have hoi := of_int m
  obtain ⟨r0, hr0⟩ : ∃ r0, r0 = realBits m 0 := ⟨_, rfl⟩
  rw [← hr0] at hoi
  have HR0 := Lib.hid hr0
  clear hr0 h0 h2
  go_enter Tryd.func99, Tryd.ntmps99
  go_wp2
  clear hoi
  go_loop [7, 8] (fun v i => ∃ k : Nat, k ≤ x ∧ i = .int .i64 k ∧ v = .float .f64 (realBits m (-(k : Int)))) (fun _ i => x - (intOf i).toNat)
  case atStart => exact ⟨0, Nat.zero_le _, rfl, by rw [HR0.out]; rfl⟩
  case round =>
    obtain ⟨k, hk, rfl, rfl⟩ := hrel
    rcases Nat.lt_or_ge k x with hlt | hge
    · have hq := HH.out k hlt
      obtain ⟨r1, hr1⟩ : ∃ r1, r1 = realBits m (-(k : Int)) := ⟨_, rfl⟩
      obtain ⟨r2, hr2⟩ : ∃ r2, r2 = realBits m (-((k + 1 : Nat) : Int)) := ⟨_, rfl⟩
      rw [← hr1, ← hr2] at hq
      rw [← hr1]
      have HR2 := Lib.hid hr2
      clear hr1 hr2
      go_wp2
      go_round
      case rel => exact ⟨k + 1, by omega, by go_num, by rw [HR2.out]⟩
      case measure => simp [intOf]; omega
    · obtain rfl : k = x := by omega
      go_wp2
      go_ret
      exact ⟨rfl, rfl⟩
set_option maxHeartbeats 1000000 in
/-- power, upwards -/
theorem power_up (m x : Nat) (w : World) (h2 : m < 9007199254740992) (hx : x ≤ 1074) (h0 : 0 < m ∨ x = 0) :
    Calls Tryd.prog 99 #[.int .i64 m, .int .i64 x, .bool false] w fun e w' => e = .returned (.float .f64 (realBits m x)) ∧ w = w' := by
  have HH : Hid (∀ k : Nat, k < x → ∀ t w, (binOp .mul t (.float .f64 (realBits m k)) (.float .f64 4611686018427387904)).run Tryd.prog w = .ok (.float .f64 (realBits m ((k + 1 : Nat) : Int))) w) := by
    have : ∀ k : Nat, k < x → ∀ t w, (binOp .mul t (.float .f64 (realBits m k)) (.float .f64 4611686018427387904)).run Tryd.prog w = .ok (.float .f64 (realBits m ((k + 1 : Nat) : Int))) w := by
      intro k hk t w
      have hm : 0 < m := by omega
      have h := twice m (k : Int) hm h2 (by omega)
      rw [show (k : Int) + 1 = ((k + 1 : Nat) : Int) by omega] at h
      exact run_float_arith (h := h) ..
    exact this
  have hoi := of_int m
  obtain ⟨r0, hr0⟩ : ∃ r0, r0 = realBits m 0 := ⟨_, rfl⟩
  rw [← hr0] at hoi
  have HR0 := Lib.hid hr0
  clear hr0 h0 h2
  go_enter Tryd.func99, Tryd.ntmps99
  go_wp2
  clear hoi
  go_loop [7, 8] (fun v i => ∃ k : Nat, k ≤ x ∧ i = .int .i64 k ∧ v = .float .f64 (realBits m k)) (fun _ i => x - (intOf i).toNat)
  case atStart => exact ⟨0, Nat.zero_le _, rfl, by rw [HR0.out]; rfl⟩
  case round =>
    obtain ⟨k, hk, rfl, rfl⟩ := hrel
    rcases Nat.lt_or_ge k x with hlt | hge
    · have hq := HH.out k hlt
      obtain ⟨r1, hr1⟩ : ∃ r1, r1 = realBits m (k : Int) := ⟨_, rfl⟩
      obtain ⟨r2, hr2⟩ : ∃ r2, r2 = realBits m ((k + 1 : Nat) : Int) := ⟨_, rfl⟩
      rw [← hr1, ← hr2] at hq
      rw [← hr1]
      have HR2 := Lib.hid hr2
      clear hr1 hr2
      go_wp2
      go_round
      case rel => exact ⟨k + 1, by omega, by go_num, by rw [HR2.out]⟩
      case measure => simp [intOf]; omega
    · obtain rfl : k = x := by omega
      go_wp2
      go_ret
      exact ⟨rfl, rfl⟩
end Go.Proofs.YtkhghbeojfgkhaaDoor
