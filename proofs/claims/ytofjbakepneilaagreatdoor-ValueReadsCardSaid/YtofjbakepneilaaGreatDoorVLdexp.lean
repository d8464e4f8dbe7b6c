/- Ldexp at any float and any exponent in range: some 64 bits. -/
import Derived.Test.YtofjbakepneilaaGreatDoorMVUnq
import Derived.Test.YtofjbakepneilaaGreatDoorFloat
import Derived.Laws.FloatBits
import Derived.Deep.Cut
namespace Go.Proofs.YtofjbakepneilaaGreatDoor
open Go.RowKit Go.Shelf
set_option maxRecDepth 100000

theorem form_lt (q : Nat) : (q % 2) * 2 ^ 63 + 0x7ff0000000000000 + 1 + (q / 2) % (2 ^ 52 - 1) < 18446744073709551616 := by omega
theorem nan_run (c b : Nat) (w : World) : ∃ r, (do let x ← choose (Question.nanBits .f64 c b); pure (Value.float .f64 x) : Sem Value).run Tryz.prog w = .ok (.float .f64 r) w.drew ∧ r < 18446744073709551616 := ⟨_, rfl, form_lt _⟩
theorem mul_none (c b : Nat) (t : TypeId) (w : World) (h : floatBits .mul .f64 c b = none) : ∃ r, r < 18446744073709551616 ∧ (binOp .mul t (.float .f64 c) (.float .f64 b)).run Tryz.prog w = .ok (.float .f64 r) w.drew := by
  obtain ⟨r, e, hr⟩ := nan_run c b w
  refine ⟨r, hr, ?_⟩
  rw [← e]
  show (Op.floatArith .mul .f64 c b).run Tryz.prog w = _
  have h' : FloatKind.f64.format.mul c b = none := h
  unfold Op.floatArith
  rw [h']
  rfl
theorem mul_all (c b : Nat) (t : TypeId) (w : World) : ∃ r k, r < 18446744073709551616 ∧ (binOp .mul t (.float .f64 c) (.float .f64 b)).run Tryz.prog w = .ok (.float .f64 r) (w.drewN k) := by
  cases h : floatBits .mul .f64 c b with
  | some r => exact ⟨r, 0, Ieee.Format.mul_lt _ h, run_float_arith (h := h) ..⟩
  | none =>
    obtain ⟨r, hr, e⟩ := mul_none c b t w h
    exact ⟨r, 1, hr, e⟩
noncomputable def mulR (c b : Nat) (t : TypeId) (w : World) : Nat := (mul_all c b t w).choose
noncomputable def mulK (c b : Nat) (t : TypeId) (w : World) : Nat := (mul_all c b t w).choose_spec.choose
theorem mulR_lt (c b : Nat) (t : TypeId) (w : World) : mulR c b t w < 18446744073709551616 := (mul_all c b t w).choose_spec.choose_spec.1
theorem mulR_run (c b : Nat) (t : TypeId) (w : World) : (binOp .mul t (.float .f64 c) (.float .f64 b)).run Tryz.prog w = .ok (.float .f64 (mulR c b t w)) (w.drewN (mulK c b t w)) := (mul_all c b t w).choose_spec.choose_spec.2
/-- some float, and nothing of what was there has turned -/
def Fl (w : World) (e : Ending) (w' : World) : Prop := (∃ r, r < 18446744073709551616 ∧ e = .returned (.float .f64 r)) ∧ Below w.heap.size w w'
theorem normalize_any (b : Nat) (hb : b < 18446744073709551616) (w : World) : Calls Tryz.prog 151 #[.float .f64 b] w fun e w' => (∃ r k, r < 18446744073709551616 ∧ (k = 0 ∨ k = -52) ∧ e = .returned (.tuple #[.float .f64 r, .int .i64 k])) ∧ Below w.heap.size w w' := by
  cases h : ltB (absF b) 4503599627370496 with
  | false =>
    refine (normalize_no b w h).mono ?_
    rintro e w' ⟨rfl, rfl⟩
    exact ⟨⟨b, 0, hb, .inl rfl, rfl⟩, Below.refl _ _⟩
  | true =>
    have h' : (FloatKind.f64.format.order (absF b) 4503599627370496 == some Ordering.lt) = true := h
    have hm := mulR_run b 4841369599423283200
    clear h
    go_enter Tryz.func151, Tryz.ntmps151
    go_wp2_with (go_at_call 157; refine (abs_any b _).mono ?_; rintro e w' ⟨rfl, rfl⟩)
    go_ret2
    exact ⟨⟨_, _, mulR_lt _ _ _ _, .inr rfl, rfl⟩, below_drewN (Below.refl _ _) _⟩
theorem copysign_any (a b : Nat) (w : World) : Calls Tryz.prog 70 #[.float .f64 a, .float .f64 b] w (Fl w) := by
  have b1 := f64bits
  have b2 := f64from
  go_enter Tryz.func70, Tryz.ntmps70
  go_wp2
  go_ret
  refine ⟨⟨_, ?_, rfl⟩, Below.refl _ _⟩
  have := bits_hi_u64 .or (bits .andNot .u64 a 9223372036854775808) (bits .and .u64 b 9223372036854775808)
  omega
theorem inf_any (s : Int) (w : World) : Calls Tryz.prog 69 #[.int .i64 s] w (Fl w) := by
  have b2 := f64from
  cases h : decide ((0 : Int) ≤ s)
  · go_enter Tryz.func69, Tryz.ntmps69
    go_wp2
    go_ret
    exact ⟨⟨_, by decide, rfl⟩, Below.refl _ _⟩
  · go_enter Tryz.func69, Tryz.ntmps69
    go_wp2
    go_ret
    exact ⟨⟨_, by decide, rfl⟩, Below.refl _ _⟩
theorem nan_any (w : World) : Calls Tryz.prog 68 #[] w (Fl w) := by
  have b2 := f64from
  go_enter Tryz.func68, Tryz.ntmps68
  go_wp2
  go_ret
  exact ⟨⟨_, by decide, rfl⟩, Below.refl _ _⟩
theorem exp_any (b : Nat) (hb : b < 18446744073709551616) : bits .and .i64 ((b : Int) / 4503599627370496) 2047 = ((b / 4503599627370496 % 2048 : Nat) : Int) := by
  have h := bits_mask .i64 63 (by decide) wraps_i63 11 (by decide) ((b : Int) / 4503599627370496) (by omega) (by omega)
  have e : ((2 : Int) ^ 11 - 1) = 2047 := by decide
  have e2 : ((2 : Int) ^ 11) = 2048 := by decide
  rw [e, e2] at h
  rw [h]
  omega
set_option maxHeartbeats 4000000 in
theorem ldexp_any (b : Nat) (hb : b < 18446744073709551616) (x : Int) (h0 : -1074 ≤ x) (h1 : x ≤ 1023) (w : World) : Calls Tryz.prog 114 #[.float .f64 b, .int .i64 x] w (Fl w) := by
  cases hz : eqB b 0 with
  | true =>
    refine (ldexp_zero b x w hz).mono ?_
    rintro e w' ⟨rfl, rfl⟩
    exact ⟨⟨b, hb, rfl⟩, Below.refl _ _⟩
  | false =>
  have t1' : (FloatKind.f64.format.order b 0 == some Ordering.eq) = false := hz
  clear hz
  have HB := Lib.hid hb
  have hi := isInf_any b
  have hn := isNaN_any b
  cases t2 : gtB (absF b) 9218868437227405311 with
  | true =>
    rw [t2] at hi
    have HI := Lib.hid hi
    clear hi hn hb t2
    go_enter Tryz.func114, Tryz.ntmps114
    go_wp2_with (go_at_call 119; refine (HI.out _).mono ?_; rintro e w' ⟨rfl, rfl⟩)
    go_ret
    exact ⟨⟨_, HB.out, rfl⟩, Below.refl _ _⟩
  | false =>
  rw [t2] at hi
  have HI := Lib.hid hi
  clear hi t2
  cases t3 : eqB b b with
  | false =>
    rw [t3] at hn
    have HN := Lib.hid hn
    clear hn hb t3
    go_enter Tryz.func114, Tryz.ntmps114
    go_wp2_with (first | (go_at_call 119; refine (HI.out _).mono ?_; rintro e w' ⟨rfl, rfl⟩) | (go_at_call 74; refine (HN.out _).mono ?_; rintro e w' ⟨rfl, rfl⟩))
    go_ret
    exact ⟨⟨_, HB.out, rfl⟩, Below.refl _ _⟩
  | true =>
  rw [t3] at hn
  have HN := Lib.hid hn
  have hnm := normalize_any b hb
  have HNM := Lib.hid hnm
  clear hn t3 hnm hb
  go_enter Tryz.func114, Tryz.ntmps114
  go_upto_region 6 with (first | (go_at_call 119; refine (HI.out _).mono ?_; rintro e w' ⟨rfl, rfl⟩) | (go_at_call 74; refine (HN.out _).mono ?_; rintro e w' ⟨rfl, rfl⟩) | (go_at_call 151; refine (HNM.out _).mono ?_; rintro e w1 ⟨⟨r, k, hr, hk, rfl⟩, hb1⟩))
  have b1 := f64bits r
  have b2 := f64from
  have x1 := exp_any r hr
  have wx : wrap64 ((r : Int) / 4503599627370496) = (r : Int) / 4503599627370496 := by unfold wrap64; omega
  obtain ⟨y, hy⟩ : ∃ y : Int, ((r / 4503599627370496 % 2048 : Nat) : Int) = y + 1023 ∧ -1023 ≤ y ∧ y ≤ 1024 := ⟨((r / 4503599627370496 % 2048 : Nat) : Int) - 1023, by omega, by omega, by omega⟩
  obtain ⟨hy, hy1, hy2⟩ := hy
  rw [hy] at x1
  have HW := Lib.hid hb1
  have hk1 : -52 ≤ k := by omega
  have hk2 : k ≤ 0 := by omega
  clear hk hy hb1 hr
  have hm1 := mulR_run 4607182418800017408
  have hm2 := mulR_run 4368491638549381120
  go_wp2_with (first | (go_at_call 70; refine (copysign_any _ _ _).mono ?_; rintro e w2 ⟨⟨q, hq, rfl⟩, hb2⟩; have HW2 := Lib.hid (HW.out.trans (hb2.mono HW.out.size)); clear hb2) | (go_at_call 69; refine (inf_any _ _).mono ?_; rintro e w2 ⟨⟨q, hq, rfl⟩, hb2⟩; have HW2 := Lib.hid (HW.out.trans (hb2.mono HW.out.size)); clear hb2))
  all_goals
    go_ret
    first
      | exact ⟨⟨_, hq, rfl⟩, HW2.out⟩
      | exact ⟨⟨_, mulR_lt _ _ _ _, rfl⟩, below_drewN HW.out _⟩
theorem Ldexp_any (b : Nat) (hb : b < 18446744073709551616) (x : Int) (h0 : -1074 ≤ x) (h1 : x ≤ 1023) (w : World) : Calls Tryz.prog 72 #[.float .f64 b, .int .i64 x] w (Fl w) := by
  have hl := ldexp_any b hb x h0 h1
  have HL := Lib.hid hl
  clear hl
  go_enter Tryz.func72, Tryz.ntmps72
  go_wp2_with (go_at_call 114; refine (HL.out _).mono ?_; rintro e w2 ⟨⟨q, hq, rfl⟩, hb2⟩)
  go_ret
  exact ⟨⟨_, hq, rfl⟩, hb2⟩
end Go.Proofs.YtofjbakepneilaaGreatDoor
