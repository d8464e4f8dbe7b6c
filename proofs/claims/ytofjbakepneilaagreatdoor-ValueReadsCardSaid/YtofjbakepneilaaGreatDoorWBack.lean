/- Every real's text is read back as that real. -/
import Derived.Test.YtofjbakepneilaaGreatDoorMVReal
import Derived.Test.YtofjbakepneilaaGreatDoorFloatOrder
import Derived.Test.YtofjbakepneilaaGreatDoorVPrint
namespace Go.Proofs.YtofjbakepneilaaGreatDoor
open Go.RowKit Go.Shelf
set_option maxRecDepth 100000

theorem key_pos {b : Nat} (h : b < 9223372036854775808) : keyI b = (b : Int) ∧ rungB b = b := by
  have h1 : rungB b = b := by unfold rungB; omega
  have h2 : negB b = false := by
    unfold negB
    rw [show b / 9223372036854775808 = 0 by omega]
    rfl
  unfold keyI
  rw [h2, h1]
  exact ⟨rfl, rfl⟩
theorem nan_pos {b : Nat} (h : b < 9223372036854775808) : nanB b = decide (9218868437227405312 < b) := by
  unfold nanB
  rw [(key_pos h).2]
theorem eqB_self (b : Nat) : eqB b b = !nanB b := by
  unfold eqB
  show (Ieee.double.order b b == some Ordering.eq) = _
  cases h : nanB b with
  | true => rw [order_nan_l b b h]; rfl
  | false => rw [order_key b b h h, Int.compare_eq_eq.2 rfl]; rfl
theorem gtB_max {b : Nat} (h : b ≤ 9218868437227405312) : gtB b 9218868437227405311 = decide (b = 9218868437227405312) := by
  unfold gtB
  show (Ieee.double.order b 9218868437227405311 == some Ordering.gt) = _
  rw [order_key b _ (by rw [nan_pos (by omega)]; exact decide_eq_false (by omega)) (by rw [nan_pos (by omega)]; decide), (key_pos (by omega)).1, (key_pos (b := 9218868437227405311) (by omega)).1]
  by_cases hb : b = 9218868437227405312
  · rw [decide_eq_true hb, Int.compare_eq_gt.2 (by omega)]; rfl
  · rw [decide_eq_false hb]
    exact cmp_not_gt _ _ (by omega)
theorem eqB_zero {b : Nat} (h : b ≤ 9218868437227405312) : eqB b 0 = decide (b = 0) := by
  unfold eqB
  show (Ieee.double.order b 0 == some Ordering.eq) = _
  rw [order_key b _ (by rw [nan_pos (by omega)]; exact decide_eq_false (by omega)) (by rw [nan_pos (by omega)]; decide), (key_pos (by omega)).1, (key_pos (b := 0) (by omega)).1]
  by_cases hb : b = 0
  · rw [decide_eq_true hb, hb]; rfl
  · rw [decide_eq_false hb]
    exact cmp_not_eq _ _ (by omega)
/-- a magnitude's text, as a list -/
def magL (b : Nat) : List UInt8 := if b = 9218868437227405312 then [105, 110, 102] else if b = 0 then [48, 112, 48] else Lib.decDigits (oddM b / 2 ^ Lib.ctz 64 (oddM b)) ++ 112 :: Lib.itoa (oddE b)
theorem magT_list {b : Nat} (h : b ≤ 9218868437227405312) : magT b = ⟨(magL b).toArray⟩ := by
  unfold magT magL
  rw [gtB_max h, eqB_zero h]
  by_cases h1 : b = 9218868437227405312
  · rw [decide_eq_true h1, if_pos rfl, if_pos h1]
  · rw [decide_eq_false h1, if_neg (by decide), if_neg h1]
    by_cases h2 : b = 0
    · rw [decide_eq_true h2, if_pos rfl, if_pos h2]
    · rw [decide_eq_false h2, if_neg (by decide), if_neg h2]
      apply ba_eq
      simp
theorem realT_list {b : Nat} (hb : b < 18446744073709551616) : realT b = ⟨(if nanB b = true then [110, 97, 110] else if 9223372036854775808 ≤ b then 45 :: magL (b - 9223372036854775808) else magL b).toArray⟩ := by
  unfold realT
  rw [eqB_self]
  cases h : nanB b with
  | true => simp
  | false =>
    have hr : rungB b ≤ 9218868437227405312 := by
      unfold nanB at h
      have := of_decide_eq_false h
      omega
    unfold rungB at hr
    show (if 9223372036854775808 ≤ b then ⟨#[45]⟩ ++ magT (b - 9223372036854775808) else magT b) = ⟨(if 9223372036854775808 ≤ b then 45 :: magL (b - 9223372036854775808) else magL b).toArray⟩
    by_cases h2 : 9223372036854775808 ≤ b
    · rw [if_pos h2, if_pos h2, magT_list (by omega)]
      apply ba_eq
      simp
    · rw [if_neg h2, if_neg h2, magT_list (by omega)]
theorem spec_nan (w : World) : Calls Tryz.prog 39 #[.string ⟨#[110, 97, 110]⟩] w fun e w' => e = .returned (.tuple #[.float .f64 9221120237041090561, .bool true]) ∧ Below w.heap.size w w' := by
  have b2 := f64from
  have hN : ∀ W, Calls Tryz.prog 68 #[] W fun e w' => e = .returned (.float .f64 9221120237041090561) ∧ W = w' := by
    intro W
    go_enter Tryz.func68, Tryz.ntmps68
    go_wp2
    go_ret
    exact ⟨rfl, rfl⟩
  go_enter Tryz.func39, Tryz.ntmps39
  go_wp2_with (go_at_call 68; refine (hN _).mono ?_; rintro e w' ⟨rfl, rfl⟩)
  go_ret2
  exact ⟨rfl, Below.refl _ _⟩
theorem inf_exact (s : Int) (w : World) : Calls Tryz.prog 69 #[.int .i64 s] w fun e w' => e = .returned (.float .f64 (if 0 ≤ s then 9218868437227405312 else 18442240474082181120)) ∧ w = w' := by
  have b2 := f64from
  by_cases h : 0 ≤ s
  · rw [if_pos h]
    have d : decide ((0 : Int) ≤ s) = true := decide_eq_true h
    clear h
    go_enter Tryz.func69, Tryz.ntmps69
    go_wp2
    go_ret
    exact ⟨rfl, rfl⟩
  · rw [if_neg h]
    have d : decide ((0 : Int) ≤ s) = false := decide_eq_false h
    clear h
    go_enter Tryz.func69, Tryz.ntmps69
    go_wp2
    go_ret
    exact ⟨rfl, rfl⟩
theorem spec_inf (w : World) : Calls Tryz.prog 39 #[.string ⟨#[105, 110, 102]⟩] w fun e w' => e = .returned (.tuple #[.float .f64 9218868437227405312, .bool true]) ∧ Below w.heap.size w w' := by
  go_enter Tryz.func39, Tryz.ntmps39
  go_wp2_with (go_at_call 69; refine (inf_exact 1 _).mono ?_; rintro e w' ⟨rfl, rfl⟩)
  go_ret2
  exact ⟨rfl, Below.refl _ _⟩
theorem spec_less_inf (w : World) : Calls Tryz.prog 39 #[.string ⟨#[45, 105, 110, 102]⟩] w fun e w' => e = .returned (.tuple #[.float .f64 18442240474082181120, .bool true]) ∧ Below w.heap.size w w' := by
  go_enter Tryz.func39, Tryz.ntmps39
  go_wp2_with (go_at_call 69; refine (inf_exact (-1) _).mono ?_; rintro e w' ⟨rfl, rfl⟩)
  go_ret2
  exact ⟨rfl, Below.refl _ _⟩
theorem dd0 : Lib.decDigits 0 = [48] := by rw [Lib.decDigits_one (by decide)]; rfl
theorem spec_nought (w : World) : Calls Tryz.prog 39 #[.string ⟨#[48, 112, 48]⟩] w fun e w' => e = .returned (.tuple #[.float .f64 0, .bool true]) ∧ Below w.heap.size w w' := by
  have p0 : Lib.parseIntB 64 [48] = .ok 0 := by have := parse_dd 0 (by decide); rw [dd0] at this; exact this
  have q0 : Lib.atoiAll [48] = .ok 0 := by rw [← Lib.parseIntB_64]; exact p0
  have e0 : (⟨#[48, 112, 48]⟩ : ByteArray).toList = [48, 112, 48] := tl_mk [48, 112, 48]
  have g1 : ((⟨#[48, 112, 48]⟩ : ByteArray).extract 0 1).data.toList = [48] := ex_take [48] [48]
  have g2 : ((⟨#[48, 112, 48]⟩ : ByteArray).extract 2 (⟨#[48, 112, 48]⟩ : ByteArray).size).data.toList = [48] := ex_drop [48] [48]
  have hi : Lib.indexByte (⟨#[48, 112, 48]⟩ : ByteArray).data.toList 112 = ((1 : Nat) : Int) := by decide
  refine readReal_num _ ⟨#[48]⟩ ⟨#[48]⟩ 0 0 0 w (by decide) (by decide) (by decide) (by rw [e0]; decide) (by rw [e0]; decide) (by rw [e0]; decide) (by rw [e0]; decide) ?_ p0 q0 (by decide) (by decide)
    fun W => Ldexp_of _ 0 0 W (ldexp_zero 0 0 W (by decide))
  unfold cutV
  rw [hi, if_pos (by decide), Int.toNat_natCast, ba_eq g1, ba_eq g2]
theorem spec_less_nought (w : World) : Calls Tryz.prog 39 #[.string ⟨#[45, 48, 112, 48]⟩] w fun e w' => e = .returned (.tuple #[.float .f64 9223372036854775808, .bool true]) ∧ Below w.heap.size w w' := by
  have b1 := f64bits
  have b2 := f64from
  have hC : ∀ W, Calls Tryz.prog 70 #[.float .f64 0, .float .f64 13830554455654793216] W fun e w' => e = .returned (.float .f64 9223372036854775808) ∧ W = w' := by
    intro W
    go_enter Tryz.func70, Tryz.ntmps70
    go_wp2
    go_ret
    exact ⟨rfl, rfl⟩
  go_enter Tryz.func39, Tryz.ntmps39
  go_wp2_with (go_at_call 70; refine (hC _).mono ?_; rintro e w' ⟨rfl, rfl⟩)
  go_ret2
  exact ⟨rfl, Below.refl _ _⟩
/-- what readReal tells of a real's text -/
theorem readReal_back (b : Nat) (hb : b < 18446744073709551616) (w : World) :
    Calls Tryz.prog 39 #[.string (realT b)] w fun e w' => (∃ r, (r = b ∨ (nanB r = true ∧ nanB b = true)) ∧ r < 18446744073709551616 ∧ e = .returned (.tuple #[.float .f64 r, .bool true])) ∧ Below w.heap.size w w' := by
  rw [realT_list hb]
  cases hn : nanB b with
  | true =>
    refine (spec_nan w).mono ?_
    rintro e w' ⟨rfl, h⟩
    exact ⟨⟨_, .inr ⟨by decide, rfl⟩, by decide, rfl⟩, h⟩
  | false =>
    have hr : b % 9223372036854775808 ≤ 9218868437227405312 := by
      have h := hn
      unfold nanB rungB at h
      have := of_decide_eq_false h
      omega
    rw [if_neg (by decide)]
    by_cases h2 : 9223372036854775808 ≤ b
    · rw [if_pos h2]
      obtain ⟨c, rfl⟩ : ∃ c, b = 9223372036854775808 + c := ⟨b - 9223372036854775808, by omega⟩
      rw [Nat.add_sub_cancel_left]
      unfold magL
      by_cases h3 : c = 9218868437227405312
      · rw [if_pos h3, h3]
        refine (spec_less_inf w).mono ?_
        rintro e w' ⟨rfl, h⟩
        exact ⟨⟨_, .inl (by decide), by decide, rfl⟩, h⟩
      · rw [if_neg h3]
        by_cases h4 : c = 0
        · rw [if_pos h4, h4]
          refine (spec_less_nought w).mono ?_
          rintro e w' ⟨rfl, h⟩
          exact ⟨⟨_, .inl (by decide), by decide, rfl⟩, h⟩
        · rw [if_neg h4]
          obtain ⟨m, hm, m0, m2, e0, ef, hw⟩ := word_back c (by omega) (by omega)
          rw [← hm]
          refine (readReal_neg m (oddE c) w m0 m2 e0 ef).mono ?_
          rintro e w' ⟨rfl, h⟩
          rw [hw]
          exact ⟨⟨_, .inl rfl, hb, rfl⟩, h⟩
    · rw [if_neg h2]
      unfold magL
      by_cases h3 : b = 9218868437227405312
      · rw [if_pos h3, h3]
        refine (spec_inf w).mono ?_
        rintro e w' ⟨rfl, h⟩
        exact ⟨⟨_, .inl rfl, by decide, rfl⟩, h⟩
      · rw [if_neg h3]
        by_cases h4 : b = 0
        · rw [if_pos h4, h4]
          refine (spec_nought w).mono ?_
          rintro e w' ⟨rfl, h⟩
          exact ⟨⟨_, .inl rfl, by decide, rfl⟩, h⟩
        · rw [if_neg h4]
          obtain ⟨m, hm, m0, m2, e0, ef, hw⟩ := word_back b (by omega) (by omega)
          rw [← hm]
          refine (readReal_pos m (oddE b) w m0 m2 e0 ef).mono ?_
          rintro e w' ⟨rfl, h⟩
          rw [hw]
          exact ⟨⟨_, .inl rfl, hb, rfl⟩, h⟩
end Go.Proofs.YtofjbakepneilaaGreatDoor
