/- The reference's finite: a real from 0 on, finite, not -0. -/
import Derived.Test.YtddeoemkjedonaaDoorEbLeaf
import Derived.Laws.FloatArith
namespace Go.Proofs.YtddeoemkjedonaaDoor
open Go.RowKit
set_option maxRecDepth 100000

theorem sub_self_fin (b : Nat) (h : rungB b < 9218868437227405312) : floatBits .sub .f64 b b = some 0 := by
  obtain ⟨m, p, hr, _, _⟩ := read_fin b h
  show Ieee.Format.sub Ieee.double b b = _
  unfold Ieee.Format.sub
  rw [hr]
  have hq : Ieee.Datum.sum (.number (negB b) m p) (Ieee.Datum.opposite (.number (negB b) m p)) = some (.number false 0 p) := by
    unfold Ieee.Datum.opposite Ieee.Datum.sum
    simp only [Int.min_self, Int.sub_self, Int.toNat_zero]
    unfold Ieee.signed
    cases negB b <;> simp [Int.add_right_neg, Int.add_left_neg]
  rw [hq]
  show some (Ieee.double.nearest false 0 p) = some 0
  unfold Ieee.Format.nearest
  rw [if_pos rfl]
  rfl
theorem fin_drawn_nan (t : Nat) : ∃ n f, Ieee.double.read ((t % 2) * 2 ^ 63 + 0x7ff0000000000000 + 1 + (t / 2) % (2 ^ 52 - 1)) = .nan n f := by
  obtain ⟨a, ha, ha2⟩ : ∃ a, a = t % 2 ∧ a < 2 := ⟨_, rfl, Nat.mod_lt _ (by omega)⟩
  obtain ⟨r, hr, hr2⟩ : ∃ r, r = (t / 2) % (2 ^ 52 - 1) ∧ r < 4503599627370495 := ⟨_, rfl, Nat.mod_lt _ (by omega)⟩
  rw [← ha, ← hr]
  clear ha hr
  have e63 : (2 : Nat) ^ 63 = 9223372036854775808 := by decide
  rw [e63]
  unfold Ieee.Format.read
  rw [oS, oB, oI, oL]
  have e2 : (a * 9223372036854775808 + 9218868437227405312 + 1 + r) % 9223372036854775808 = 9218868437227405312 + 1 + r := by omega
  simp only [e2]
  rw [if_neg (by omega), if_neg (by omega), if_neg (by omega)]
  exact ⟨_, _, rfl⟩
theorem fin_drawn_none (t : Nat) : FloatKind.f64.format.order ((t % 2) * 2 ^ 63 + 0x7ff0000000000000 + 1 + (t / 2) % (2 ^ 52 - 1)) 0 = none := by
  obtain ⟨n, f, h⟩ := fin_drawn_nan t
  show (Ieee.double.read _).order (Ieee.double.read 0) = none
  rw [h]
  rfl
theorem fin_inf_less (t : TypeId) (w : World) : ∃ b, (binOp .sub t (.float .f64 9218868437227405312) (.float .f64 9218868437227405312)).run Tryd.prog w = .ok (.float .f64 b) w.drew ∧ FloatKind.f64.format.order b 0 = none :=
  ⟨_, rfl, fin_drawn_none _⟩
theorem ord0 (b : Nat) : FloatKind.f64.format.order b 0 = if nanB b then none else some (compare (keyI b) 0) := by
  show Ieee.double.order b 0 = _
  cases hn : nanB b with
  | true => rw [order_nan_l _ _ hn]; rfl
  | false => rw [order_key _ _ hn (by decide)]; rfl
set_option maxHeartbeats 1000000 in
theorem finite_any (b : Nat) (hb : b < 18446744073709551616) (w : World) :
    Calls Tryd.prog 51 #[.float .f64 b] w fun e w' => e = .returned (.bool (decide (b < 9218868437227405312))) ∧ Below w.heap.size w w' := by
  have h0 := ord0 b
  by_cases c1 : b = 0
  · subst c1
    have hs : ∀ t w, (binOp .sub t (.float .f64 0) (.float .f64 0)).run Tryd.prog w = .ok (.float .f64 0) w := fun t w => run_float_arith (h := by decide) ..
    have hq : ∀ t w, (binOp .quo t (.float .f64 4607182418800017408) (.float .f64 0)).run Tryd.prog w = .ok (.float .f64 9218868437227405312) w := fun t w => run_float_arith (h := by decide) ..
    have g0 : FloatKind.f64.format.order 0 0 = some Ordering.eq := by decide
    have g1 : FloatKind.f64.format.order 9218868437227405312 0 = some Ordering.gt := by decide
    clear h0
    go_enter Tryd.func51, Tryd.ntmps51
    go_wp2
    go_ret
    exact ⟨rfl, Below.refl _ _⟩
  by_cases c2 : b = 9223372036854775808
  · subst c2
    have hs : ∀ t w, (binOp .sub t (.float .f64 9223372036854775808) (.float .f64 9223372036854775808)).run Tryd.prog w = .ok (.float .f64 0) w := fun t w => run_float_arith (h := by decide) ..
    have hq : ∀ t w, (binOp .quo t (.float .f64 4607182418800017408) (.float .f64 9223372036854775808)).run Tryd.prog w = .ok (.float .f64 18442240474082181120) w := fun t w => run_float_arith (h := by decide) ..
    have g0 : FloatKind.f64.format.order 0 0 = some Ordering.eq := by decide
    have g2 : FloatKind.f64.format.order 9223372036854775808 0 = some Ordering.eq := by decide
    have g1 : FloatKind.f64.format.order 18442240474082181120 0 = some Ordering.lt := by decide
    clear h0
    go_enter Tryd.func51, Tryd.ntmps51
    go_wp2
    go_ret
    exact ⟨rfl, Below.refl _ _⟩
  by_cases c3 : b < 9218868437227405312
  · have hr : rungB b = b := Nat.mod_eq_of_lt (by omega)
    have hs : ∀ t w, (binOp .sub t (.float .f64 b) (.float .f64 b)).run Tryd.prog w = .ok (.float .f64 0) w := fun t w => run_float_arith (h := sub_self_fin b (by rw [hr]; exact c3)) ..
    have g0 : FloatKind.f64.format.order 0 0 = some Ordering.eq := by decide
    have g1 : FloatKind.f64.format.order b 0 = some Ordering.gt := by
      rw [h0, show nanB b = false by unfold nanB; rw [hr]; exact decide_eq_false (by omega)]
      have k1 : keyI b = b := by unfold keyI negB; rw [show b / 9223372036854775808 = 0 by omega, hr]; simp
      rw [k1, show compare (b : Int) 0 = .gt from cmp_gt (by omega)]
      rfl
    rw [decide_eq_true c3]
    clear h0 c1 c2 c3 hr hb
    go_enter Tryd.func51, Tryd.ntmps51
    go_wp2
    go_ret
    exact ⟨rfl, Below.refl _ _⟩
  rw [decide_eq_false c3]
  by_cases c4 : b = 9218868437227405312
  · subst c4
    obtain ⟨r, hs, g2⟩ := fin_inf_less 33 w
    have g1 : FloatKind.f64.format.order 9218868437227405312 0 = some Ordering.gt := by decide
    clear h0
    go_enter Tryd.func51, Tryd.ntmps51
    go_wp2
    go_ret
    exact ⟨rfl, (Below.refl _ _).drew⟩
  have g1 : FloatKind.f64.format.order b 0 = none ∨ FloatKind.f64.format.order b 0 = some Ordering.lt := by
    rw [h0]
    cases hn : nanB b with
    | true => exact .inl rfl
    | false =>
      refine .inr ?_
      have hn' : ¬ (9218868437227405312 < rungB b) := by unfold nanB at hn; simpa using hn
      have hbig : 9223372036854775808 < b := by
        rcases Nat.lt_or_ge 9223372036854775808 b with h | h
        · exact h
        · exfalso
          have : rungB b = b := Nat.mod_eq_of_lt (by omega)
          omega
      have k1 : keyI b < 0 := by
        unfold keyI negB
        rw [show b / 9223372036854775808 = 1 by omega]
        have : rungB b = b - 9223372036854775808 := by unfold rungB; omega
        simp
        omega
      rw [show compare (keyI b) 0 = .lt from cmp_lt k1]
      rfl
  clear h0 c1 c2 c3 c4 hb
  rcases g1 with g1 | g1
  · go_enter Tryd.func51, Tryd.ntmps51
    go_wp2
    go_ret
    exact ⟨rfl, Below.refl _ _⟩
  · go_enter Tryd.func51, Tryd.ntmps51
    go_wp2
    go_ret
    exact ⟨rfl, Below.refl _ _⟩
end Go.Proofs.YtddeoemkjedonaaDoor
