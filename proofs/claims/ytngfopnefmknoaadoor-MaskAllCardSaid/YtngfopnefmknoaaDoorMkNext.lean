/- Masks: Next, and the sequence of a mask's numbers. -/
import Derived.Test.YtngfopnefmknoaaDoorMkNum
import Derived.Test.YtngfopnefmknoaaDoorMkRange
set_option linter.all false
namespace Go.Proofs.YtngfopnefmknoaaDoor
open Go.RowKit Go.Shelf
attribute [local go_sem] Oper.semAt_some
set_option maxRecDepth 100000
theorem ctz_spec {x : Nat} (hx : Wd x) (h0 : x ≠ 0) : ∃ q, x = 2 ^ Lib.ctz 64 x * (2 * q + 1) ∧ Lib.ctz 64 x < 64 := by
  have h := Lib.ctzFrom_spec 64 x (by omega) hx
  unfold Lib.ctz
  rw [if_neg h0]
  exact h
theorem ctz_bit {x : Nat} (hx : Wd x) (h0 : x ≠ 0) : Lib.ctz 64 x < 64 ∧ x.testBit (Lib.ctz 64 x) = true ∧ ∀ j, j < Lib.ctz 64 x → x.testBit j = false := by
  obtain ⟨q, h1, h2⟩ := ctz_spec hx h0
  generalize Lib.ctz 64 x = k at h1 h2 ⊢
  refine ⟨h2, ?_, ?_⟩
  · rw [h1, Nat.testBit_two_pow_mul]
    simp [Nat.testBit_zero]
  · intro j hj
    rw [h1, Nat.testBit_two_pow_mul]
    simp
    omega
def aboveM (m : Nat) (i : Int) : Nat := lessM (lessM m (belowM i)) (onlyM i)
theorem wd_above {m : Nat} (hm : Wd m) (i : Int) : Wd (aboveM m i) := wd_less _ (wd_less _ hm)
theorem above_bit {m : Nat} (hm : Wd m) (i : Int) (j : Nat) : (aboveM m i).testBit j = (m.testBit j && decide (i < (j : Int))) := by
  unfold aboveM
  rw [less_bit, less_bit, below_bit, only_bit]
  rcases Nat.lt_or_ge j 64 with hj | hj
  · rcases Int.lt_trichotomy i (j : Int) with h | h | h
    · rw [decide_eq_false (show ¬ ((j : Int) < i ∧ j < 64) by omega), decide_eq_false (show ¬ (i = (j : Int) ∧ j < 64) by omega), decide_eq_true h]; simp
    · rw [decide_eq_true (show i = (j : Int) ∧ j < 64 by omega), decide_eq_false (show ¬ i < (j : Int) by omega)]; simp
    · rw [decide_eq_true (show (j : Int) < i ∧ j < 64 by omega), decide_eq_false (show ¬ i < (j : Int) by omega)]; simp
  · rw [wd_high hm hj]; simp
theorem next_zero {m : Nat} (hm : Wd m) {i : Int} (h : aboveM m i = 0) : nextF m.testBit i = none := by
  refine next_eq (r := none) fun l h1 h2 => ?_
  have := above_bit hm i l
  rw [h, Nat.zero_testBit, decide_eq_true (by omega), Bool.and_true] at this
  exact this.symm
theorem next_some {m : Nat} (hm : Wd m) {i : Int} (h : aboveM m i ≠ 0) : nextF m.testBit i = some (Lib.ctz 64 (aboveM m i)) := by
  obtain ⟨h1, h2, h3⟩ := ctz_bit (wd_above hm i) h
  rw [above_bit hm, Bool.and_eq_true, decide_eq_true_eq] at h2
  refine next_eq (r := some _) ⟨by omega, h1, h2.1, fun l k1 k2 => ?_⟩
  have := h3 l k2
  rw [above_bit hm, decide_eq_true (by omega), Bool.and_true] at this
  exact this
/-- a number that may not be there, as a call answers it -/
abbrev optV (r : Option Nat) : Value := .tuple #[.int .i64 ((r.getD 0 : Nat) : Int), .bool r.isSome]
theorem next_any {m : Nat} (hm : Wd m) (i : Int) (hi : In i) (w : World) (hG : GlobM w) : Calls Tryd.prog 11 #[.int .u64 (m : Int), .int .i64 i] w fun e w' => e = .returned (optV (nextF m.testBit i)) ∧ w = w' := by
  have H1 := Lib.hid (below_any i hi w)
  have H2 := Lib.hid (less_any hm (wd_below i) w)
  have H3 := Lib.hid (without_any (wd_less (belowM i) hm) i hi w)
  change Hid (Calls _ _ _ _ fun e w' => e = .returned (.int .u64 ((aboveM m i : Nat) : Int)) ∧ w = w') at H3
  by_cases h0 : aboveM m i = 0
  · rw [next_zero hm h0]
    rw [h0] at H3
    clear h0
    go_enter Tryd.func11, Tryd.ntmps11
    go_wp2_with (first
      | (go_at_call 37; (with_reducible refine H1.out.mono ?_); rintro e w' ⟨rfl, rfl⟩)
      | (go_at_call 31; (with_reducible refine H2.out.mono ?_); rintro e w' ⟨rfl, rfl⟩)
      | (go_at_call 18; (with_reducible refine H3.out.mono ?_); rintro e w' ⟨rfl, rfl⟩))
    go_ret2
    exact ⟨rfl, rfl⟩
  · rw [next_some hm h0]
    have H4 := Lib.hid (tz_any _ (wd_above hm i) h0 w hG)
    have hx := wd_above hm i
    have hw : IntKind.u64.wrap ((aboveM m i : Nat) : Int) = ((aboveM m i : Nat) : Int) := by rw [IntKind.wrap_u64]; unfold Wd at hx; omega
    have hne : (((aboveM m i : Nat) : Int) == 0) = false := by rw [beq_eq_false_iff_ne]; omega
    generalize Lib.ctz 64 (aboveM m i) = k at H4
    generalize aboveM m i = x at H3 H4 hw hne
    clear h0 hx
    go_enter Tryd.func11, Tryd.ntmps11
    go_wp2_with (first
      | (go_at_call 37; (with_reducible refine H1.out.mono ?_); rintro e w' ⟨rfl, rfl⟩)
      | (go_at_call 31; (with_reducible refine H2.out.mono ?_); rintro e w' ⟨rfl, rfl⟩)
      | (go_at_call 18; (with_reducible refine H3.out.mono ?_); rintro e w' ⟨rfl, rfl⟩)
      | (go_at_call 38; (with_reducible refine H4.out.mono ?_); rintro e w' ⟨rfl, rfl⟩))
    go_ret2
    exact ⟨rfl, rfl⟩
end Go.Proofs.YtngfopnefmknoaaDoor
