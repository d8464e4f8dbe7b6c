/- What is added can be taken away, a difference put to the subtrahend, a quotient put together again with its remainder, a product divided, a sign turned twice: for every two numbers of 64 bits, no condition. -/
import Derived.Test.YtdckenkomjikbaaRows
import Derived.WalkKit
import Derived.ProofKit
import Derived.OpenShut
import Derived.Test.YtdckenkomjikbaaCkAwake
namespace Go.Proofs.Ytdckenkomjikbaa.checkedBack
open Go.ChangeShapes Go.WideShapes Go.ChangeAt Go.RowKit
set_option linter.unusedVariables false      -- a walk need not use every 'w<i>' (that an integer argument fits its kind)

theorem own : ownKnob Try.prog.godebug = none := by kernel_rfl

theorem rem_less {a b : Int} (hb : b ≠ 0) : (a.tmod b).natAbs < b.natAbs := by
  rw [Int.natAbs_tmod]; exact Nat.mod_lt _ (by omega)
theorem rem_sign (a b : Int) : (0 ≤ a → 0 ≤ a.tmod b) ∧ (a ≤ 0 → a.tmod b ≤ 0) := by
  constructor
  · intro h; exact Int.tmod_nonneg b h
  · intro h
    obtain ⟨x, rfl⟩ : ∃ x : Int, a = -x := ⟨-a, by omega⟩
    rw [Int.neg_tmod]
    have := Int.tmod_nonneg b (by omega : 0 ≤ x); omega

/-- what the calls answer on a quotient that is within -/
def Quot (a b q r x : Int) : Prop :=
  (∀ w, Calls Try.prog 17 #[.int .i64 a, .int .i64 b] w fun e w' => e = .returned (.tuple #[.int .i64 q, .int .i64 0]) ∧ w = w') ∧
  (∀ w, Calls Try.prog 19 #[.int .i64 a, .int .i64 b] w fun e w' => e = .returned (.tuple #[.int .i64 r, .int .i64 0]) ∧ w = w') ∧
  (∀ w, Calls Try.prog 13 #[.int .i64 q, .int .i64 b] w fun e w' => e = .returned (.tuple #[.int .i64 x, .int .i64 0]) ∧ w = w') ∧
  (∀ w, Calls Try.prog 9 #[.int .i64 x, .int .i64 r] w fun e w' => e = .returned (.tuple #[.int .i64 a, .int .i64 0]) ∧ w = w')

theorem quot_of {a b : Int} (ha : In a) (hb : In b) (h0 : b ≠ 0) (h1 : ¬ (a = -9223372036854775808 ∧ b = -1)) :
    ∃ q r x, Quot a b q r x ∧ r.natAbs < b.natAbs ∧ (0 ≤ a → 0 ≤ r) ∧ (a ≤ 0 → r ≤ 0) := by
  have hl := rem_less (a := a) h0
  have hs := rem_sign a b
  have hq : In (a.tdiv b) := by
    have e := Int.natAbs_tdiv a b
    have : a.natAbs / b.natAbs ≤ a.natAbs := Nat.div_le_self _ _
    by_cases h2 : b.natAbs = 1
    · have : b = 1 ∨ b = -1 := by omega
      rcases this with rfl | rfl
      · rw [Int.tdiv_one]; exact ha
      · rw [Int.tdiv_neg, Int.tdiv_one]; obtain ⟨_, _⟩ := ha; constructor <;> omega
    · have : a.natAbs / b.natAbs ≤ a.natAbs / 2 := Nat.div_le_div_left (by omega) (by omega)
      have e2 : (a.tdiv b).natAbs ≤ a.natAbs / 2 := by rw [e]; exact this
      obtain ⟨_, _⟩ := ha; constructor <;> omega
  have hr : In (a.tmod b) := by obtain ⟨_, _⟩ := hb; constructor <;> omega
  have hx := Int.mul_tdiv_add_tmod a b
  have hx2 : In (a.tdiv b * b) := by
    rw [Int.mul_comm]
    obtain ⟨_, _⟩ := ha
    by_cases hp : 0 ≤ a
    · have := hs.1 hp
      have hge : 0 ≤ b * a.tdiv b := by
        have e : b * a.tdiv b = a - a.tmod b := by omega
        have : a.tmod b ≤ a := by
          have h4 : (a.tmod b).natAbs ≤ a.natAbs := by rw [Int.natAbs_tmod]; exact Nat.mod_le _ _
          omega
        omega
      constructor <;> omega
    · have := hs.2 (by omega)
      have h4 : (a.tmod b).natAbs ≤ a.natAbs := by rw [Int.natAbs_tmod]; exact Nat.mod_le _ _
      constructor <;> omega
  refine ⟨a.tdiv b, a.tmod b, a.tdiv b * b, ⟨fun w => ?_, fun w => ?_, fun w => ?_, fun w => ?_⟩, hl, hs.1, hs.2⟩
  · refine (div_any a b w ha hb).mono fun _ _ h => ⟨h.1.trans (ret2 ?_ ?_), h.2⟩
    · unfold divV; rw [if_neg h0, fitV_yes hq.1 hq.2]
    · unfold divE; rw [if_neg h0, fitE_yes hq.1 hq.2]
  · refine (rem_any a b w ha hb).mono fun _ _ h => ⟨h.1.trans (ret2 ?_ ?_), h.2⟩
    · unfold remV; rw [if_neg h0]
    · unfold remE; rw [if_neg h0]
  · exact (mul_any _ b w hq hb).mono fun _ _ h => ⟨h.1.trans (ret2 (fitV_yes hx2.1 hx2.2) (fitE_yes hx2.1 hx2.2)), h.2⟩
  · refine (add_any _ _ w hx2 hr).mono fun _ _ h => ⟨h.1.trans (ret2 ?_ ?_), h.2⟩
    · rw [Int.mul_comm, hx]; exact fitV_yes ha.1 ha.2
    · rw [Int.mul_comm, hx]; exact fitE_yes ha.1 ha.2

theorem parts_zero (a : Int) (w : World) (ha : In a) : Calls Try.prog 28 #[.int .i64 a, .int .i64 0] w fun e w' => e = .returned (.bool true) ∧ w = w' := by
  have K1 : ∀ w, Calls Try.prog 17 #[.int .i64 a, .int .i64 0] w fun e w' => e = .returned (.tuple #[.int .i64 0, .int .i64 31]) ∧ w = w' := fun w => div_any a 0 w ha (by decide)
  have K2 : ∀ w, Calls Try.prog 19 #[.int .i64 a, .int .i64 0] w fun e w' => e = .returned (.tuple #[.int .i64 0, .int .i64 31]) ∧ w = w' := fun w => rem_any a 0 w ha (by decide)
  have K1 := Lib.hid K1
  have K2 := Lib.hid K2
  clear ha
  go_enter Try.func28, Try.ntmps28
  go_wp2_with (first
    | (go_at_call 17; refine (K1.out _).mono ?_; rintro e w' ⟨rfl, rfl⟩)
    | (go_at_call 19; refine (K2.out _).mono ?_; rintro e w' ⟨rfl, rfl⟩))
  go_ret
  exact ⟨rfl, rfl⟩
theorem parts_over (a b : Int) (w : World) (ha : a = -9223372036854775808) (hb : b = -1) : Calls Try.prog 28 #[.int .i64 a, .int .i64 b] w fun e w' => e = .returned (.bool true) ∧ w = w' := by
  have K1 : ∀ w, Calls Try.prog 17 #[.int .i64 a, .int .i64 b] w fun e w' => e = .returned (.tuple #[.int .i64 0, .int .i64 30]) ∧ w = w' := fun w => by
    subst ha hb; exact (div_any _ _ w (by decide) (by decide)).mono fun _ _ h => ⟨h.1.trans (ret2 (by decide) (by decide)), h.2⟩
  have K2 : ∀ w, Calls Try.prog 19 #[.int .i64 a, .int .i64 b] w fun e w' => e = .returned (.tuple #[.int .i64 0, .int .i64 0]) ∧ w = w' := fun w => by
    subst ha hb; exact (rem_any _ _ w (by decide) (by decide)).mono fun _ _ h => ⟨h.1.trans (ret2 (by decide) (by decide)), h.2⟩
  have K1 := Lib.hid K1
  have K2 := Lib.hid K2
  have t1 : (a == -9223372036854775808) = true := by simp [ha]
  have t2 : (b == -1) = true := by simp [hb]
  have t3 : (b == 0) = false := by simp [hb]
  clear ha hb
  go_enter Try.func28, Try.ntmps28
  go_wp2_with (first
    | (go_at_call 17; refine (K1.out _).mono ?_; rintro e w' ⟨rfl, rfl⟩)
    | (go_at_call 19; refine (K2.out _).mono ?_; rintro e w' ⟨rfl, rfl⟩))
  go_ret
  exact ⟨rfl, rfl⟩

set_option maxHeartbeats 2000000 in
theorem parts_some (a b : Int) (w : World) (ha : In a) (hb : In b) (h0 : b ≠ 0) (h1 : ¬ (a = -9223372036854775808 ∧ b = -1)) : Calls Try.prog 28 #[.int .i64 a, .int .i64 b] w fun e w' => e = .returned (.bool true) ∧ w = w' := by
  obtain ⟨q, r, x, ⟨K1, K2, K3, K4⟩, hl, hp, hn⟩ := quot_of ha hb h0 h1
  have K1 := Lib.hid K1
  have K2 := Lib.hid K2
  have K3 := Lib.hid K3
  have K4 := Lib.hid K4
  have hb0 : (b == 0) = false := by simpa using h0
  obtain ⟨a1, a2⟩ := ha
  obtain ⟨b1, b2⟩ := hb
  clear h1
  have hr : r = 0 ∨ (0 < r ∧ 0 ≤ a) ∨ (r < 0 ∧ a < 0) := by omega
  rcases hr with rfl | ⟨hr, hs⟩ | ⟨hr, hs⟩
  · clear hl hp hn
    go_enter Try.func28, Try.ntmps28
    go_wp2_with (first
      | (go_at_call 17; refine (K1.out _).mono ?_; rintro e w' ⟨rfl, rfl⟩)
      | (go_at_call 19; refine (K2.out _).mono ?_; rintro e w' ⟨rfl, rfl⟩)
      | (go_at_call 13; refine (K3.out _).mono ?_; rintro e w' ⟨rfl, rfl⟩)
      | (go_at_call 9; refine (K4.out _).mono ?_; rintro e w' ⟨rfl, rfl⟩))
    all_goals go_ret
    all_goals exact ⟨rfl, rfl⟩
  · have hr0 : (r == 0) = false := by simp; omega
    have d1 : decide (r < 0) = false := by simp; omega
    have d2 : decide (a < 0) = false := by simp; omega
    by_cases hbp : 0 < b
    · have c1 : r < b := by omega
      have c2 : -b < r := by omega
      clear hl hp hn
      go_enter Try.func28, Try.ntmps28
      go_wp2_with (first
        | (go_at_call 17; refine (K1.out _).mono ?_; rintro e w' ⟨rfl, rfl⟩)
        | (go_at_call 19; refine (K2.out _).mono ?_; rintro e w' ⟨rfl, rfl⟩)
        | (go_at_call 13; refine (K3.out _).mono ?_; rintro e w' ⟨rfl, rfl⟩)
        | (go_at_call 9; refine (K4.out _).mono ?_; rintro e w' ⟨rfl, rfl⟩))
      all_goals go_ret
      all_goals exact ⟨rfl, rfl⟩
    · by_cases hbm : b = -9223372036854775808
      · have c3 : (b == -9223372036854775808) = true := by simp [hbm]
        have c4 : b < r := by omega
        have hb3 : b < 0 := by omega
        have c5 : decide (r < wrap64 (-b)) = false := by rw [hbm]; unfold wrap64; simp; omega
        clear hl hp hn hbm
        go_enter Try.func28, Try.ntmps28
        go_wp2_with (first
          | (go_at_call 17; refine (K1.out _).mono ?_; rintro e w' ⟨rfl, rfl⟩)
          | (go_at_call 19; refine (K2.out _).mono ?_; rintro e w' ⟨rfl, rfl⟩)
          | (go_at_call 13; refine (K3.out _).mono ?_; rintro e w' ⟨rfl, rfl⟩)
          | (go_at_call 9; refine (K4.out _).mono ?_; rintro e w' ⟨rfl, rfl⟩))
        all_goals first | exact absurd (by assumption : r < wrap64 (-b)) (by simpa using c5) | (go_ret; exact ⟨rfl, rfl⟩)
      · have c1 : b < r := by omega
        have c2 : r < -b := by omega
        have hb3 : b < 0 := by omega
        have c3 : (b == -9223372036854775808) = false := by simpa using hbm
        have c6 : -9223372036854775807 ≤ b := by omega
        clear hl hp hn hbm
        go_enter Try.func28, Try.ntmps28
        go_wp2_with (first
          | (go_at_call 17; refine (K1.out _).mono ?_; rintro e w' ⟨rfl, rfl⟩)
          | (go_at_call 19; refine (K2.out _).mono ?_; rintro e w' ⟨rfl, rfl⟩)
          | (go_at_call 13; refine (K3.out _).mono ?_; rintro e w' ⟨rfl, rfl⟩)
          | (go_at_call 9; refine (K4.out _).mono ?_; rintro e w' ⟨rfl, rfl⟩))
        all_goals go_ret
        all_goals exact ⟨rfl, rfl⟩
  · have hr0 : (r == 0) = false := by simp; omega
    have d1 : decide (r < 0) = true := by simp; omega
    have d2 : decide (a < 0) = true := by simp; omega
    have d3 : decide (0 < r) = false := by simp; omega
    by_cases hbp : 0 < b
    · have c1 : r < b := by omega
      have c2 : -b < r := by omega
      clear hl hp hn
      go_enter Try.func28, Try.ntmps28
      go_wp2_with (first
        | (go_at_call 17; refine (K1.out _).mono ?_; rintro e w' ⟨rfl, rfl⟩)
        | (go_at_call 19; refine (K2.out _).mono ?_; rintro e w' ⟨rfl, rfl⟩)
        | (go_at_call 13; refine (K3.out _).mono ?_; rintro e w' ⟨rfl, rfl⟩)
        | (go_at_call 9; refine (K4.out _).mono ?_; rintro e w' ⟨rfl, rfl⟩))
      all_goals go_ret
      all_goals exact ⟨rfl, rfl⟩
    · by_cases hbm : b = -9223372036854775808
      · have c3 : (b == -9223372036854775808) = true := by simp [hbm]
        have c4 : b < r := by omega
        have hb3 : b < 0 := by omega
        have c5 : decide (r < wrap64 (-b)) = false := by rw [hbm]; unfold wrap64; simp; omega
        clear hl hp hn hbm
        go_enter Try.func28, Try.ntmps28
        go_wp2_with (first
          | (go_at_call 17; refine (K1.out _).mono ?_; rintro e w' ⟨rfl, rfl⟩)
          | (go_at_call 19; refine (K2.out _).mono ?_; rintro e w' ⟨rfl, rfl⟩)
          | (go_at_call 13; refine (K3.out _).mono ?_; rintro e w' ⟨rfl, rfl⟩)
          | (go_at_call 9; refine (K4.out _).mono ?_; rintro e w' ⟨rfl, rfl⟩))
        all_goals go_ret
        all_goals exact ⟨rfl, rfl⟩
      · have c1 : b < r := by omega
        have c2 : r < -b := by omega
        have hb3 : b < 0 := by omega
        have c3 : (b == -9223372036854775808) = false := by simpa using hbm
        have c6 : -9223372036854775807 ≤ b := by omega
        clear hl hp hn hbm
        go_enter Try.func28, Try.ntmps28
        go_wp2_with (first
          | (go_at_call 17; refine (K1.out _).mono ?_; rintro e w' ⟨rfl, rfl⟩)
          | (go_at_call 19; refine (K2.out _).mono ?_; rintro e w' ⟨rfl, rfl⟩)
          | (go_at_call 13; refine (K3.out _).mono ?_; rintro e w' ⟨rfl, rfl⟩)
          | (go_at_call 9; refine (K4.out _).mono ?_; rintro e w' ⟨rfl, rfl⟩))
        all_goals go_ret
        all_goals exact ⟨rfl, rfl⟩
abbrev T2 (f : FuncId) (p q x e : Int) : Prop :=
  ∀ w, Calls Try.prog f #[.int .i64 p, .int .i64 q] w fun e' w' => e' = .returned (.tuple #[.int .i64 x, .int .i64 e]) ∧ w = w'
abbrev T1 (f : FuncId) (p x e : Int) : Prop :=
  ∀ w, Calls Try.prog f #[.int .i64 p] w fun e' w' => e' = .returned (.tuple #[.int .i64 x, .int .i64 e]) ∧ w = w'
theorem t_add (a b : Int) (ha : In a) (hb : In b) : ∃ x e, Hid (T2 9 a b x e) ∧ (e = 0 ∧ Hid (T2 11 x b a 0) ∨ e = 30) := by
  refine ⟨_, _, Lib.hid fun w => add_any a b w ha hb, ?_⟩
  rcases fit_cases (a + b) with h | h
  · refine .inl ⟨fitE_yes h.1 h.2, Lib.hid fun w => ?_⟩
    rw [fitV_yes h.1 h.2]
    exact (sub_any (a + b) b w h hb).mono fun _ _ h => ⟨h.1.trans (ret2 (by rw [Int.add_sub_cancel]; exact fitV_yes ha.1 ha.2) (by rw [Int.add_sub_cancel]; exact fitE_yes ha.1 ha.2)), h.2⟩
  · exact .inr (fitE_no h)
theorem t_sub (a b : Int) (ha : In a) (hb : In b) : ∃ x e, Hid (T2 11 a b x e) ∧ (e = 0 ∧ Hid (T2 9 x b a 0) ∨ e = 30) := by
  refine ⟨_, _, Lib.hid fun w => sub_any a b w ha hb, ?_⟩
  rcases fit_cases (a - b) with h | h
  · refine .inl ⟨fitE_yes h.1 h.2, Lib.hid fun w => ?_⟩
    rw [fitV_yes h.1 h.2]
    exact (add_any (a - b) b w h hb).mono fun _ _ h => ⟨h.1.trans (ret2 (by rw [Int.sub_add_cancel]; exact fitV_yes ha.1 ha.2) (by rw [Int.sub_add_cancel]; exact fitE_yes ha.1 ha.2)), h.2⟩
  · exact .inr (fitE_no h)
theorem t_neg (a : Int) (ha : In a) : ∃ x e, Hid (T1 15 a x e) ∧ (e = 0 ∧ Hid (T1 15 x a 0) ∨ e = 30) := by
  refine ⟨_, _, Lib.hid fun w => neg_any a w ha, ?_⟩
  rcases fit_cases (-a) with h | h
  · refine .inl ⟨fitE_yes h.1 h.2, Lib.hid fun w => ?_⟩
    rw [fitV_yes h.1 h.2]
    exact (neg_any (-a) w h).mono fun _ _ h => ⟨h.1.trans (ret2 (by rw [Int.neg_neg]; exact fitV_yes ha.1 ha.2) (by rw [Int.neg_neg]; exact fitE_yes ha.1 ha.2)), h.2⟩
  · exact .inr (fitE_no h)
theorem t_mul (a b : Int) (ha : In a) (hb : In b) : ∃ x e, Hid (T2 13 a b x e) ∧ (e = 0 ∧ (b != 0) = true ∧ Hid (T2 17 x b a 0) ∧ Hid (T2 19 x b 0 0) ∨ e = 0 ∧ (b != 0) = false ∨ e = 30) := by
  refine ⟨_, _, Lib.hid fun w => mul_any a b w ha hb, ?_⟩
  rcases fit_cases (a * b) with h | h
  · by_cases h0 : b = 0
    · exact .inr (.inl ⟨fitE_yes h.1 h.2, by simpa using h0⟩)
    · refine .inl ⟨fitE_yes h.1 h.2, by simpa using h0, Lib.hid fun w => ?_, Lib.hid fun w => ?_⟩
      · rw [fitV_yes h.1 h.2]
        refine (div_any (a * b) b w h hb).mono fun _ _ h => ⟨h.1.trans (ret2 ?_ ?_), h.2⟩
        · unfold divV; rw [if_neg h0, Int.mul_tdiv_cancel _ h0, fitV_yes ha.1 ha.2]
        · unfold divE; rw [if_neg h0, Int.mul_tdiv_cancel _ h0, fitE_yes ha.1 ha.2]
      · rw [fitV_yes h.1 h.2]
        refine (rem_any (a * b) b w h hb).mono fun _ _ h => ⟨h.1.trans (ret2 ?_ ?_), h.2⟩
        · unfold remV; rw [if_neg h0, Int.mul_tmod_left]
        · unfold remE; rw [if_neg h0]
  · exact .inr (.inr (fitE_no h))
theorem parts_any (a b : Int) (w : World) (ha : In a) (hb : In b) : Calls Try.prog 28 #[.int .i64 a, .int .i64 b] w fun e w' => e = .returned (.bool true) ∧ w = w' := by
  by_cases h0 : b = 0
  · subst h0; exact parts_zero a w ha
  · by_cases h1 : a = -9223372036854775808 ∧ b = -1
    · exact parts_over a b w h1.1 h1.2
    · exact parts_some a b w ha hb h0 h1
theorem grown_of {w w' : World} (h : ∃ c t, w.alloc (.cells c t) = w') : Grown w w' := by
  obtain ⟨c, t, rfl⟩ := h; exact (Grown.refl w).alloc c t

set_option maxHeartbeats 8000000 in
theorem walk (a0 : Int) (a1 : Int) (w0 : (Lit.int .i64 a0).wf = true) (w1 : (Lit.int .i64 a1).wf = true) (w : World) :
    Calls Try.prog 6 #[.int .i64 a0, .int .i64 a1] w fun e w' => e = .returned (.bool true) ∧ Grown w w' := by
  have i0 := in_of_wf w0
  have i1 := in_of_wf w1
  clear w0 w1
  obtain ⟨x1, e1, K1, h1⟩ := t_add a0 a1 i0 i1
  obtain ⟨x2, e2, K2, h2⟩ := t_sub a0 a1 i0 i1
  obtain ⟨x3, e3, K3, h3⟩ := t_mul a0 a1 i0 i1
  obtain ⟨x4, e4, K4, h4⟩ := t_neg a0 i0
  have P := Lib.hid fun w => parts_any a0 a1 w i0 i1
  clear i0 i1
  rcases h1 with ⟨rfl, L1⟩ | rfl <;> rcases h2 with ⟨rfl, L2⟩ | rfl <;> rcases h4 with ⟨rfl, L4⟩ | rfl <;> rcases h3 with ⟨rfl, hb0, L3, L5⟩ | ⟨rfl, hb⟩ | rfl
  all_goals
    go_enter Try.func6, Try.ntmps6
    go_wp2_with (first
      | (go_at_call 27; refine (awake_any _).mono ?_; rintro e w' ⟨rfl, hg⟩; have G := Lib.hid (grown_of hg); clear hg)
      | (go_at_call 9; (with_reducible refine (K1.out _).mono ?_); rintro e w' ⟨rfl, rfl⟩)
      | (go_at_call 11; (with_reducible refine (L1.out _).mono ?_); rintro e w' ⟨rfl, rfl⟩)
      | (go_at_call 11; (with_reducible refine (K2.out _).mono ?_); rintro e w' ⟨rfl, rfl⟩)
      | (go_at_call 9; (with_reducible refine (L2.out _).mono ?_); rintro e w' ⟨rfl, rfl⟩)
      | (go_at_call 13; (with_reducible refine (K3.out _).mono ?_); rintro e w' ⟨rfl, rfl⟩)
      | (go_at_call 17; (with_reducible refine (L3.out _).mono ?_); rintro e w' ⟨rfl, rfl⟩)
      | (go_at_call 19; (with_reducible refine (L5.out _).mono ?_); rintro e w' ⟨rfl, rfl⟩)
      | (go_at_call 15; (with_reducible refine (K4.out _).mono ?_); rintro e w' ⟨rfl, rfl⟩)
      | (go_at_call 15; (with_reducible refine (L4.out _).mono ?_); rintro e w' ⟨rfl, rfl⟩)
      | (go_at_call 28; (with_reducible refine (P.out _).mono ?_); rintro e w' ⟨rfl, rfl⟩))
    go_ret
    exact ⟨rfl, G.out⟩

set_option maxRecDepth 100000 in
theorem lifted (os : Os) (started : os.Started) (H : Type) (enc : TypeId × Value → H) :
    ReturnsInHanded {} Try.checked os 6 .any (Rows.checkedBackSpec.pre6 enc Try.prog Try.f6 Rows.checkedBackRow.domain false) (Rows.checkedBackSpec.post enc Try.prog Try.f6 false true false false) := by
  refine returnsInHanded_of_change (C := Try.checked) own started (by kernel_rfl) Try.func6
    (ChangeSpec.witness6 (enc := enc) (C := Try.checked) false ⟨#[], #[.int .i64 0, .int .i64 0], []⟩ 8 (by kernel_rfl) (by kernel_rfl) (by kernel_rfl) (by kernel_rfl)) ?_
  intro W base args ds gs before hval0 hW hcnd _
  have hval : ∀ (j : Nat) t v, Try.f6.params[j]? = some t → args[j]? = some v → Value.okWide Try.prog W .any base t v := hval0
  have hW' := hW
  obtain ⟨p, q, hA0, hV, rfl, hfz, hnd⟩ := hW
  have hA : DataW.TrodAll enc Try.prog W 0 (fun _ => true) true Try.f6.params.toList args.toList ds p := hA0
  rw [Try.params6] at hA hval
  obtain ⟨v0, vs0, d0, ds0, p0, q0, hargs, rfl, rfl, h0, r0⟩ := trodAll_cons hA
  obtain ⟨v1, vs1, d1, ds1, p1, q1, rfl, rfl, rfl, h1, r1⟩ := trodAll_cons r0
  obtain ⟨rfl, rfl, rfl⟩ := trodAll_nil r1
  obtain rfl : args = #[v0, v1] := by cases args; simp_all
  obtain ⟨rfl, rfl⟩ := trodVars_none hV
  obtain ⟨a0, rfl, rfl, rfl, w0⟩ := open_int Try.underlying2 (hval 0 2 v0 rfl rfl) h0
  obtain ⟨a1, rfl, rfl, rfl, w1⟩ := open_int Try.underlying2 (hval 1 2 v1 rfl rfl) h1
  clear hA0 hval0
  simp only [List.append_nil] at hW'
  refine (walk a0 a1 w0 w1 W).mono fun e W' ⟨he, hg⟩ => ?_
  subst he
  exact ⟨_, rfl, post_of_same (pa := []) (pv := []) hW' (fun _ _ _ => (trodAll_cons_mk (shut_bool Try.underlying4 _) trodAll_mk0)) (fun sp _ => (trodAll_cons_mk (shut_int Try.underlying2 w0) (trodAll_cons_mk (shut_int Try.underlying2 w1) trodAll_mk0))) (fun _ _ => rfl) rfl
    (hg.frame _) hg.2.1 (ok_one (by kernel_rfl) rfl (okWide_bool_mk Try.underlying4 _))⟩

theorem over : Rows.checkedBackRow.holds Try.pinned (OpenSpec.ofChange Rows.checkedBackSpec) :=
  OpenClaim.holds_of_wide 6 Try.f6 rfl rfl rfl rfl rfl rfl rfl ⟨rfl, rfl, rfl, rfl, rfl⟩ rfl rfl rfl rfl rfl (by kernel_rfl) Try.func6 (by kernel_rfl)
    (of_decide_eq_true (by kernel_rfl)) (by unfold Func.isWrapper; first | (rw [if_pos (by decide +kernel)]; kernel_rfl) | (rw [if_neg (by decide +kernel)]; exact ⟨rfl, rfl⟩))
    (fun os started H enc _ => lifted os started H enc)

theorem proved : Rows.CheckedBackSaid :=
  over
#print axioms proved
end Go.Proofs.Ytdckenkomjikbaa.checkedBack
