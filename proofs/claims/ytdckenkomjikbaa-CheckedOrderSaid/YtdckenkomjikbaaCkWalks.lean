/- The calls of package checked on two numbers. -/
import Derived.Test.YtdckenkomjikbaaCkPlain
import Derived.Test.YtdckenkomjikbaaRows
import Derived.WalkKit
import Derived.ProofKit
import Derived.OpenShut
import Derived.IntWalk
import Derived.Outline
import Derived.Lib.Hide
namespace Go.Proofs.Ytdckenkomjikbaa
open Go.RowKit

/-- within 64 bits -/
abbrev In (a : Int) : Prop := -9223372036854775808 ≤ a ∧ a ≤ 9223372036854775807

theorem in_of_wf {a : Int} (h : (Lit.int .i64 a).wf = true) : In a := by
  have := bounds_i64 h
  unfold In; omega

theorem euclid_any (a n : Int) (w : World) (ha : In a) (hn : In n) :
    Calls Try.prog 25 #[.int .i64 a, .int .i64 n] w fun e w' => e = .returned (.tuple #[.int .i64 (eucV a n), .int .i64 (eucE n)]) ∧ w = w' := by
  obtain ⟨ha1, ha2⟩ := ha
  obtain ⟨hn1, hn2⟩ := hn
  by_cases h : n < 1
  · go_enter Try.func25, Try.ntmps25
    go_wp2
    go_ret2
    exact ⟨ret2 (eucV_no (by omega)).symm (eucE_no (by omega)).symm, rfl⟩
  · have bl := tmod_lo a n (by omega)
    have bu := tmod_hi a n (by omega)
    go_enter Try.func25, Try.ntmps25
    go_wp2
    · go_ret2
      exact ⟨ret2 (euc_neg (by omega) (by assumption)).symm (eucE_yes (by omega)).symm, rfl⟩
    · go_ret2
      exact ⟨ret2 (euc_pos (by omega) (by assumption)).symm (eucE_yes (by omega)).symm, rfl⟩

theorem add_any (a b : Int) (w : World) (ha : In a) (hb : In b) :
    Calls Try.prog 9 #[.int .i64 a, .int .i64 b] w fun e w' => e = .returned (.tuple #[.int .i64 (fitV (a + b)), .int .i64 (fitE (a + b))]) ∧ w = w' := by
  obtain ⟨ha1, ha2⟩ := ha
  obtain ⟨hb1, hb2⟩ := hb
  rcases fit_cases (a + b) with ⟨h1, h2⟩ | h | h
  · have t : (decide (a < a + b) == decide (0 < b)) = true := by simp; omega
    go_enter Try.func9, Try.ntmps9
    go_wp2
    go_ret2
    exact ⟨ret2 (fitV_yes h1 h2).symm (fitE_yes h1 h2).symm, rfl⟩
  · have e1 : wrap64 (a + b) = a + b + 18446744073709551616 := wrap64_down h (by omega)
    have t : (decide (a < wrap64 (a + b)) == decide (0 < b)) = false := by rw [e1]; simp; omega
    clear e1
    go_enter Try.func9, Try.ntmps9
    go_wp2
    go_ret2
    exact ⟨ret2 (fitV_no (.inl h)).symm (fitE_no (.inl h)).symm, rfl⟩
  · have e1 : wrap64 (a + b) = a + b - 18446744073709551616 := wrap64_up h (by omega)
    have t : (decide (a < wrap64 (a + b)) == decide (0 < b)) = false := by rw [e1]; simp; omega
    clear e1
    go_enter Try.func9, Try.ntmps9
    go_wp2
    go_ret2
    exact ⟨ret2 (fitV_no (.inr h)).symm (fitE_no (.inr h)).symm, rfl⟩

theorem sub_any (a b : Int) (w : World) (ha : In a) (hb : In b) :
    Calls Try.prog 11 #[.int .i64 a, .int .i64 b] w fun e w' => e = .returned (.tuple #[.int .i64 (fitV (a - b)), .int .i64 (fitE (a - b))]) ∧ w = w' := by
  obtain ⟨ha1, ha2⟩ := ha
  obtain ⟨hb1, hb2⟩ := hb
  rcases fit_cases (a - b) with ⟨h1, h2⟩ | h | h
  · have t : (decide (a - b < a) == decide (0 < b)) = true := by simp; omega
    go_enter Try.func11, Try.ntmps11
    go_wp2
    go_ret2
    exact ⟨ret2 (fitV_yes h1 h2).symm (fitE_yes h1 h2).symm, rfl⟩
  · have e1 : wrap64 (a - b) = a - b + 18446744073709551616 := wrap64_down h (by omega)
    have t : (decide (wrap64 (a - b) < a) == decide (0 < b)) = false := by rw [e1]; simp; omega
    clear e1
    go_enter Try.func11, Try.ntmps11
    go_wp2
    go_ret2
    exact ⟨ret2 (fitV_no (.inl h)).symm (fitE_no (.inl h)).symm, rfl⟩
  · have e1 : wrap64 (a - b) = a - b - 18446744073709551616 := wrap64_up h (by omega)
    have t : (decide (wrap64 (a - b) < a) == decide (0 < b)) = false := by rw [e1]; simp; omega
    clear e1
    go_enter Try.func11, Try.ntmps11
    go_wp2
    go_ret2
    exact ⟨ret2 (fitV_no (.inr h)).symm (fitE_no (.inr h)).symm, rfl⟩

theorem neg_any (a : Int) (w : World) (ha : In a) :
    Calls Try.prog 15 #[.int .i64 a] w fun e w' => e = .returned (.tuple #[.int .i64 (fitV (-a)), .int .i64 (fitE (-a))]) ∧ w = w' := by
  have k := fun w => sub_any 0 a w (by unfold In; omega) ha
  rw [Int.zero_sub] at k
  go_enter Try.func15, Try.ntmps15
  go_wp2_with (go_at_call 11; refine (k _).mono ?_; rintro e w' ⟨rfl, rfl⟩)
  go_ret2
  exact ⟨rfl, rfl⟩

theorem ret3 {k k2 : IntKind} {a b c d : Int} {x y : Bool} (h : a = c) (h2 : b = d) (h3 : x = y) : Ending.returned (.tuple #[.int k a, .int k2 b, .bool x]) = .returned (.tuple #[.int k c, .int k2 d, .bool y]) := by rw [h, h2, h3]
theorem u64_less {a : Int} (h : a < 0) (h2 : -9223372036854775808 ≤ a) : IntKind.u64.wrap (-(a + 18446744073709551616)) = -a := by
  simp [IntKind.wrap, IntKind.bits, IntKind.signed]; omega

theorem apart_any (a b : Int) (w : World) (ha : In a) (hb : In b) :
    Calls Try.prog 34 #[.int .i64 a, .int .i64 b] w fun e w' => e = .returned (.tuple #[.int .u64 (a.natAbs : Int), .int .u64 (b.natAbs : Int), .bool (unlike a b)]) ∧ w = w' := by
  obtain ⟨ha1, ha2⟩ := ha
  obtain ⟨hb1, hb2⟩ := hb
  by_cases h : a < 0 <;> by_cases h2 : b < 0
  · have e1 := u64_neg h ha1
    have e2 := u64_neg h2 hb1
    have e3 := u64_less h ha1
    have e4 := u64_less h2 hb1
    have U : Hid (unlike a b = false) := Lib.hid (by simp [unlike, h, h2])
    go_enter Try.func34, Try.ntmps34
    go_wp2
    go_ret3
    exact ⟨ret3 (by omega) (by omega) U.out.symm, rfl⟩
  · have e1 := u64_neg h ha1
    have e3 := u64_less h ha1
    have U : Hid (unlike a b = true) := Lib.hid (by simp [unlike, h, h2])
    go_enter Try.func34, Try.ntmps34
    go_wp2
    go_ret3
    exact ⟨ret3 (by omega) (by omega) U.out.symm, rfl⟩
  · have e2 := u64_neg h2 hb1
    have e4 := u64_less h2 hb1
    have U : Hid (unlike a b = true) := Lib.hid (by simp [unlike, h, h2])
    go_enter Try.func34, Try.ntmps34
    go_wp2
    go_ret3
    exact ⟨ret3 (by omega) (by omega) U.out.symm, rfl⟩
  · have U : Hid (unlike a b = false) := Lib.hid (by simp [unlike, h, h2])
    go_enter Try.func34, Try.ntmps34
    go_wp2
    go_ret3
    exact ⟨ret3 (by omega) (by omega) U.out.symm, rfl⟩

theorem i64_of_neg {x : Int} (h : 0 ≤ x) (h2 : x ≤ 9223372036854775808) : wrap64 (IntKind.u64.wrap (-x)) = -x := by
  simp [IntKind.wrap, IntKind.bits, IntKind.signed]; unfold wrap64; omega

theorem together_int (x : Int) (m : Bool) (w : World) (h0 : 0 ≤ x) (hs : x < 18446744073709551616) :
    Calls Try.prog 36 #[.int .u64 x, .bool m] w fun e w' => e = .returned (.tuple #[.int .i64 (fitV (signed m x.toNat)), .int .i64 (fitE (signed m x.toNat))]) ∧ w = w' := by
  cases m
  · by_cases h : x < 9223372036854775808
    · have t1 : decide (x < 9223372036854775808) = true := by simpa using h
      have V : Hid (fitV (signed false x.toNat) = x) := Lib.hid (by rw [show signed false x.toNat = x from by simp [signed]; omega]; exact fitV_yes (by omega) (by omega))
      have E : Hid (fitE (signed false x.toNat) = 0) := Lib.hid (by rw [show signed false x.toNat = x from by simp [signed]; omega]; exact fitE_yes (by omega) (by omega))
      have h9 : x ≤ 9223372036854775807 := by omega
      clear h hs
      go_enter Try.func36, Try.ntmps36
      go_wp2
      go_ret2
      exact ⟨ret2 V.out.symm E.out.symm, rfl⟩
    · have t1 : decide (x < 9223372036854775808) = false := by simpa using h
      have V : Hid (fitV (signed false x.toNat) = 0) := Lib.hid (by rw [show signed false x.toNat = x from by simp [signed]; omega]; exact fitV_no (by omega))
      have E : Hid (fitE (signed false x.toNat) = 30) := Lib.hid (by rw [show signed false x.toNat = x from by simp [signed]; omega]; exact fitE_no (by omega))
      clear h hs
      go_enter Try.func36, Try.ntmps36
      go_wp2
      go_ret2
      exact ⟨ret2 V.out.symm E.out.symm, rfl⟩
  · by_cases h : x ≤ 9223372036854775808
    · have t1 : decide (x ≤ 9223372036854775808) = true := by simpa using h
      have V : Hid (fitV (signed true x.toNat) = -x) := Lib.hid (by rw [show signed true x.toNat = -x from by simp [signed]; omega]; exact fitV_yes (by omega) (by omega))
      have E : Hid (fitE (signed true x.toNat) = 0) := Lib.hid (by rw [show signed true x.toNat = -x from by simp [signed]; omega]; exact fitE_yes (by omega) (by omega))
      have e5 := Lib.hid (i64_of_neg h0 h)
      clear h hs
      go_enter Try.func36, Try.ntmps36
      go_wp2
      go_ret2
      exact ⟨ret2 (e5.out.trans V.out.symm) E.out.symm, rfl⟩
    · have t1 : decide (x ≤ 9223372036854775808) = false := by simpa using h
      have V : Hid (fitV (signed true x.toNat) = 0) := Lib.hid (by rw [show signed true x.toNat = -x from by simp [signed]; omega]; exact fitV_no (by omega))
      have E : Hid (fitE (signed true x.toNat) = 30) := Lib.hid (by rw [show signed true x.toNat = -x from by simp [signed]; omega]; exact fitE_no (by omega))
      clear h hs
      go_enter Try.func36, Try.ntmps36
      go_wp2
      go_ret2
      exact ⟨ret2 V.out.symm E.out.symm, rfl⟩

theorem together_any (s : Nat) (m : Bool) (w : World) (hs : s < 18446744073709551616) :
    Calls Try.prog 36 #[.int .u64 s, .bool m] w fun e w' => e = .returned (.tuple #[.int .i64 (fitV (signed m s)), .int .i64 (fitE (signed m s))]) ∧ w = w' :=
  together_int s m w (by omega) (by omega)

theorem natAbs_lt {a : Int} (h : In a) : a.natAbs < 18446744073709551616 := by omega
theorem div_any (a b : Int) (w : World) (ha : In a) (hb : In b) :
    Calls Try.prog 17 #[.int .i64 a, .int .i64 b] w fun e w' => e = .returned (.tuple #[.int .i64 (divV a b), .int .i64 (divE a b)]) ∧ w = w' := by
  by_cases h : b = 0
  · subst h
    go_enter Try.func17, Try.ntmps17
    go_wp2
    go_ret2
    exact ⟨rfl, rfl⟩
  · have t1 : (b == 0) = false := by simpa using h
    have M : Hid (a.tdiv b = signed (unlike a b) (a.natAbs / b.natAbs)) := Lib.hid (div_signed a b)
    have V : Hid (divV a b = fitV (a.tdiv b)) := Lib.hid (by unfold divV; rw [if_neg h])
    have E : Hid (divE a b = fitE (a.tdiv b)) := Lib.hid (by unfold divE; rw [if_neg h])
    have hb0 : 0 < b.natAbs := by omega
    have hq : a.natAbs / b.natAbs < 18446744073709551616 := Nat.lt_of_le_of_lt (Nat.div_le_self _ _) (natAbs_lt ha)
    have W : Hid (IntKind.u64.wrap ((a.natAbs : Int) / (b.natAbs : Int)) = ((a.natAbs / b.natAbs : Nat) : Int)) := Lib.hid (by
      rw [show (a.natAbs : Int) / (b.natAbs : Int) = ((a.natAbs / b.natAbs : Nat) : Int) from rfl, IntKind.wrap_u64]
      revert hq; generalize a.natAbs / b.natAbs = q; omega)
    clear h
    go_enter Try.func17, Try.ntmps17
    go_wp2_with (first
      | (go_at_call 34; refine (apart_any a b _ ha hb).mono ?_; rintro e w' ⟨rfl, rfl⟩)
      | (go_at_call 36; rw [W.out]; refine (together_any (a.natAbs / b.natAbs) (unlike a b) _ hq).mono ?_; rintro e w' ⟨rfl, rfl⟩))
    go_ret2
    exact ⟨ret2 (by rw [V.out, M.out]) (by rw [E.out, M.out]), rfl⟩

theorem signed_in {a : Int} (h : In a) (s : Nat) (m : Bool) (hs : s ≤ a.natAbs) (hm : m = decide (a < 0)) : In (signed m s) := by
  subst hm
  unfold signed In
  by_cases h : a < 0 <;> simp [h] <;> omega

theorem rem_any (a b : Int) (w : World) (ha : In a) (hb : In b) :
    Calls Try.prog 19 #[.int .i64 a, .int .i64 b] w fun e w' => e = .returned (.tuple #[.int .i64 (remV a b), .int .i64 (remE b)]) ∧ w = w' := by
  by_cases h : b = 0
  · subst h
    go_enter Try.func19, Try.ntmps19
    go_wp2
    go_ret2
    exact ⟨rfl, rfl⟩
  · have t1 : (b == 0) = false := by simpa using h
    have I := signed_in ha (a.natAbs % b.natAbs) _ (Nat.mod_le _ _) rfl
    have V : Hid (remV a b = fitV (signed (decide (a < 0)) (a.natAbs % b.natAbs))) := Lib.hid (by unfold remV; rw [if_neg h, rem_signed, fitV_yes I.1 I.2])
    have E : Hid (remE b = fitE (signed (decide (a < 0)) (a.natAbs % b.natAbs))) := Lib.hid (by unfold remE; rw [if_neg h, fitE_yes I.1 I.2])
    have hb0 : 0 < b.natAbs := by omega
    have hq : a.natAbs % b.natAbs < 18446744073709551616 := Nat.lt_of_le_of_lt (Nat.mod_le _ _) (natAbs_lt ha)
    clear h I
    go_enter Try.func19, Try.ntmps19
    go_wp2_with (first
      | (go_at_call 34; refine (apart_any a b _ ha hb).mono ?_; rintro e w' ⟨rfl, rfl⟩)
      | (go_at_call 36; refine (together_any (a.natAbs % b.natAbs) (decide (a < 0)) _ hq).mono ?_; rintro e w' ⟨rfl, rfl⟩))
    go_ret2
    exact ⟨ret2 V.out.symm E.out.symm, rfl⟩

theorem euclid_ref (a n : Int) (w : World) (ha : In a) (hn : In n) :
    Calls Try.prog 26 #[.int .i64 a, .int .i64 n] w fun e w' => e = .returned (.tuple #[.int .i64 (eucV a n), .int .i64 (eucE n)]) ∧ w = w' := by
  obtain ⟨ha1, ha2⟩ := ha
  obtain ⟨hn1, hn2⟩ := hn
  by_cases h : n < 1
  · go_enter Try.func26, Try.ntmps26
    go_wp2
    go_ret2
    exact ⟨ret2 (eucV_no (by omega)).symm (eucE_no (by omega)).symm, rfl⟩
  · by_cases h2 : 0 ≤ a
    · go_enter Try.func26, Try.ntmps26
      go_wp2
      go_ret2
      exact ⟨ret2 (eucV_yes (by omega)).symm (eucE_yes (by omega)).symm, rfl⟩
    · have b1 := Int.emod_nonneg (-(a + 1)) (by omega : n ≠ 0)
      have b2 := Int.emod_lt_of_pos (-(a + 1)) (by omega : 0 < n)
      have E : Hid (eucV a n = n - 1 - -(a + 1) % n) := Lib.hid (by
        rw [eucV_yes (by omega)]
        refine emod_of (-(-(a + 1) / n) - 1) (by omega) (by omega) ?_
        have := Int.emod_add_mul_ediv (-(a + 1)) n
        rw [Int.mul_sub, Int.mul_neg]; omega)
      have W : Hid (wrap64 (n - 1 + (a + 1).tmod n) = n - 1 - -(a + 1) % n) := Lib.hid (by
        have e : (a + 1).tmod n = -(-(a + 1) % n) := by
          rw [← Int.tmod_eq_emod_of_nonneg (by omega : 0 ≤ -(a + 1)), Int.neg_tmod]; omega
        rw [e]
        have := IntWalk.wrap64_in (n - 1 + -(-(a + 1) % n)) (by omega)
        rw [this]; omega)
      go_enter Try.func26, Try.ntmps26
      go_wp2
      go_ret2
      exact ⟨ret2 (W.out.trans E.out.symm) (eucE_yes (by omega)).symm, rfl⟩
end Go.Proofs.Ytdckenkomjikbaa
