/- The reference's quotient and remainder. -/
import Derived.Test.YtdckenkomjikbaaCkRef
namespace Go.Proofs.Ytdckenkomjikbaa
open Go.RowKit
set_option maxRecDepth 100000

theorem refdiv_any (a b : Int) (w : World) (ha : In a) (hb : In b) :
    Calls Try.prog 18 #[.int .i64 a, .int .i64 b] w fun e w' => e = .returned (.tuple #[.int .i64 (divV a b), .int .i64 (divE a b)]) ∧ w = w' := by
  by_cases h : b = 0
  · subst h
    go_enter Try.func18, Try.ntmps18
    go_wp2
    go_ret2
    exact ⟨rfl, rfl⟩
  · have t1 : (b == 0) = false := by simpa using h
    have hb0 : 0 < b.natAbs := by omega
    have V : divV a b = fitV (signed (unlike a b) (a.natAbs / b.natAbs)) := by unfold divV; rw [if_neg h, div_signed]
    have E : divE a b = fitE (signed (unlike a b) (a.natAbs / b.natAbs)) := by unfold divE; rw [if_neg h, div_signed]
    obtain ⟨q, hq⟩ : ∃ q, q = a.natAbs / b.natAbs := ⟨_, rfl⟩
    rw [← hq] at V E
    have hqm : q ≤ 9223372036854775808 := by
      rw [hq]; refine Nat.le_trans (Nat.div_le_self _ _) ?_; obtain ⟨_, _⟩ := ha; omega
    have W : IntKind.u64.wrap ((a.natAbs : Int) / (b.natAbs : Int)) = (q : Int) := by
      rw [show (a.natAbs : Int) / (b.natAbs : Int) = ((a.natAbs / b.natAbs : Nat) : Int) from rfl, ← hq, IntKind.wrap_u64]; omega
    have K1 := Lib.hid fun w => far_any a w ha
    have K2 := Lib.hid fun w => far_any b w hb
    have V := Lib.hid V
    have E := Lib.hid E
    clear hq h ha hb
    by_cases hu : unlike a b = true
    · have t2 : (decide (a < 0) == decide (b < 0)) = false := by unfold unlike at hu; revert hu; cases decide (a < 0) <;> cases decide (b < 0) <;> simp
      have V2 : Hid (divV a b = -(q : Int)) := Lib.hid (by rw [V.out, hu]; unfold signed; rw [if_pos rfl]; exact fitV_yes (by omega) (by omega))
      have E2 : Hid (divE a b = 0) := Lib.hid (by rw [E.out, hu]; unfold signed; rw [if_pos rfl]; exact fitE_yes (by omega) (by omega))
      have Z := Lib.hid (i64_of_neg (x := (q : Int)) (by omega) (by omega))
      clear hu hqm
      go_enter Try.func18, Try.ntmps18
      go_wp2_with (first
        | (go_at_call 38; (with_reducible refine (K1.out _).mono ?_); rintro e w' ⟨rfl, rfl⟩)
        | (go_at_call 38; (with_reducible refine (K2.out _).mono ?_); rintro e w' ⟨rfl, rfl⟩))
      go_ret2
      exact ⟨ret2 (Z.out.trans V2.out.symm) E2.out.symm, rfl⟩
    · have hu : unlike a b = false := by simpa using hu
      have t2 : (decide (a < 0) == decide (b < 0)) = true := by unfold unlike at hu; revert hu; cases decide (a < 0) <;> cases decide (b < 0) <;> simp
      by_cases hbig : q ≤ 9223372036854775807
      · have V2 : Hid (divV a b = (q : Int)) := Lib.hid (by rw [V.out, hu]; unfold signed; rw [if_neg (by decide)]; exact fitV_yes (by omega) (by omega))
        have E2 : Hid (divE a b = 0) := Lib.hid (by rw [E.out, hu]; unfold signed; rw [if_neg (by decide)]; exact fitE_yes (by omega) (by omega))
        have t3 : decide ((9223372036854775807 : Int) < (q : Int)) = false := decide_eq_false (by omega)
        have t4 : decide (9223372036854775807 < q) = false := decide_eq_false (by omega)
        have Z := Lib.hid (IntWalk.wrap64_in (q : Int) (by omega))
        clear hu hqm hbig
        go_enter Try.func18, Try.ntmps18
        go_wp2_with (first
          | (go_at_call 38; (with_reducible refine (K1.out _).mono ?_); rintro e w' ⟨rfl, rfl⟩)
          | (go_at_call 38; (with_reducible refine (K2.out _).mono ?_); rintro e w' ⟨rfl, rfl⟩))
        go_ret2
        exact ⟨ret2 (Z.out.trans V2.out.symm) E2.out.symm, rfl⟩
      · have V2 : Hid (divV a b = 0) := Lib.hid (by rw [V.out, hu]; unfold signed; rw [if_neg (by decide)]; exact fitV_no (by omega))
        have E2 : Hid (divE a b = 30) := Lib.hid (by rw [E.out, hu]; unfold signed; rw [if_neg (by decide)]; exact fitE_no (by omega))
        have t3 : decide ((9223372036854775807 : Int) < (q : Int)) = true := decide_eq_true (by omega)
        have t4 : decide (9223372036854775807 < q) = true := decide_eq_true (by omega)
        clear hu hqm hbig
        go_enter Try.func18, Try.ntmps18
        go_wp2_with (first
          | (go_at_call 38; (with_reducible refine (K1.out _).mono ?_); rintro e w' ⟨rfl, rfl⟩)
          | (go_at_call 38; (with_reducible refine (K2.out _).mono ?_); rintro e w' ⟨rfl, rfl⟩))
        go_ret2
        exact ⟨ret2 V2.out.symm E2.out.symm, rfl⟩

theorem refrem_any (a b : Int) (w : World) (ha : In a) (hb : In b) :
    Calls Try.prog 20 #[.int .i64 a, .int .i64 b] w fun e w' => e = .returned (.tuple #[.int .i64 (remV a b), .int .i64 (remE b)]) ∧ w = w' := by
  by_cases h : b = 0
  · subst h
    go_enter Try.func20, Try.ntmps20
    go_wp2
    go_ret2
    exact ⟨rfl, rfl⟩
  · have t1 : (b == 0) = false := by simpa using h
    have hb0 : 0 < b.natAbs := by omega
    have V : remV a b = signed (decide (a < 0)) (a.natAbs % b.natAbs) := by unfold remV; rw [if_neg h, rem_signed]
    have E : Hid (remE b = 0) := Lib.hid (by unfold remE; rw [if_neg h])
    obtain ⟨q, hq⟩ : ∃ q, q = a.natAbs % b.natAbs := ⟨_, rfl⟩
    rw [← hq] at V
    have hqm : q ≤ 9223372036854775807 := by
      have := Nat.mod_lt a.natAbs hb0
      rw [hq]; obtain ⟨_, _⟩ := hb; omega
    have W : (a.natAbs : Int) % (b.natAbs : Int) = (q : Int) := by
      rw [show (a.natAbs : Int) % (b.natAbs : Int) = ((a.natAbs % b.natAbs : Nat) : Int) from rfl, ← hq]
    have W2 : IntKind.u64.wrap (q : Int) = (q : Int) := by rw [IntKind.wrap_u64]; omega
    have K1 := Lib.hid fun w => far_any a w ha
    have K2 := Lib.hid fun w => far_any b w hb
    have V := Lib.hid V
    clear hq h ha hb
    by_cases hu : a < 0
    · have V2 : Hid (remV a b = -(q : Int)) := Lib.hid (by rw [V.out, decide_eq_true hu]; rfl)
      have Z := Lib.hid (i64_of_neg (x := (q : Int)) (by omega) (by omega))
      clear hqm
      go_enter Try.func20, Try.ntmps20
      go_wp2_with (first
        | (go_at_call 38; (with_reducible refine (K1.out _).mono ?_); rintro e w' ⟨rfl, rfl⟩)
        | (go_at_call 38; (with_reducible refine (K2.out _).mono ?_); rintro e w' ⟨rfl, rfl⟩))
      go_ret2
      first | exact ⟨ret2 (Z.out.trans V2.out.symm) E.out.symm, rfl⟩ | exact ⟨ret2 V2.out.symm E.out.symm, rfl⟩
    · have V2 : Hid (remV a b = (q : Int)) := Lib.hid (by rw [V.out, decide_eq_false hu]; rfl)
      have Z := Lib.hid (IntWalk.wrap64_in (q : Int) (by omega))
      clear hqm
      go_enter Try.func20, Try.ntmps20
      go_wp2_with (first
        | (go_at_call 38; (with_reducible refine (K1.out _).mono ?_); rintro e w' ⟨rfl, rfl⟩)
        | (go_at_call 38; (with_reducible refine (K2.out _).mono ?_); rintro e w' ⟨rfl, rfl⟩))
      go_ret2
      first | exact ⟨ret2 (Z.out.trans V2.out.symm) E.out.symm, rfl⟩ | exact ⟨ret2 V2.out.symm E.out.symm, rfl⟩
end Go.Proofs.Ytdckenkomjikbaa
