/- Masks: the calls that exist in every seat: both, either, the first alone, has, in, meets. -/
import Derived.Test.YtngfopnefmknoaaDoorMkPlain
import Derived.Laws.Bits64b
set_option linter.all false
namespace Go.Proofs.YtngfopnefmknoaaDoor
open Go.RowKit
set_option maxRecDepth 100000
theorem bits_not_u64 (a b : Nat) (ha : Wd a) (hb : Wd b) : bits .andNot .u64 (a : Int) (b : Int) = ((lessM a b : Nat) : Int) := by
  have hx : lessM a b < 2 ^ 64 := wd_less b ha
  have h1 : (BitVec.ofInt 64 (a : Int)).toNat = a := by
    rw [BitVec.ofInt_natCast, BitVec.toNat_ofNat]; exact Nat.mod_eq_of_lt ha
  have h2 : (BitVec.ofInt 64 (b : Int)).toNat = b := by
    rw [BitVec.ofInt_natCast, BitVec.toNat_ofNat]; exact Nat.mod_eq_of_lt hb
  have h3 : (BitVec.ofInt 64 (a : Int) &&& ~~~BitVec.ofInt 64 (b : Int)).toNat = lessM a b := by
    apply Nat.eq_of_testBit_eq
    intro j
    rw [less_bit, BitVec.testBit_toNat, BitVec.getLsbD_and, BitVec.getLsbD_not, ← BitVec.testBit_toNat, ← BitVec.testBit_toNat, h1, h2]
    rcases Nat.lt_or_ge j 64 with h | h
    · rw [decide_eq_true h, Bool.true_and]
    · rw [wd_high ha h, Bool.false_and, Bool.false_and]
  show IntKind.u64.wrap ((BitVec.ofInt 64 (a : Int) &&& ~~~BitVec.ofInt 64 (b : Int)).toNat : Int) = _
  rw [h3, IntKind.wrap_u64]
  omega
theorem and_any {a b : Nat} (ha : Wd a) (hb : Wd b) (w : World) : Calls Tryd.prog 32 #[.int .u64 (a : Int), .int .u64 (b : Int)] w fun e w' => e = .returned (.int .u64 ((a &&& b : Nat) : Int)) ∧ w = w' := by
  have h := bits_and_u64_nat a b ha hb
  go_enter Tryd.func32, Tryd.ntmps32
  go_wp2
  go_ret
  exact ⟨rfl, rfl⟩
theorem or_any {a b : Nat} (ha : Wd a) (hb : Wd b) (w : World) : Calls Tryd.prog 33 #[.int .u64 (a : Int), .int .u64 (b : Int)] w fun e w' => e = .returned (.int .u64 ((a ||| b : Nat) : Int)) ∧ w = w' := by
  have h := bits_or_u64_nat a b ha hb
  go_enter Tryd.func33, Tryd.ntmps33
  go_wp2
  go_ret
  exact ⟨rfl, rfl⟩
theorem less_any {a b : Nat} (ha : Wd a) (hb : Wd b) (w : World) : Calls Tryd.prog 31 #[.int .u64 (a : Int), .int .u64 (b : Int)] w fun e w' => e = .returned (.int .u64 ((lessM a b : Nat) : Int)) ∧ w = w' := by
  have h := bits_not_u64 a b ha hb
  go_enter Tryd.func31, Tryd.ntmps31
  go_wp2
  go_ret
  exact ⟨rfl, rfl⟩
theorem only_any (i : Int) (hi : In i) (w : World) : Calls Tryd.prog 39 #[.int .i64 i] w fun e w' => e = .returned (.int .u64 ((onlyM i : Nat) : Int)) ∧ w = w' := by
  by_cases h0 : i < 0
  · have e : onlyM i = 0 := by unfold onlyM; rw [if_neg (by omega)]
    rw [e]
    go_enter Tryd.func39, Tryd.ntmps39
    go_wp2
    go_ret
    exact ⟨rfl, rfl⟩
  · by_cases h1 : 64 ≤ i
    · have e : onlyM i = 0 := by unfold onlyM; rw [if_neg (by omega)]
      rw [e]
      go_enter Tryd.func39, Tryd.ntmps39
      go_wp2
      go_ret
      exact ⟨rfl, rfl⟩
    · have h2 : 0 ≤ i := by omega
      have hb := wd_only i
      have e : IntKind.u64.wrap (2 ^ i.toNat) = ((onlyM i : Nat) : Int) := by
        unfold onlyM at hb ⊢
        rw [if_pos (by omega)] at hb ⊢
        rw [IntKind.wrap_u64, Int.natCast_pow]
        have : ((2 ^ i.toNat : Nat) : Int) < 18446744073709551616 := by unfold Wd at hb; omega
        rw [Int.natCast_pow] at this
        exact Int.emod_eq_of_lt (by exact Int.le_of_lt (Int.pow_pos (by decide))) this
      clear hb
      generalize onlyM i = om at e
      go_enter Tryd.func39, Tryd.ntmps39
      go_wp2
      go_ret
      exact ⟨rfl, rfl⟩
theorem meets_any {a b : Nat} (ha : Wd a) (hb : Wd b) (w : World) : Calls Tryd.prog 34 #[.int .u64 (a : Int), .int .u64 (b : Int)] w fun e w' => e = .returned (.bool (a &&& b != 0)) ∧ w = w' := by
  have H := Lib.hid (and_any ha hb w)
  have e : (((a &&& b : Nat) : Int) != 0) = (a &&& b != 0) := by
    rw [Bool.eq_iff_iff, bne_iff_ne, bne_iff_ne]; omega
  go_enter Tryd.func34, Tryd.ntmps34
  go_wp2_with (go_at_call 32; (with_reducible refine H.out.mono ?_); rintro e w' ⟨rfl, rfl⟩)
  go_ret
  exact ⟨rfl, rfl⟩
theorem in_any {a b : Nat} (ha : Wd a) (hb : Wd b) (w : World) : Calls Tryd.prog 35 #[.int .u64 (a : Int), .int .u64 (b : Int)] w fun e w' => e = .returned (.bool (lessM a b == 0)) ∧ w = w' := by
  have H := Lib.hid (less_any ha hb w)
  have e : (((lessM a b : Nat) : Int) == 0) = (lessM a b == 0) := by
    rw [Bool.eq_iff_iff, beq_iff_eq, beq_iff_eq]; omega
  go_enter Tryd.func35, Tryd.ntmps35
  go_wp2_with (go_at_call 31; (with_reducible refine H.out.mono ?_); rintro e w' ⟨rfl, rfl⟩)
  go_ret
  exact ⟨rfl, rfl⟩
theorem meets_only {m : Nat} (i : Int) : (m &&& onlyM i != 0) = hasF m.testBit i := by
  unfold hasF
  rw [Bool.eq_iff_iff, bne_iff_ne]
  constructor
  · intro h
    obtain ⟨j, hj⟩ := Nat.exists_testBit_of_ne_zero h
    rw [Nat.testBit_and, only_bit, Bool.and_eq_true, decide_eq_true_eq] at hj
    obtain ⟨h1, rfl, h2⟩ := hj
    rw [decide_eq_true (by omega), Int.toNat_natCast, h1]
    rfl
  · intro h e
    rw [Bool.and_eq_true, decide_eq_true_eq] at h
    have h2 : (m &&& onlyM i).testBit i.toNat = true := by
      rw [Nat.testBit_and, only_bit, h.2, decide_eq_true (by omega)]
      rfl
    rw [e, Nat.zero_testBit] at h2
    cases h2
theorem has_any {m : Nat} (hm : Wd m) (i : Int) (hi : In i) (w : World) : Calls Tryd.prog 13 #[.int .u64 (m : Int), .int .i64 i] w fun e w' => e = .returned (.bool (hasF m.testBit i)) ∧ w = w' := by
  have H1 := Lib.hid (only_any i hi w)
  have H2 := Lib.hid (meets_any hm (wd_only i) w)
  rw [meets_only i] at H2
  go_enter Tryd.func13, Tryd.ntmps13
  go_wp2_with (first
    | (go_at_call 39; (with_reducible refine H1.out.mono ?_); rintro e w' ⟨rfl, rfl⟩)
    | (go_at_call 34; (with_reducible refine H2.out.mono ?_); rintro e w' ⟨rfl, rfl⟩))
  go_ret
  exact ⟨rfl, rfl⟩
end Go.Proofs.YtngfopnefmknoaaDoor
