/- Masks: the subsets of a word, rising. -/
import Derived.Test.YtngfopnefmknoaaDoorMkPlain
set_option linter.all false
namespace Go.Proofs.YtngfopnefmknoaaDoor
open Go.RowKit
set_option maxRecDepth 100000
/-- k's bits, laid where m has some -/
def depM : Nat → Nat → Nat → Nat
  | 0, _, _ => 0
  | n + 1, m, k => if m % 2 = 1 then k % 2 + 2 * depM n (m / 2) (k / 2) else 2 * depM n (m / 2) k
theorem dep_lt : ∀ n m k, depM n m k < 2 ^ n
  | 0, _, _ => Nat.one_pos
  | n + 1, m, k => by
    rw [depM, Nat.pow_succ]
    split
    · have := dep_lt n (m / 2) (k / 2); omega
    · have := dep_lt n (m / 2) k; omega
theorem bit_cons0 (b x : Nat) (hb : b < 2) : (b + 2 * x).testBit 0 = decide (b = 1) := by
  rw [Nat.testBit_zero]
  exact decide_eq_decide.2 (by omega)
theorem bit_cons1 (b x j : Nat) (hb : b < 2) : (b + 2 * x).testBit (j + 1) = x.testBit j := by
  rw [Nat.testBit_succ, show (b + 2 * x) / 2 = x by omega]
theorem cnt_half (m : Nat) (i : Nat) : cntF m.testBit (i + 1) = m % 2 + cntF (m / 2).testBit i := by
  rw [Nat.add_comm i 1, cntF_add]
  congr 1
  · simp only [cntF, Nat.testBit_zero]
    rcases Nat.mod_two_eq_zero_or_one m with h | h <;> rw [h] <;> rfl
  · exact cntF_ext i fun j _ => by rw [Nat.add_comm 1 j, Nat.testBit_succ]
theorem dep_bit : ∀ n m k j, (depM n m k).testBit j = (decide (j < n) && (m.testBit j && k.testBit (cntF m.testBit j)))
  | 0, m, k, j => by simp [depM]
  | n + 1, m, k, 0 => by
    rw [depM]
    simp only [Nat.testBit_zero, cntF, decide_eq_true (Nat.succ_pos n), Bool.true_and]
    split
    · rename_i h
      rw [decide_eq_true h, Bool.true_and]
      exact decide_eq_decide.2 (by omega)
    · rename_i h
      rw [decide_eq_false h, Bool.false_and, decide_eq_false_iff_not]
      omega
  | n + 1, m, k, j + 1 => by
    have e : decide (j + 1 < n + 1) = decide (j < n) := decide_eq_decide.2 (by omega)
    rw [depM, e, Nat.testBit_succ m j, cnt_half]
    split
    · rename_i h
      rw [bit_cons1 _ _ _ (by omega), dep_bit n, h, Nat.add_comm 1, Nat.testBit_succ k]
    · rename_i h
      rw [Nat.testBit_succ, show 2 * depM n (m / 2) k / 2 = depM n (m / 2) k by omega, dep_bit n, show m % 2 = 0 by omega, Nat.zero_add]
/-- the k-th subset -/
def subM (m k : Nat) : Nat := depM 64 m k
theorem wd_sub (m k : Nat) : Wd (subM m k) := dep_lt 64 m k
theorem sub_bit (m k j : Nat) (hj : j < 64) : (subM m k).testBit j = (m.testBit j && k.testBit (cntF m.testBit j)) := by
  unfold subM
  rw [dep_bit, decide_eq_true hj, Bool.true_and]
theorem and_cons (b c x y : Nat) (hb : b < 2) (hc : c < 2) : (b + 2 * x) &&& (c + 2 * y) = (b &&& c) + 2 * (x &&& y) := by
  apply Nat.eq_of_testBit_eq
  intro j
  have h : b &&& c < 2 := Nat.lt_of_le_of_lt Nat.and_le_left hb
  cases j with
  | zero =>
    rw [Nat.testBit_and, bit_cons0 _ _ hb, bit_cons0 _ _ hc, bit_cons0 _ _ h]
    rcases (show b = 0 ∨ b = 1 by omega) with rfl | rfl <;> rcases (show c = 0 ∨ c = 1 by omega) with rfl | rfl <;> rfl
  | succ j => rw [Nat.testBit_and, bit_cons1 _ _ _ hb, bit_cons1 _ _ _ hc, bit_cons1 _ _ _ h, Nat.testBit_and]
theorem mod_cons (a X N : Nat) (ha : a < 2) (hN : 0 < N) : (a + 2 * X) % (N * 2) = a + 2 * (X % N) := by
  have h := Nat.div_add_mod X N
  have hr := Nat.mod_lt X hN
  obtain ⟨r, hr'⟩ : ∃ r, r = X % N := ⟨_, rfl⟩
  obtain ⟨q, hq⟩ : ∃ q, q = X / N := ⟨_, rfl⟩
  rw [← hr', ← hq] at h
  rw [← hr'] at hr ⊢
  have e : N * 2 * q = 2 * (N * q) := by rw [Nat.mul_comm N 2, Nat.mul_assoc]
  rw [← h, show a + 2 * (N * q + r) = a + 2 * r + N * 2 * q by rw [e]; omega, Nat.add_mul_mod_self_left]
  exact Nat.mod_eq_of_lt (by omega)
/-- one more, with a carry -/
theorem dep_carry : ∀ n m k c, m < 2 ^ n → c ≤ 1 → (depM n m k + (2 ^ n - 1 - m) + c) % 2 ^ n &&& m = depM n m (k + c)
  | 0, m, k, c, hm, _ => by
    have : m = 0 := by simpa using hm
    subst this
    rw [Nat.and_zero]
    rfl
  | n + 1, m, k, c, hm, hc => by
    obtain ⟨g, hg⟩ : ∃ g, g = m / 2 := ⟨_, rfl⟩
    obtain ⟨b, hb⟩ : ∃ b, b = m % 2 := ⟨_, rfl⟩
    have e : m = b + 2 * g := by omega
    rw [Nat.pow_succ] at hm ⊢
    have hg2 : g < 2 ^ n := by omega
    have hN : 0 < 2 ^ n := Nat.pow_pos (by omega)
    have ih1 := dep_carry n g (k / 2) ((k % 2 + c) / 2) hg2 (by omega)
    have ih2 := dep_carry n g k c hg2 hc
    rw [depM, depM, ← hg, ← hb]
    generalize 2 ^ n = N at *
    rcases (show b = 1 ∨ b = 0 by omega) with h | h
    · rw [if_pos h, if_pos h]
      rw [h] at e
      rw [show k % 2 + 2 * depM n g (k / 2) + (N * 2 - 1 - m) + c = (k % 2 + c) % 2 + 2 * (depM n g (k / 2) + (N - 1 - g) + (k % 2 + c) / 2) by omega, mod_cons _ _ _ (by omega) hN, e, and_cons _ _ _ _ (by omega) (by omega), ih1,
        show k / 2 + (k % 2 + c) / 2 = (k + c) / 2 by omega, show (k + c) % 2 = (k % 2 + c) % 2 by omega]
      rcases (show (k % 2 + c) % 2 = 0 ∨ (k % 2 + c) % 2 = 1 by omega) with h2 | h2 <;> rw [h2] <;> rfl
    · rw [if_neg (by omega), if_neg (by omega)]
      rw [h] at e
      rw [show 2 * depM n g k + (N * 2 - 1 - m) + c = (1 + c) % 2 + 2 * (depM n g k + (N - 1 - g) + (1 + c) / 2) by omega]
      rcases (show c = 0 ∨ c = 1 by omega) with rfl | rfl
      · rw [mod_cons _ _ _ (by omega) hN, e, and_cons _ _ _ _ (by omega) (by omega)]
        rw [show (1 + 0) / 2 = 0 from rfl, ih2]
        simp
      · rw [mod_cons _ _ _ (by omega) hN, e, and_cons _ _ _ _ (by omega) (by omega)]
        rw [show (1 + 1) / 2 = 1 from rfl, ih2]
        simp
theorem sub_step (m k : Nat) (hm : Wd m) : (subM m k + (18446744073709551616 - m)) % 18446744073709551616 &&& m = subM m (k + 1) := by
  have h := dep_carry 64 m k 1 hm (by omega)
  unfold subM
  rw [← h, show (2 : Nat) ^ 64 = 18446744073709551616 from rfl]
  congr 2
  unfold Wd at hm
  omega
theorem sub_zero (m : Nat) : subM m 0 = 0 := by
  refine eq_bits (wd_sub m 0) (by decide) fun j hj => ?_
  rw [sub_bit m 0 j hj, Nat.zero_testBit, Nat.zero_testBit, Bool.and_false]
/-- its numbers are m's -/
theorem sub_in (m k : Nat) : lessM (subM m k) m = 0 := by
  refine eq_bits (wd_less m (wd_sub m k)) (by decide) fun j hj => ?_
  rw [less_bit, sub_bit m k j hj, Nat.zero_testBit]
  cases m.testBit j <;> simp
/-- they rise -/
theorem dep_rise : ∀ n m a b, a < b → b < 2 ^ cntF m.testBit n → depM n m a < depM n m b
  | 0, m, a, b, hab, hb => by
    have : b < 1 := hb
    omega
  | n + 1, m, a, b, hab, hb => by
    rw [cnt_half] at hb
    rw [depM, depM]
    rcases Nat.mod_two_eq_zero_or_one m with h | h
    · rw [h, Nat.zero_add] at hb
      rw [if_neg (by omega), if_neg (by omega)]
      have := dep_rise n (m / 2) a b hab hb
      omega
    · rw [h, Nat.add_comm 1, Nat.pow_succ] at hb
      rw [if_pos h, if_pos h]
      rcases Nat.lt_or_ge (a / 2) (b / 2) with h2 | h2
      · have := dep_rise n (m / 2) (a / 2) (b / 2) h2 (by omega)
        omega
      · have : a / 2 = b / 2 := by omega
        rw [this]
        omega
/-- the last one is m -/
theorem dep_last : ∀ n m, m < 2 ^ n → depM n m (2 ^ cntF m.testBit n - 1) = m
  | 0, m, hm => by
    have : m = 0 := by simpa using hm
    subst this
    rfl
  | n + 1, m, hm => by
    rw [Nat.pow_succ] at hm
    have ih := dep_last n (m / 2) (by omega)
    rw [cnt_half, depM]
    rcases Nat.mod_two_eq_zero_or_one m with h | h
    · rw [h, Nat.zero_add, if_neg (by omega), ih]
      omega
    · rw [if_pos h, h, Nat.add_comm 1, Nat.pow_succ]
      have h2 : 0 < 2 ^ cntF (m / 2).testBit n := Nat.pow_pos (by omega)
      rw [show (2 ^ cntF (m / 2).testBit n * 2 - 1) / 2 = 2 ^ cntF (m / 2).testBit n - 1 by omega, ih]
      omega
/-- how many there are -/
def topM (m : Nat) : Nat := 2 ^ cntF m.testBit 64
theorem top_pos (m : Nat) : 0 < topM m := Nat.pow_pos (by omega)
theorem sub_rise {m a b : Nat} (h : a < b) (hb : b < topM m) : subM m a < subM m b := dep_rise 64 m a b h hb
theorem sub_last {m : Nat} (h : Wd m) : subM m (topM m - 1) = m := dep_last 64 m h
theorem sub_end {m k : Nat} (h : Wd m) (hk : k < topM m) : subM m k = m ↔ k = topM m - 1 := by
  constructor
  · intro e
    rcases Nat.lt_or_ge k (topM m - 1) with h1 | h1
    · have := sub_rise h1 (show topM m - 1 < topM m by have := top_pos m; omega)
      rw [sub_last h, e] at this
      exact absurd this (Nat.lt_irrefl _)
    · omega
  · rintro rfl
    exact sub_last h
end Go.Proofs.YtngfopnefmknoaaDoor
