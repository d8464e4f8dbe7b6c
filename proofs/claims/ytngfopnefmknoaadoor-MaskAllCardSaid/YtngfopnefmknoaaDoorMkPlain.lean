/- Masks: what is plain: sets as words, how many, the next one, the k-th. -/
import Derived.Test.YtngfopnefmknoaaDoorQuKit
set_option linter.all false
namespace Go.Proofs.YtngfopnefmknoaaDoor
open Go.RowKit
set_option maxRecDepth 100000
/-- a word -/
abbrev Wd (m : Nat) : Prop := m < 18446744073709551616
def onlyM (i : Int) : Nat := if 0 ≤ i ∧ i < 64 then 2 ^ i.toNat else 0
def belowM (n : Int) : Nat := 2 ^ min n.toNat 64 - 1
def lessM (a b : Nat) : Nat := a ^^^ (a &&& b)
def hasF (f : Nat → Bool) (i : Int) : Bool := decide (0 ≤ i ∧ i < 64) && f i.toNat
def cntF (f : Nat → Bool) : Nat → Nat
  | 0 => 0
  | n + 1 => cntF f n + (f n).toNat
def wordF (f : Nat → Bool) : Nat → Nat
  | 0 => 0
  | n + 1 => wordF f n + 2 ^ n * (f n).toNat
def numsF (f : Nat → Bool) : Nat → List Nat
  | 0 => []
  | n + 1 => numsF f n ++ (if f n then [n] else [])
theorem wd_high {m : Nat} (h : Wd m) {j : Nat} (hj : 64 ≤ j) : m.testBit j = false :=
  Nat.testBit_lt_two_pow (Nat.lt_of_lt_of_le h (by rw [show (18446744073709551616 : Nat) = 2 ^ 64 from rfl]; exact Nat.pow_le_pow_right (by omega) hj))
theorem wd_low {m : Nat} (h : Wd m) {j : Nat} (hj : m.testBit j = true) : j < 64 := by
  rcases Nat.lt_or_ge j 64 with h1 | h1
  · exact h1
  · rw [wd_high h h1] at hj; cases hj
theorem wd_and {a : Nat} (b : Nat) (h : Wd a) : Wd (a &&& b) := Nat.lt_of_le_of_lt Nat.and_le_left h
theorem wd_or {a b : Nat} (h : Wd a) (k : Wd b) : Wd (a ||| b) := Nat.or_lt_two_pow (n := 64) h k
theorem wd_xor {a b : Nat} (h : Wd a) (k : Wd b) : Wd (a ^^^ b) := Nat.xor_lt_two_pow (n := 64) h k
theorem wd_less {a : Nat} (b : Nat) (h : Wd a) : Wd (lessM a b) := wd_xor h (wd_and b h)
theorem less_bit (a b j : Nat) : (lessM a b).testBit j = (a.testBit j && !b.testBit j) := by
  unfold lessM
  rw [Nat.testBit_xor, Nat.testBit_and]
  cases a.testBit j <;> cases b.testBit j <;> rfl
theorem wd_only (i : Int) : Wd (onlyM i) := by
  unfold onlyM
  split
  · show _ < 2 ^ 64
    exact Nat.pow_lt_pow_right (by omega) (by omega)
  · decide
theorem only_bit (i : Int) (j : Nat) : (onlyM i).testBit j = decide (i = (j : Int) ∧ j < 64) := by
  unfold onlyM
  split
  · rename_i h
    rw [Nat.testBit_two_pow]
    exact decide_eq_decide.2 (by omega)
  · rw [Nat.zero_testBit]
    symm
    rw [decide_eq_false_iff_not]
    omega
theorem wd_below (n : Int) : Wd (belowM n) := by
  unfold belowM
  have h := Nat.pow_le_pow_right (n := 2) (by omega) (show min n.toNat 64 ≤ 64 by omega)
  have h2 : 0 < 2 ^ min n.toNat 64 := Nat.pow_pos (by omega)
  show _ < 2 ^ 64
  omega
theorem below_bit (n : Int) (j : Nat) : (belowM n).testBit j = decide ((j : Int) < n ∧ j < 64) := by
  unfold belowM
  rw [Nat.testBit_two_pow_sub_one]
  exact decide_eq_decide.2 (by omega)
theorem eq_bits {a b : Nat} (h : Wd a) (k : Wd b) (hb : ∀ j, j < 64 → a.testBit j = b.testBit j) : a = b := by
  apply Nat.eq_of_testBit_eq
  intro j
  rcases Nat.lt_or_ge j 64 with h1 | h1
  · exact hb j h1
  · rw [wd_high h h1, wd_high k h1]
theorem has_bit {m : Nat} (h : Wd m) (i : Nat) : hasF m.testBit (i : Int) = m.testBit i := by
  unfold hasF
  rw [Int.toNat_natCast]
  rcases Nat.lt_or_ge i 64 with h1 | h1
  · rw [decide_eq_true (by omega)]; rfl
  · rw [wd_high h h1, Bool.and_false]
/-- words of functions -/
theorem wordF_lt (f : Nat → Bool) : ∀ n, wordF f n < 2 ^ n
  | 0 => Nat.one_pos
  | n + 1 => by
    have := wordF_lt f n
    rw [wordF, Nat.pow_succ]
    have h1 : (f n).toNat ≤ 1 := Bool.toNat_le _
    rcases Nat.le_one_iff_eq_zero_or_eq_one.1 h1 with h | h <;> rw [h] <;> omega
theorem wordF_bit (f : Nat → Bool) : ∀ n j, (wordF f n).testBit j = (decide (j < n) && f j)
  | 0, j => by simp [wordF]
  | n + 1, j => by
    rw [wordF, Nat.add_comm, Nat.testBit_two_pow_mul_add _ (wordF_lt f n)]
    split
    · rename_i h
      rw [wordF_bit f n j, decide_eq_true h, decide_eq_true (by omega)]
    · rename_i h
      rcases Nat.eq_or_lt_of_not_lt h with e | e
      · subst e
        rw [Nat.sub_self, decide_eq_true (by omega)]
        cases f j <;> rfl
      · rw [decide_eq_false (by omega), Bool.false_and]
        cases f n
        · exact Nat.zero_testBit _
        · obtain ⟨k, hk⟩ : ∃ k, j - n = k + 1 := ⟨j - n - 1, by omega⟩
          rw [hk, Nat.testBit_succ]
          exact Nat.zero_testBit _
theorem wd_word (f : Nat → Bool) : Wd (wordF f 64) := wordF_lt f 64
theorem word_eq {m : Nat} {f : Nat → Bool} (h : Wd m) (hf : ∀ j, j < 64 → f j = m.testBit j) : wordF f 64 = m := by
  refine eq_bits (wd_word f) h fun j hj => ?_
  rw [wordF_bit, decide_eq_true hj, Bool.true_and, hf j hj]
theorem wordF_ext {f g : Nat → Bool} : ∀ n, (∀ j, j < n → f j = g j) → wordF f n = wordF g n
  | 0, _ => rfl
  | n + 1, h => by rw [wordF, wordF, wordF_ext n (fun j hj => h j (by omega)), h n (by omega)]
/-- how many -/
theorem cntF_le (f : Nat → Bool) : ∀ n, cntF f n ≤ n
  | 0 => Nat.le_refl _
  | n + 1 => by have := cntF_le f n; have : (f n).toNat ≤ 1 := Bool.toNat_le _; rw [cntF]; omega
theorem cntF_ext {f g : Nat → Bool} : ∀ n, (∀ j, j < n → f j = g j) → cntF f n = cntF g n
  | 0, _ => rfl
  | n + 1, h => by rw [cntF, cntF, cntF_ext n (fun j hj => h j (by omega)), h n (by omega)]
theorem cntF_add (f : Nat → Bool) (a : Nat) : ∀ b, cntF f (a + b) = cntF f a + cntF (fun j => f (a + j)) b
  | 0 => rfl
  | b + 1 => by rw [← Nat.add_assoc, cntF, cntF_add f a b, cntF]; omega
theorem cntF_mono (f : Nat → Bool) {a b : Nat} (h : a ≤ b) : cntF f a ≤ cntF f b := by
  obtain ⟨c, rfl⟩ : ∃ c, b = a + c := ⟨b - a, by omega⟩
  rw [cntF_add]; omega
theorem cntF_lt (f : Nat → Bool) {a b : Nat} (h : a < b) (ha : f a = true) : cntF f a < cntF f b := by
  have := cntF_mono f (show a + 1 ≤ b by omega)
  rw [cntF, ha] at this
  exact this
/-- the numbers, rising -/
theorem nums_len (f : Nat → Bool) : ∀ n, (numsF f n).length = cntF f n
  | 0 => rfl
  | n + 1 => by rw [numsF, List.length_append, nums_len f n, cntF]; cases f n <;> rfl
theorem nums_pre (f : Nat → Bool) (a : Nat) : ∀ b, numsF f a <+: numsF f (a + b)
  | 0 => List.prefix_refl _
  | b + 1 => (nums_pre f a b).trans (by rw [← Nat.add_assoc, numsF]; exact List.prefix_append _ _)
theorem nums_mono (f : Nat → Bool) {a b : Nat} (h : a ≤ b) : numsF f a <+: numsF f b := by
  obtain ⟨c, rfl⟩ : ∃ c, b = a + c := ⟨b - a, by omega⟩
  exact nums_pre f a c
theorem nums_yes {f : Nat → Bool} {n : Nat} (h : f n = true) : numsF f (n + 1) = numsF f n ++ [n] := by rw [numsF, if_pos h]
theorem nums_no {f : Nat → Bool} {n : Nat} (h : f n = false) : numsF f (n + 1) = numsF f n := by rw [numsF, if_neg (by rw [h]; decide), List.append_nil]
theorem nums_mem (f : Nat → Bool) : ∀ n x, x ∈ numsF f n ↔ x < n ∧ f x = true
  | 0, x => by simp [numsF]
  | n + 1, x => by
    rw [numsF, List.mem_append, nums_mem f n x]
    constructor
    · rintro (⟨h1, h2⟩ | h)
      · exact ⟨by omega, h2⟩
      · cases hf : f n
        · rw [hf] at h; simp at h
        · rw [hf] at h; simp at h; subst h; exact ⟨by omega, hf⟩
    · rintro ⟨h1, h2⟩
      rcases Nat.lt_or_ge x n with h | h
      · exact .inl ⟨h, h2⟩
      · obtain rfl : x = n := by omega
        right; rw [h2]; simp
theorem nums_same {f : Nat → Bool} {a : Nat} : ∀ b, (∀ l, a ≤ l → l < a + b → f l = false) → numsF f (a + b) = numsF f a
  | 0, _ => rfl
  | b + 1, h => by rw [← Nat.add_assoc, nums_no (h _ (by omega) (by omega)), nums_same b (fun l h1 h2 => h l h1 (by omega))]
theorem cnt_same {f : Nat → Bool} {a b : Nat} (hab : a ≤ b) (h : ∀ l, a ≤ l → l < b → f l = false) : cntF f b = cntF f a := by
  obtain ⟨c, rfl⟩ : ∃ c, b = a + c := ⟨b - a, by omega⟩
  rw [← nums_len, ← nums_len, nums_same c h]
theorem nums_at {f : Nat → Bool} {i n : Nat} (h : i < n) (hf : f i = true) : (numsF f n)[cntF f i]? = some i := by
  obtain ⟨t, ht⟩ := nums_mono f (show i + 1 ≤ n by omega)
  rw [← ht, nums_yes hf, ← nums_len, List.append_assoc, List.getElem?_append_right (Nat.le_refl _), Nat.sub_self]
  rfl
theorem nums_rise (f : Nat → Bool) : ∀ n a b : Nat, a < b → ∀ x y, (numsF f n)[a]? = some x → (numsF f n)[b]? = some y → x < y
  | 0, a, b, _, x, y, hx, _ => by simp [numsF] at hx
  | n + 1, a, b, hab, x, y, hx, hy => by
    rw [numsF] at hx hy
    rcases Nat.lt_or_ge b (numsF f n).length with h1 | h1
    · rw [List.getElem?_append_left (by omega)] at hx
      rw [List.getElem?_append_left h1] at hy
      exact nums_rise f n a b hab x y hx hy
    · rw [List.getElem?_append_right h1] at hy
      cases hf : f n
      · rw [hf] at hy; simp at hy
      · rw [hf, if_pos rfl] at hy
        obtain ⟨hlt, he⟩ := List.getElem?_eq_some_iff.1 hy
        simp at hlt
        have e : b = (numsF f n).length := by omega
        subst e
        simp at he
        subst he
        rw [List.getElem?_append_left (by omega)] at hx
        exact ((nums_mem f n x).1 (List.mem_of_getElem? hx)).1
theorem nums_inv {f : Nat → Bool} {n k i : Nat} (h : (numsF f n)[k]? = some i) : i < n ∧ f i = true ∧ cntF f i = k := by
  have hm := (nums_mem f n i).1 (List.mem_of_getElem? h)
  refine ⟨hm.1, hm.2, ?_⟩
  have h2 := nums_at hm.1 hm.2
  rcases Nat.lt_trichotomy (cntF f i) k with hl | hl | hl
  · exact absurd (nums_rise f n _ _ hl _ _ h2 h) (Nat.lt_irrefl _)
  · exact hl
  · exact absurd (nums_rise f n _ _ hl _ _ h h2) (Nat.lt_irrefl _)
/-- the least one from j on -/
def nxtF (f : Nat → Bool) : Nat → Nat → Option Nat
  | 0, _ => none
  | n + 1, j => if f j then some j else nxtF f n (j + 1)
def nextF (f : Nat → Bool) (i : Int) : Option Nat := nxtF f (64 - (i + 1).toNat) (i + 1).toNat
def NextP (f : Nat → Bool) (j n : Nat) : Option Nat → Prop
  | none => ∀ l, j ≤ l → l < n → f l = false
  | some k => j ≤ k ∧ k < n ∧ f k = true ∧ ∀ l, j ≤ l → l < k → f l = false
theorem nxt_spec (f : Nat → Bool) : ∀ n j, NextP f j (j + n) (nxtF f n j)
  | 0, j => fun l h1 h2 => by omega
  | n + 1, j => by
    rw [nxtF]
    split
    · rename_i h
      exact ⟨Nat.le_refl _, by omega, h, fun l h1 h2 => by omega⟩
    · rename_i h
      have hn : f j = false := by simpa using h
      have := nxt_spec f n (j + 1)
      rw [show j + 1 + n = j + (n + 1) by omega] at this
      cases hx : nxtF f n (j + 1) with
      | none =>
        rw [hx] at this
        intro l h1 h2
        rcases Nat.eq_or_lt_of_le h1 with e | e
        · rw [← e]; exact hn
        · exact this l e h2
      | some k =>
        rw [hx] at this
        refine ⟨by have := this.1; omega, this.2.1, this.2.2.1, fun l h1 h2 => ?_⟩
        rcases Nat.eq_or_lt_of_le h1 with e | e
        · rw [← e]; exact hn
        · exact this.2.2.2 l e h2
theorem NextP.uniq {f : Nat → Bool} {j n : Nat} : ∀ {r s : Option Nat}, NextP f j n r → NextP f j n s → r = s
  | none, none, _, _ => rfl
  | none, some k, h, ⟨k1, k2, k3, _⟩ => by rw [h k k1 k2] at k3; cases k3
  | some k, none, ⟨k1, k2, k3, _⟩, h => by rw [h k k1 k2] at k3; cases k3
  | some a, some b, ⟨a1, a2, a3, a4⟩, ⟨b1, b2, b3, b4⟩ => by
    rcases Nat.lt_trichotomy a b with h | h | h
    · rw [b4 a a1 h] at a3; cases a3
    · rw [h]
    · rw [a4 b b1 h] at b3; cases b3
theorem next_spec (f : Nat → Bool) (i : Int) (hi : i < 64) : NextP f (i + 1).toNat 64 (nextF f i) := by
  have := nxt_spec f (64 - (i + 1).toNat) (i + 1).toNat
  rw [show (i + 1).toNat + (64 - (i + 1).toNat) = 64 by omega] at this
  exact this
theorem next_far (f : Nat → Bool) (i : Int) (hi : 63 ≤ i) : nextF f i = none := by
  unfold nextF
  rw [show 64 - (i + 1).toNat = 0 by omega]
  rfl
theorem next_eq {f : Nat → Bool} {i : Int} {r : Option Nat} (h : NextP f (i + 1).toNat 64 r) : nextF f i = r := by
  rcases Int.lt_or_le i 64 with h1 | h1
  · exact (next_spec f i h1).uniq h
  · rw [next_far f i (by omega)]
    cases r with
    | none => rfl
    | some k => have := h.1; have := h.2.1; omega
/-- the one with k of them below it -/
def selF (f : Nat → Bool) (k : Int) : Option Nat := if k < 0 then none else (numsF f 64)[k.toNat]?
theorem sel_none {f : Nat → Bool} {k : Int} (h : ∀ i, i < 64 → f i = true → (cntF f i : Int) ≠ k) : selF f k = none := by
  unfold selF
  split
  · rfl
  · rename_i hk
    cases hx : (numsF f 64)[k.toNat]? with
    | none => rfl
    | some i =>
      obtain ⟨h1, h2, h3⟩ := nums_inv hx
      exact absurd (by omega) (h i h1 h2)
theorem sel_some {f : Nat → Bool} {k : Int} {i : Nat} (h1 : i < 64) (h2 : f i = true) (h3 : (cntF f i : Int) = k) : selF f k = some i := by
  unfold selF
  rw [if_neg (by omega), ← h3, Int.toNat_natCast]
  exact nums_at h1 h2
theorem u64_low {a : Int} (h : (Lit.int .u64 a).wf = true) : 0 ≤ a := (bounds_u64 h).1
theorem u64_high {n : Nat} (h : (Lit.int .u64 (n : Int)).wf = true) : Wd n := by
  have := bounds_u64 h
  unfold Wd; omega
end Go.Proofs.YtngfopnefmknoaaDoor
