/- LexReals' plain facts: what a real's digits are scanned to; a real halved and doubled. -/
import Derived.Test.YtddeoemkjedonaaDoorMNextPlain
import Derived.Test.YtddeoemkjedonaaDoorFloat
import Derived.Laws.FloatArith
import Derived.Lib.ItoaNum
namespace Go.Proofs.YtddeoemkjedonaaDoor
open Go.RowKit
theorem log2_scale (m s : Nat) (h : 0 < m) : (m * 2 ^ s).log2 = m.log2 + s := by
  obtain ⟨h1, h2⟩ := log2_bounds h
  have hp : 0 < 2 ^ s := Nat.two_pow_pos s
  have hne : m * 2 ^ s ≠ 0 := Nat.ne_of_gt (Nat.mul_pos h hp)
  have g1 := (Nat.le_log2 hne).2 (show 2 ^ (m.log2 + s) ≤ m * 2 ^ s by rw [Nat.pow_add]; exact Nat.mul_le_mul_right _ h1)
  have g2 := (Nat.log2_lt hne).2 (show m * 2 ^ s < 2 ^ (m.log2 + 1 + s) by rw [Nat.pow_add]; exact Nat.mul_lt_mul_of_pos_right h2 hp)
  omega
/-- the place of the last digit -/
def lastP (m : Nat) (e : Int) : Int := max (e + (m.log2 : Int) - 52) (-1074)
theorem lastP_le {m : Nat} {e : Int} (h : 0 < m) (h2 : m < 9007199254740992) (he : -1074 ≤ e) : lastP m e ≤ e ∧ -1074 ≤ lastP m e := by
  have := log2_le h h2
  unfold lastP
  omega
theorem nearest_scale (m s : Nat) (e : Int) (h : 0 < m) (h2 : m < 9007199254740992) (he : -1074 ≤ e) :
    Ieee.double.nearest false (m * 2 ^ s) (e - s) = min ((lastP m e + 1074).toNat * 4503599627370496 + m * 2 ^ (e - lastP m e).toNat) 9218868437227405312 := by
  obtain ⟨l1, l2⟩ := lastP_le h h2 he
  refine nearest_of (m * 2 ^ s) (e - s) (lastP m e) _ (Nat.mul_pos h (Nat.two_pow_pos s)) ?_ ?_
  · rw [log2_scale m s h]; unfold lastP; congr 1; omega
  · rw [Nat.mul_assoc, Nat.mul_assoc, ← Nat.pow_add, ← Nat.pow_add]
    congr 2
    omega
theorem real_scale (m s : Nat) (e : Int) (h : 0 < m) (h2 : m < 9007199254740992) (he : -1074 ≤ e) : Ieee.double.nearest false (m * 2 ^ s) (e - s) = realBits m e := by
  have h0 := nearest_scale m 0 e h h2 he
  rw [Nat.pow_zero, Nat.mul_one, show e - ((0 : Nat) : Int) = e by omega] at h0
  unfold realBits
  rw [Int.toNat_natCast, h0, nearest_scale m s e h h2 he]
/-- what a finite real's word reads as -/
theorem read_real (m : Nat) (e : Int) (h : 0 < m) (h2 : m < 9007199254740992) (he : -1074 ≤ e) (hf : (m.log2 : Int) + 1 + e ≤ 1024) :
    realBits m e < 9218868437227405312 ∧ ∃ s : Nat, m * 2 ^ s < 9007199254740992 ∧ Ieee.double.read (realBits m e) = .number false (m * 2 ^ s) (e - s) := by
  obtain ⟨l1, l2⟩ := lastP_le h h2 he
  have h0 := nearest_scale m 0 e h h2 he
  rw [Nat.pow_zero, Nat.mul_one, show e - ((0 : Nat) : Int) = e by omega] at h0
  have hk2 := log2_le h h2
  obtain ⟨b1, b2⟩ := scaled_bounds h rfl hk2
  have hre : realBits m e = Ieee.double.nearest false m e := by unfold realBits; rw [Int.toNat_natCast]
  obtain ⟨K, hK⟩ : ∃ K, K = m * 2 ^ (e - lastP m e).toNat := ⟨_, rfl⟩
  obtain ⟨L, hL⟩ : ∃ L : Nat, (L : Int) = lastP m e + 1074 := ⟨(lastP m e + 1074).toNat, by omega⟩
  have hKlt : K < 9007199254740992 := by
    refine Nat.lt_of_le_of_lt ?_ b2
    rw [hK]
    exact Nat.mul_le_mul_left _ (Nat.pow_le_pow_right (by omega) (by unfold lastP; omega))
  have hL2 : L ≤ 2045 := by unfold lastP at hL; omega
  rw [← hre, ← hK, show (lastP m e + 1074).toNat = L by omega] at h0
  rw [h0, Nat.min_eq_left (by omega)]
  refine ⟨by omega, (e - lastP m e).toNat, by rw [← hK]; exact hKlt, ?_⟩
  rw [← hK, show e - (((e - lastP m e).toNat : Nat) : Int) = lastP m e by omega]
  rcases Nat.lt_or_ge K 4503599627370496 with hs | hs
  · have hL0 : L = 0 := by
      rcases Nat.eq_zero_or_pos L with h' | h'
      · exact h'
      · exfalso
        have : lastP m e = e + (m.log2 : Int) - 52 := by unfold lastP at hL ⊢; omega
        rw [this, show (e - (e + (m.log2 : Int) - 52)).toNat = 52 - m.log2 by omega] at hK
        omega
    rw [hL0] at hL ⊢
    unfold Ieee.Format.read
    rw [dS, dB, dI, dL]
    have e1 : (0 * 4503599627370496 + K) / 9223372036854775808 % 2 = 0 := by omega
    have e2 : (0 * 4503599627370496 + K) % 9223372036854775808 = K := by omega
    simp only [e1, e2]
    rw [if_pos hs]
    rw [show lastP m e = -1074 by omega]
    rfl
  · have e1 : L * 4503599627370496 + K = (L + 1) * 4503599627370496 + (K - 4503599627370496) := by omega
    rw [e1, read_norm (L + 1) (K - 4503599627370496) (by omega) (by omega) (by omega), show 4503599627370496 + (K - 4503599627370496) = K by omega, show (-1074 + ((L + 1 - 1 : Nat) : Int)) = lastP m e by omega]

theorem read_two : Ieee.double.read 4611686018427387904 = .number false 4503599627370496 (-51) := by
  have e := read_norm 1024 0 (by omega) (by omega) (by omega)
  rw [show 1024 * 4503599627370496 + 0 = 4611686018427387904 from by decide] at e
  rw [e]; rfl
theorem p52 : (4503599627370496 : Nat) = 2 ^ 52 := by decide

theorem times_two (m : Nat) (e : Int) (h : 0 < m) (h2 : m < 9007199254740992) (he : -1074 ≤ e) (hf : (m.log2 : Int) + 1 + e ≤ 1024) :
    Go.floatBits .mul .f64 (realBits m e) 4611686018427387904 = some (realBits m (e + 1)) := by
  obtain ⟨_, s, hs, hr⟩ := read_real m e h h2 he hf
  show Ieee.Format.mul Ieee.double _ _ = _
  unfold Ieee.Format.mul
  rw [hr, read_two]
  show some (Ieee.double.nearest (false ^^ false) (m * 2 ^ s * 4503599627370496) (e - s + (-51))) = _
  rw [p52, Nat.mul_assoc, ← Nat.pow_add, show e - (s : Int) + (-51) = (e + 1) - ((s + 52 : Nat) : Int) by omega]
  exact congrArg some (real_scale m (s + 52) (e + 1) h h2 (by omega))
theorem half (m : Nat) (e : Int) (h : 0 < m) (h2 : m < 9007199254740992) (he : -1073 ≤ e) (hf : (m.log2 : Int) + 1 + e ≤ 1024) :
    Go.floatBits .quo .f64 (realBits m e) 4611686018427387904 = some (realBits m (e - 1)) := by
  obtain ⟨_, s, hs, hr⟩ := read_real m e h h2 (by omega) hf
  show Ieee.Format.div Ieee.double _ _ = _
  unfold Ieee.Format.div
  rw [hr, read_two]
  have hms : 0 < m * 2 ^ s := Nat.mul_pos h (Nat.two_pow_pos s)
  have hlog := log2_le hms hs
  obtain ⟨more, hmore⟩ : ∃ more, 54 + 52 - (m * 2 ^ s).log2 = more + 52 := ⟨54 - (m * 2 ^ s).log2, by omega⟩
  have hq : Ieee.Datum.quotient (Ieee.double.fractionBits + 2) (.number false (m * 2 ^ s) (e - s)) (.number false 4503599627370496 (-51)) = some (.number false (m * 2 ^ (s + more + 1)) (e - 1 - ((s + more + 1 : Nat) : Int))) := by
    have e1 : Ieee.double.fractionBits + 2 + Nat.log2 4503599627370496 - (m * 2 ^ s).log2 = more + 52 := by
      have : Ieee.double.fractionBits + 2 + Nat.log2 4503599627370496 = 54 + 52 := by decide
      rw [this, hmore]
    show (if (4503599627370496 : Nat) = 0 then (if m * 2 ^ s = 0 then none else some (Ieee.Datum.infinity (false ^^ false))) else some (Ieee.Datum.number (false ^^ false) (2 * ((m * 2 ^ s) <<< (Ieee.double.fractionBits + 2 + Nat.log2 4503599627370496 - (m * 2 ^ s).log2) / 4503599627370496) + ((m * 2 ^ s) <<< (Ieee.double.fractionBits + 2 + Nat.log2 4503599627370496 - (m * 2 ^ s).log2) % 4503599627370496 != 0).toNat) (e - s - (-51) - ((Ieee.double.fractionBits + 2 + Nat.log2 4503599627370496 - (m * 2 ^ s).log2 : Nat) : Int) - 1))) = _
    rw [if_neg (by decide), e1, Nat.shiftLeft_eq]
    have e2 : m * 2 ^ s * 2 ^ (more + 52) = m * 2 ^ (s + more) * 4503599627370496 := by
      rw [p52, Nat.mul_assoc, Nat.mul_assoc, ← Nat.pow_add, ← Nat.pow_add, Nat.add_assoc]
    rw [e2, Nat.mul_div_cancel _ (by decide), Nat.mul_mod_left]
    have e3 : 2 * (m * 2 ^ (s + more)) + ((0 : Nat) != 0).toNat = m * 2 ^ (s + more + 1) := by
      rw [Nat.pow_succ, show ((0 : Nat) != 0).toNat = 0 from rfl, Nat.add_zero, Nat.mul_comm 2, Nat.mul_assoc]
    have e4 : e - (s : Int) - (-51) - ((more + 52 : Nat) : Int) - 1 = e - 1 - ((s + more + 1 : Nat) : Int) := by omega
    rw [e3, e4, show (false ^^ false) = false from rfl]
  rw [hq]
  exact congrArg some (real_scale m (s + more + 1) (e - 1) h h2 (by omega))
/-- a finite real is itself -/
theorem real_self (m : Nat) (e : Int) (h : 0 < m) (h2 : m < 9007199254740992) (he : -1074 ≤ e) (hf : (m.log2 : Int) + 1 + e ≤ 1024) :
    (Ieee.double.order (realBits m e) (realBits m e) == some Ordering.eq) = true := by
  obtain ⟨_, s, hs, hr⟩ := read_real m e h h2 he hf
  unfold Ieee.Format.order
  rw [hr]
  unfold Ieee.Datum.order
  simp only [Int.compare_eq_eq.2]
  rfl
theorem real_zero : realBits 0 0 = 0 := by decide
theorem zero_self : (Ieee.double.order 0 0 == some Ordering.eq) = true := by decide
theorem of_int (m : Nat) : Go.floatOfInt .f64 (m : Int) = realBits m 0 := by
  show Ieee.double.nearest (decide ((m : Int) < 0)) (m : Int).natAbs 0 = _
  unfold realBits
  rw [decide_eq_false (by omega), Int.natAbs_natCast, Int.toNat_natCast]
theorem dd_big {n : Nat} (h : ¬ n < 10) : Lib.decDigits n = Lib.decDigits (n / 10) ++ [UInt8.ofNat (48 + n % 10)] := by rw [Lib.decDigits, dif_neg h]
theorem dd_ne (n : Nat) : Lib.decDigits n ≠ [] := by
  by_cases h : n < 10
  · rw [Lib.decDigits_one h]; simp
  · rw [dd_big h]; simp
theorem digit_ofNat {d : Nat} (h : d < 10) : (UInt8.ofNat (48 + d)).toNat = 48 + d := by
  rw [UInt8.toNat_ofNat']; omega
theorem dd_digit : ∀ (n : Nat), ∀ c ∈ Lib.decDigits n, 48 ≤ c.toNat ∧ c.toNat ≤ 57 := by
  intro n
  induction n using Nat.strongRecOn with
  | _ n ih =>
    intro c hc
    by_cases h : n < 10
    · rw [Lib.decDigits_one h] at hc
      rw [List.mem_singleton] at hc; subst hc; rw [digit_ofNat h]; omega
    · rw [dd_big h] at hc
      rcases List.mem_append.1 hc with hc | hc
      · exact ih (n / 10) (by omega) c hc
      · rw [List.mem_singleton] at hc; subst hc; rw [digit_ofNat (Nat.mod_lt _ (by omega))]; omega
theorem dd_head : ∀ (n : Nat), 0 < n → bAt (Lib.decDigits n) 0 ≠ 48 := by
  intro n
  induction n using Nat.strongRecOn with
  | _ n ih =>
    intro h0
    by_cases h : n < 10
    · rw [Lib.decDigits_one h]
      show UInt8.ofNat (48 + n) ≠ 48
      intro e
      have := congrArg UInt8.toNat e
      rw [digit_ofNat h] at this
      have e48 : (48 : UInt8).toNat = 48 := rfl
      omega
    · rw [dd_big h]
      have := ih (n / 10) (by omega) (by omega)
      unfold bAt at this ⊢
      rw [List.getElem?_append_left (List.length_pos_iff.2 (dd_ne _))]
      exact this
def valD (acc : Nat) (l : List UInt8) : Nat := l.foldl (fun a c => a * 10 + (c.toNat - 48)) acc
theorem dd_val : ∀ (n : Nat), valD 0 (Lib.decDigits n) = n := by
  intro n
  induction n using Nat.strongRecOn with
  | _ n ih =>
    by_cases h : n < 10
    · rw [Lib.decDigits_one h]
      show 0 * 10 + ((UInt8.ofNat (48 + n)).toNat - 48) = n
      rw [digit_ofNat h]; omega
    · rw [dd_big h]
      unfold valD at ih ⊢
      rw [List.foldl_append, ih (n / 10) (by omega)]
      show n / 10 * 10 + ((UInt8.ofNat (48 + n % 10)).toNat - 48) = n
      rw [digit_ofNat (Nat.mod_lt _ (by omega))]; omega
theorem valD_le : ∀ (l : List UInt8) (acc : Nat), acc ≤ valD acc l
  | [], acc => Nat.le_refl _
  | c :: r, acc => by
    have := valD_le r (acc * 10 + (c.toNat - 48))
    unfold valD at this ⊢
    rw [List.foldl_cons]
    omega
theorem parse_digits : ∀ (l : List UInt8) (acc : Nat), (∀ c ∈ l, 48 ≤ c.toNat ∧ c.toNat ≤ 57) → valD acc l ≤ 18446744073709551615 → Lib.parseUintM 18446744073709551615 acc l = .ok (valD acc l)
  | [], acc, _, _ => rfl
  | c :: r, acc, hd, hv => by
    have h1 := hd c (by simp)
    have h2 := valD_le r (acc * 10 + (c.toNat - 48))
    have h3 : valD acc (c :: r) = valD (acc * 10 + (c.toNat - 48)) r := rfl
    rw [h3] at hv
    unfold Lib.parseUintM
    rw [if_pos h1, if_neg (by omega), if_neg (by omega), parse_digits r _ (fun x hx => hd x (List.mem_cons_of_mem _ hx)) hv, h3]
theorem whole_dd (n : Nat) (h : n < 18446744073709551616) : wholeF (Lib.decDigits n) = if n < 9223372036854775808 then some (n : Int) else none := by
  have hu : Lib.parseUintB 64 (Lib.decDigits n) = .ok n := by
    unfold Lib.parseUintB
    rw [if_neg (dd_ne n)]
    have := parse_digits (Lib.decDigits n) 0 (dd_digit n) (by rw [dd_val]; omega)
    rw [dd_val] at this
    exact this
  obtain ⟨c, r, hcr⟩ : ∃ c r, Lib.decDigits n = c :: r := by
    cases hx : Lib.decDigits n with
    | nil => exact absurd hx (dd_ne n)
    | cons c r => exact ⟨c, r, rfl⟩
  have hc := dd_digit n c (by rw [hcr]; simp)
  have hp : Lib.parseIntB 64 (Lib.decDigits n) = if n < 9223372036854775808 then .ok (n : Int) else .range := by
    rw [hcr] at hu ⊢
    unfold Lib.parseIntB
    simp only
    rw [if_neg (by omega), hu]
    simp only
    have hn : ¬ (c.toNat = 45) := by omega
    simp only [hn, not_false_eq_true, true_and, false_and, if_false]
    by_cases hlt : n < 9223372036854775808
    · rw [if_neg (by omega), if_pos hlt]
    · rw [if_pos (by omega), if_neg hlt]
  unfold wholeF
  rw [hp]
  by_cases hlt : n < 9223372036854775808
  · rw [if_pos hlt, if_pos hlt]
    simp only
    rw [if_neg]
    rintro ⟨h1, h2⟩
    by_cases h10 : n < 10
    · rw [Lib.decDigits_one h10] at h1; simp at h1
    · exact dd_head n (by omega) h2
  · rw [if_neg hlt, if_neg hlt]

theorem index_digits : ∀ (l t : List UInt8), (∀ c ∈ l, 48 ≤ c.toNat ∧ c.toNat ≤ 57) → Lib.indexByte (l ++ 112 :: t) 112 = l.length
  | [], t, _ => rfl
  | c :: r, t, h => by
    have hc := h c (by simp)
    have hne : (c == 112) = false := by
      rw [beq_eq_false_iff_ne]; rintro rfl
      have : (112 : UInt8).toNat = 112 := rfl
      omega
    rw [List.cons_append]
    unfold Lib.indexByte
    rw [index_digits r t (fun x hx => h x (List.mem_cons_of_mem _ hx)), hne]
    simp only [Bool.false_eq_true, if_false]
    rw [if_neg (by simp)]
    simp
theorem cut_digits (l t : List UInt8) (h : ∀ c ∈ l, 48 ≤ c.toNat ∧ c.toNat ≤ 57) : cutAt (l ++ 112 :: t) = (l, t) := by
  unfold cutAt
  rw [index_digits l t h, if_pos (by omega), Int.toNat_natCast]
  simp

/-- the exponent's text -/
def expL (x : Int) : List UInt8 := if x < 0 then 45 :: Lib.decDigits (-x).toNat else Lib.decDigits x.toNat
def realL (m : Nat) (x : Int) : List UInt8 := Lib.decDigits m ++ 112 :: expL x
theorem dd_first (n : Nat) : bAt (Lib.decDigits n) 0 ≠ 45 := by
  obtain ⟨c, r, hcr⟩ : ∃ c r, Lib.decDigits n = c :: r := by
    cases hx : Lib.decDigits n with
    | nil => exact absurd hx (dd_ne n)
    | cons c r => exact ⟨c, r, rfl⟩
  have hc := dd_digit n c (by rw [hcr]; simp)
  rw [hcr]
  show c ≠ 45
  rintro rfl
  have : (45 : UInt8).toNat = 45 := rfl
  omega
/-- the two numbers of such a text -/
theorem scaled_dd (m : Nat) (x : Int) (hm : m < 18446744073709551616) (hx : -9223372036854775808 ≤ x) (hx2 : x ≤ 9223372036854775807) :
    scaledF (realL m x) = if m < 9223372036854775808 ∧ -9223372036854775808 < x ∧ oneFormB m x = true then some ((m : Int), x) else none := by
  unfold realL scaledF
  rw [cut_digits _ _ (dd_digit m), whole_dd m hm]
  simp only
  unfold expL
  by_cases h0 : x < 0
  · rw [if_pos h0]
    have e0 : bAt (45 :: Lib.decDigits (-x).toNat) 0 = 45 := rfl
    rw [if_pos e0, List.drop_one, List.tail_cons, whole_dd _ (by omega)]
    by_cases h1 : m < 9223372036854775808
    · rw [if_pos h1]
      by_cases h2 : -9223372036854775808 < x
      · rw [if_pos (by omega)]
        simp only
        rw [if_pos e0, if_neg (by omega), show -(((-x).toNat : Nat) : Int) = x by omega]
        by_cases h3 : oneFormB m x = true
        · rw [if_pos h3, if_pos ⟨h1, h2, h3⟩]
        · rw [if_neg h3, if_neg (fun h => h3 h.2.2)]
      · rw [if_neg (by omega), if_neg (fun h => h2 h.2.1)]
    · rw [if_neg h1, if_neg (show ¬ (m < 9223372036854775808 ∧ -9223372036854775808 < x ∧ oneFormB m x = true) from fun h => h1 h.1)]
  · rw [if_neg h0]
    have e0 := dd_first x.toNat
    rw [if_neg e0, whole_dd _ (by omega), if_pos (show x.toNat < 9223372036854775808 by omega)]
    by_cases h1 : m < 9223372036854775808
    · rw [if_pos h1]
      simp only
      rw [if_neg e0, show ((x.toNat : Nat) : Int) = x by omega]
      by_cases h3 : oneFormB m x = true
      · rw [if_pos h3, if_pos ⟨h1, by omega, h3⟩]
      · rw [if_neg h3, if_neg (fun h => h3 h.2.2)]
    · rw [if_neg h1, if_neg (show ¬ (m < 9223372036854775808 ∧ -9223372036854775808 < x ∧ oneFormB m x = true) from fun h => h1 h.1)]

/-! ### the text of a real, scanned -/
theorem dd_len : ∀ (k n : Nat), n < 10 ^ (k + 1) → (Lib.decDigits n).length ≤ k + 1
  | 0, n, h => by rw [Lib.decDigits_one (by simpa using h)]; simp
  | k + 1, n, h => by
    by_cases h10 : n < 10
    · rw [Lib.decDigits_one h10]; simp
    · rw [dd_big h10, List.length_append]
      have := dd_len k (n / 10) (by rw [Nat.pow_succ] at h; omega)
      simp; omega
theorem dd_len20 (n : Nat) (h : n < 18446744073709551616) : (Lib.decDigits n).length ≤ 20 := dd_len 19 n (by omega)
theorem tw_of {p : UInt8 → Bool} {l L R : List UInt8} {j : Nat} (hd : l.drop j = L ++ R) (hL : ∀ c ∈ L, p c = true) (hR : p (bAt R 0) = false ∨ R = []) : tw p l j = L.length := by
  unfold tw
  rw [hd, List.takeWhile_append_of_pos hL]
  have : R.takeWhile p = [] := by
    cases R with
    | nil => rfl
    | cons c R =>
      rcases hR with h | h
      · have h' : p c = false := h
        rw [List.takeWhile_cons, if_neg (by simp [h'])]
      · cases h
  rw [this, List.append_nil]
theorem digit_all {n : Nat} : ∀ c ∈ Lib.decDigits n, digitB c = true := fun c hc => by have := dd_digit n c hc; simpa [digitB] using this
theorem digit_112 : digitB 112 = false := by decide
theorem digit_45 : digitB 45 = false := by decide

theorem span_real (m : Nat) (x : Int) : spanE (realL m x) 0 = (3, (realL m x).length) ∧ skipS false (realL m x) = 0 := by
  obtain ⟨c, D, hD⟩ : ∃ c D, Lib.decDigits m = c :: D := by
    cases hx : Lib.decDigits m with
    | nil => exact absurd hx (dd_ne m)
    | cons c r => exact ⟨c, r, rfl⟩
  have hc : digitB c = true := digit_all c (by rw [hD]; simp)
  have hDd : ∀ y ∈ D, digitB y = true := fun y hy => digit_all (n := m) y (by rw [hD]; exact List.mem_cons_of_mem _ hy)
  have hcn : 48 ≤ c.toNat ∧ c.toNat ≤ 57 := by simpa [digitB] using hc
  have hlet : letterB c = false := by simp [letterB]; omega
  have hr : realL m x = c :: (D ++ 112 :: expL x) := by unfold realL; rw [hD]; rfl
  have hblank : blankB c = false ∧ c ≠ 35 := first_u8 c (.inr (.inl hc))
  constructor
  · have b0 : bAt (realL m x) 0 = c := by rw [hr]; rfl
    have t1 : tw digitB (realL m x) (0 + 1) = D.length := tw_of (L := D) (R := 112 :: expL x) (by rw [hr]; rfl) hDd (.inl digit_112)
    have hd1 : (realL m x).drop (1 + D.length) = 112 :: expL x := by rw [hr, Nat.add_comm, List.drop_succ_cons, List.drop_left]
    have hd2 : (realL m x).drop (1 + D.length + 1) = expL x := by rw [← List.drop_drop, hd1]; rfl
    have bd : bAt (realL m x) (1 + D.length) = 112 := by
      have : bAt ((realL m x).drop (1 + D.length)) 0 = bAt (realL m x) (1 + D.length + 0) := bAt_drop
      rw [hd1, Nat.add_zero] at this
      rw [← this]; rfl
    have bd1 : bAt (realL m x) (1 + D.length + 1) = bAt (expL x) 0 := by
      have : bAt ((realL m x).drop (1 + D.length + 1)) 0 = bAt (realL m x) (1 + D.length + 1 + 0) := bAt_drop
      rw [hd2, Nat.add_zero] at this
      exact this.symm
    have hlen : (realL m x).length = 1 + D.length + 1 + (expL x).length := by rw [hr]; simp; omega
    unfold spanE
    rw [b0, hlet, hc, t1, if_neg (by simp), if_pos rfl, Nat.zero_add]
    unfold numEnd
    rw [bd, if_neg (by simp), bd1]
    by_cases h0 : x < 0
    · have he : expL x = 45 :: Lib.decDigits (-x).toNat := by unfold expL; rw [if_pos h0]
      have e0 : bAt (expL x) 0 = 45 := by rw [he]; rfl
      rw [if_pos e0]
      have hd3 : (realL m x).drop (1 + D.length + 2) = Lib.decDigits (-x).toNat ++ [] := by
        rw [show 1 + D.length + 2 = 1 + D.length + 1 + 1 by omega, ← List.drop_drop, hd2, he]; simp
      rw [tw_of hd3 digit_all (.inr rfl), hlen, he]
      simp; omega
    · have he : expL x = Lib.decDigits x.toNat := by unfold expL; rw [if_neg h0]
      have e0 : bAt (expL x) 0 ≠ 45 := by rw [he]; exact dd_first _
      rw [if_neg e0]
      have hd3 : (realL m x).drop (1 + D.length + 1) = Lib.decDigits x.toNat ++ [] := by rw [hd2, he]; simp
      rw [tw_of hd3 digit_all (.inr rfl), hlen, he]
  · rw [hr]
    exact skip_none (m := c :: (D ++ 112 :: expL x)) hblank

/-- a real's text has one token, or one fault -/
theorem scan_real (m : Nat) (x : Int) (hm : m < 18446744073709551616) (hx : -9223372036854775808 ≤ x) (hx2 : x ≤ 9223372036854775807) :
    (realL m x).length ≤ 50 ∧ allF (realL m x) = [if m < 9223372036854775808 ∧ -9223372036854775808 < x ∧ oneFormB m x = true then ((⟨3, [], 0, realBits m x, 0, (realL m x).length⟩ : Tok), 0) else (⟨0, [], 0, 0, 0, 0⟩, 12)] := by
  obtain ⟨h1, h2⟩ := span_real m x
  have hlen : (realL m x).length ≤ 50 := by
    have a1 := dd_len20 m hm
    have a2 := dd_len20 (-x).toNat (by omega)
    have a3 := dd_len20 x.toNat (by omega)
    unfold realL expL
    split <;> simp <;> omega
  refine ⟨hlen, ?_⟩
  have hpc : pieceOf (realL m x) 0 (realL m x).length = realL m x := by unfold pieceOf; simp
  have hb : baseF (realL m x) 3 0 (realL m x).length = match scaledF (realL m x) with | some (a, b) => ([], 0, realBits a b, 0) | none => ([], 0, 0, 12) := by
    unfold baseF
    rw [if_neg (by decide), if_neg (by decide), if_pos rfl, hpc]
    cases scaledF (realL m x) with
    | none => rfl
    | some p => obtain ⟨a, b⟩ := p; rfl
  have hf : faultF (realL m x) 3 0 (realL m x).length = (baseF (realL m x) 3 0 (realL m x).length).2.2.2 := by
    unfold faultF
    rw [if_neg (by rw [bAt_ge (Nat.le_refl _), word0]; simp)]
  have hn : nextF (realL m x) 0 = if m < 9223372036854775808 ∧ -9223372036854775808 < x ∧ oneFormB m x = true then ((⟨3, [], 0, realBits m x, 0, (realL m x).length⟩ : Tok), 0) else (⟨0, [], 0, 0, 0, 0⟩, 12) := by
    unfold nextF
    rw [List.drop_zero, h2, Nat.zero_add]
    unfold tokAt
    rw [h1]
    simp only
    rw [hf, hb, scaled_dd m x hm hx hx2]
    by_cases hc : m < 9223372036854775808 ∧ -9223372036854775808 < x ∧ oneFormB m x = true
    · rw [if_pos hc, if_pos hc]
      simp
    · rw [if_neg hc, if_neg hc]
      simp
  unfold allF
  rw [if_neg (by omega), seqF, hn]
  by_cases hc : m < 9223372036854775808 ∧ -9223372036854775808 < x ∧ oneFormB m x = true
  · rw [if_pos hc]
    rw [if_neg (by simp), if_neg (by simp)]
    simp only [Nat.zero_add]
    rw [seq_end]
  · rw [if_neg hc, if_pos (by simp)]
end Go.Proofs.YtddeoemkjedonaaDoor
