/- Values, payloads, messages as bytes, plain: numbers in so many bytes, the highest first; forms; what bytes begin with; what is read has these bytes as its form. -/
import Derived.Test.YtloofajopgbfmaaFloatOrder
namespace Go.Proofs.Ytloofajopgbfmaa
set_option linter.all false

/-- a number in so many bytes, the highest first -/
def beW : Nat → Nat → List UInt8
  | 0, _ => []
  | k + 1, n => UInt8.ofNat (n / 256 ^ k % 256) :: beW k n
/-- the number that bytes say -/
def numW (l : List UInt8) : Nat := l.foldl (fun n b => 256 * n + b.toNat) 0
theorem beW_len : ∀ (k n : Nat), (beW k n).length = k
  | 0, _ => rfl
  | k + 1, n => by simp [beW, beW_len k n]
theorem numW_acc (l : List UInt8) : ∀ a : Nat, l.foldl (fun n b => 256 * n + b.toNat) a = 256 ^ l.length * a + numW l := by
  induction l with
  | nil => intro a; simp [numW]
  | cons x l ih =>
    intro a
    unfold numW
    rw [List.foldl_cons, List.foldl_cons, ih, ih (256 * 0 + x.toNat), List.length_cons, Nat.pow_succ]
    simp only [Nat.mul_zero, Nat.zero_add, Nat.mul_add, Nat.add_assoc, Nat.mul_assoc]
theorem numW_cons (x : UInt8) (l : List UInt8) : numW (x :: l) = 256 ^ l.length * x.toNat + numW l := by
  have h := numW_acc l (256 * 0 + x.toNat)
  simp only [Nat.mul_zero, Nat.zero_add] at h
  rw [← h]
  simp [numW]
theorem numW_snoc (l : List UInt8) (x : UInt8) : numW (l ++ [x]) = 256 * numW l + x.toNat := by
  simp [numW, List.foldl_append]
theorem numW_nil : numW [] = 0 := rfl
theorem numW_lt : ∀ l : List UInt8, numW l < 256 ^ l.length := by
  intro l
  induction l with
  | nil => simp [numW]
  | cons x l ih =>
    rw [numW_cons, List.length_cons, Nat.pow_succ]
    have hx : x.toNat ≤ 255 := by have := x.toNat_lt; omega
    have h2 : 256 ^ l.length * x.toNat ≤ 256 ^ l.length * 255 := Nat.mul_le_mul_left _ hx
    omega
theorem beW_mod : ∀ (k n a : Nat), beW k (256 ^ k * a + n) = beW k n := by
  intro k
  induction k with
  | zero => intro n a; rfl
  | succ k ih =>
    intro n a
    have hp : 0 < 256 ^ k := Nat.pow_pos (by decide)
    have e1 : 256 ^ (k + 1) * a + n = 256 ^ k * (256 * a) + n := by rw [Nat.pow_succ, Nat.mul_assoc]
    simp only [beW]
    rw [e1, ih, Nat.mul_add_div hp, Nat.mul_add_mod]
theorem beW_num : ∀ l : List UInt8, beW l.length (numW l) = l := by
  intro l
  induction l with
  | nil => rfl
  | cons x l ih =>
    have hp : 0 < 256 ^ l.length := Nat.pow_pos (by decide)
    have hl := numW_lt l
    rw [List.length_cons, numW_cons]
    simp only [beW]
    rw [beW_mod, ih, Nat.mul_add_div hp, Nat.div_eq_of_lt hl, Nat.add_zero]
    congr 1
    rw [Nat.mod_eq_of_lt x.toNat_lt]
    exact UInt8.ofNat_toNat
theorem numW_be : ∀ (k n : Nat), numW (beW k n) = n % 256 ^ k := by
  intro k
  induction k with
  | zero => intro n; simp [beW, numW, Nat.mod_one]
  | succ k ih =>
    intro n
    simp only [beW]
    rw [numW_cons, beW_len, ih]
    have e : (UInt8.ofNat (n / 256 ^ k % 256)).toNat = n / 256 ^ k % 256 := by
      simp
    rw [e, Nat.pow_succ, Nat.mod_mul]
    omega
/-- a value's fields -/
structure V9 where
  kd : Int
  iv : Int
  rl : Nat
  re : Nat
  im : Nat
  tx : List UInt8
def zero9 : V9 := ⟨0, 0, 0, 0, 0, []⟩
/-- what is no number, as it is written -/
def noneW : Nat := 9221120237041090561
def bitsW (b : Nat) : Nat := if nanB b then noneW else b
/-- an int out of its 64 bits -/
def intW (n : Nat) : Int := if n < 9223372036854775808 then n else (n : Int) - 18446744073709551616
def i64W (v : Int) : Nat := (v % 18446744073709551616).toNat
theorem intW_i64 (n : Nat) (h : n < 18446744073709551616) : i64W (intW n) = n := by
  unfold i64W intW
  split <;> omega
theorem i64W_int (v : Int) (h1 : -9223372036854775808 ≤ v) (h2 : v ≤ 9223372036854775807) : intW (i64W v) = v := by
  unfold i64W intW
  split <;> omega
/-- a value's form -/
def formV (v : V9) : List UInt8 :=
  UInt8.ofNat v.kd.toNat :: (if v.kd = 1 then beW 8 (i64W v.iv) else if v.kd = 2 then beW 8 (bitsW v.rl) else if v.kd = 3 then beW 8 (bitsW v.re) ++ beW 8 (bitsW v.im) else beW 2 v.tx.length ++ v.tx)
/-- may eight bytes stand for a real? -/
def okR (n : Nat) : Bool := !(nanB n) || n == noneW
/-- the value with which bytes begin, and how many bytes it has -/
def rdV (l : List UInt8) : Option (V9 × Nat) :=
  match l with
  | [] => none
  | k :: r =>
    if k = 1 then (if r.length < 8 then none else some (⟨1, intW (numW (r.take 8)), 0, 0, 0, []⟩, 9))
    else if k = 2 then (if r.length < 8 then none else if okR (numW (r.take 8)) then some (⟨2, 0, numW (r.take 8), 0, 0, []⟩, 9) else none)
    else if k = 3 then (if r.length < 16 then none else if okR (numW (r.take 8)) && okR (numW ((r.drop 8).take 8)) then some (⟨3, 0, 0, numW (r.take 8), numW ((r.drop 8).take 8), []⟩, 17) else none)
    else if k = 4 then (if r.length < 2 then none else if 256 < numW (r.take 2) then none else if r.length - 2 < numW (r.take 2) then none else some (⟨4, 0, 0, 0, 0, (r.drop 2).take (numW (r.take 2))⟩, 3 + numW (r.take 2)))
    else none
theorem numW_lt8 {l : List UInt8} (h : l.length = 8) : numW l < 18446744073709551616 := by
  have := numW_lt l
  rw [h] at this
  exact this
theorem okR_bits {n : Nat} (h : okR n = true) : bitsW n = n := by
  unfold okR at h
  unfold bitsW
  cases hb : nanB n with
  | false => rfl
  | true =>
    rw [hb] at h
    simp at h
    simp [h]
/-- a value that is plain, and may be, and is no bool -/
structure Plain9 (v : V9) : Prop where
  kd : v.kd = 1 ∨ v.kd = 2 ∨ v.kd = 3 ∨ v.kd = 4
  iv : v.kd ≠ 1 → v.iv = 0
  rl : v.kd ≠ 2 → v.rl = 0
  re : v.kd ≠ 3 → v.re = 0 ∧ v.im = 0
  tx : v.kd ≠ 4 → v.tx = []
  int : -9223372036854775808 ≤ v.iv ∧ v.iv ≤ 9223372036854775807
  wd : v.rl < 18446744073709551616 ∧ v.re < 18446744073709551616 ∧ v.im < 18446744073709551616
  ok : okR v.rl = true ∧ okR v.re = true ∧ okR v.im = true
  len : v.tx.length ≤ 256
theorem okR0 : okR 0 = true := by decide
theorem w0 : 0 < 18446744073709551616 := by decide
theorem i0 : (-9223372036854775808 : Int) ≤ 0 ∧ (0 : Int) ≤ 9223372036854775807 := by decide
theorem intW_range (n : Nat) (h : n < 18446744073709551616) : -9223372036854775808 ≤ intW n ∧ intW n ≤ 9223372036854775807 := by
  unfold intW
  split <;> omega
theorem take_len {l : List UInt8} {k : Nat} (h : ¬ l.length < k) : (l.take k).length = k := by
  rw [List.length_take]; omega
/-- what is read has just those bytes as its form, and is plain -/
theorem rdV_form {l : List UInt8} {v : V9} {n : Nat} (h : rdV l = some (v, n)) : n ≤ l.length ∧ formV v = l.take n ∧ Plain9 v ∧ 0 < n := by
  unfold rdV at h
  cases l with
  | nil => cases h
  | cons k r =>
    simp only at h
    by_cases h1 : k = 1
    · rw [if_pos h1] at h
      by_cases h8 : r.length < 8
      · rw [if_pos h8] at h; cases h
      · rw [if_neg h8] at h
        simp only [Option.some.injEq, Prod.mk.injEq] at h
        obtain ⟨rfl, rfl⟩ := h
        have ht := take_len h8
        have hl := numW_lt8 ht
        refine ⟨by simp; omega, ?_, ⟨.inl rfl, fun h => absurd rfl h, fun _ => rfl, fun _ => ⟨rfl, rfl⟩, fun _ => rfl, intW_range _ hl, ⟨w0, w0, w0⟩, ⟨okR0, okR0, okR0⟩, by simp⟩, by decide⟩
        have e := beW_num (r.take 8)
        rw [ht] at e
        simp only [formV, if_pos, intW_i64 _ hl, e, List.take_succ_cons]
        subst h1
        rfl
    · rw [if_neg h1] at h
      by_cases h2 : k = 2
      · rw [if_pos h2] at h
        by_cases h8 : r.length < 8
        · rw [if_pos h8] at h; cases h
        · rw [if_neg h8] at h
          by_cases ho : okR (numW (r.take 8)) = true
          · rw [if_pos ho] at h
            simp only [Option.some.injEq, Prod.mk.injEq] at h
            obtain ⟨rfl, rfl⟩ := h
            have ht := take_len h8
            have hl := numW_lt8 ht
            refine ⟨by simp; omega, ?_, ⟨.inr (.inl rfl), fun _ => rfl, fun h => absurd rfl h, fun _ => ⟨rfl, rfl⟩, fun _ => rfl, i0, ⟨hl, w0, w0⟩, ⟨ho, okR0, okR0⟩, by simp⟩, by decide⟩
            have e := beW_num (r.take 8)
            rw [ht] at e
            subst h2
            simp only [formV, okR_bits ho, e, List.take_succ_cons]
            rfl
          · rw [if_neg ho] at h; cases h
      · rw [if_neg h2] at h
        by_cases h3 : k = 3
        · rw [if_pos h3] at h
          by_cases h8 : r.length < 16
          · rw [if_pos h8] at h; cases h
          · rw [if_neg h8] at h
            by_cases ho : (okR (numW (r.take 8)) && okR (numW ((r.drop 8).take 8))) = true
            · rw [if_pos ho] at h
              simp only [Option.some.injEq, Prod.mk.injEq] at h
              obtain ⟨rfl, rfl⟩ := h
              simp only [Bool.and_eq_true] at ho
              have ht : (r.take 8).length = 8 := take_len (by omega)
              have ht2 : ((r.drop 8).take 8).length = 8 := take_len (by simp; omega)
              refine ⟨by simp; omega, ?_, ⟨.inr (.inr (.inl rfl)), fun _ => rfl, fun _ => rfl, fun h => absurd rfl h, fun _ => rfl, i0, ⟨w0, numW_lt8 ht, numW_lt8 ht2⟩, ⟨okR0, ho.1, ho.2⟩, by simp⟩, by decide⟩
              have e := beW_num (r.take 8)
              rw [ht] at e
              have e2 := beW_num ((r.drop 8).take 8)
              rw [ht2] at e2
              subst h3
              simp only [formV, okR_bits ho.1, okR_bits ho.2, e, e2, List.take_succ_cons]
              rw [show (16 : Nat) = 8 + 8 from rfl, List.take_add]
              rfl
            · rw [if_neg ho] at h; cases h
        · rw [if_neg h3] at h
          by_cases h4 : k = 4
          · rw [if_pos h4] at h
            by_cases h8 : r.length < 2
            · rw [if_pos h8] at h; cases h
            · rw [if_neg h8] at h
              by_cases h9 : 256 < numW (r.take 2)
              · rw [if_pos h9] at h; cases h
              · rw [if_neg h9] at h
                by_cases h10 : r.length - 2 < numW (r.take 2)
                · rw [if_pos h10] at h; cases h
                · rw [if_neg h10] at h
                  simp only [Option.some.injEq, Prod.mk.injEq] at h
                  obtain ⟨rfl, rfl⟩ := h
                  have ht : (r.take 2).length = 2 := take_len h8
                  generalize hN : numW (r.take 2) = N at *
                  have ht2 : ((r.drop 2).take N).length = N := take_len (by simp; omega)
                  refine ⟨by simp; omega, ?_, ⟨.inr (.inr (.inr rfl)), fun _ => rfl, fun _ => rfl, fun _ => ⟨rfl, rfl⟩, fun h => absurd rfl h, i0, ⟨w0, w0, w0⟩, ⟨okR0, okR0, okR0⟩, by simp only [ht2]; omega⟩, by omega⟩
                  have e := beW_num (r.take 2)
                  rw [ht, hN] at e
                  subst h4
                  rw [show 3 + N = (2 + N) + 1 by omega, List.take_succ_cons, List.take_add]
                  simp only [formV, ht2, e]
                  rfl
          · rw [if_neg h4] at h; cases h
end Go.Proofs.Ytloofajopgbfmaa
