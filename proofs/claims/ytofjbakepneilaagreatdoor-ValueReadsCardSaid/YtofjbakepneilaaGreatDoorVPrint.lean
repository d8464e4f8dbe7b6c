/- A value's text hangs on the value alone. -/
import Derived.Test.YtofjbakepneilaaGreatDoorMVReal
import Derived.Test.YtofjbakepneilaaGreatDoorVQuote
namespace Go.Proofs.YtofjbakepneilaaGreatDoor
open Go.RowKit Go.Shelf
set_option maxRecDepth 100000

theorem size_cat (a b : ByteArray) : (a ++ b).size = a.size + b.size := by simp
theorem magT_len {b : Nat} (hb : b < 9223372036854775808) : (magT b).size ≤ 42 := by
  unfold magT
  split
  · decide
  · split
    · decide
    · rename_i h1 h2
      have hb0 : b ≠ 0 := by
        rintro rfl
        exact h2 (by decide)
      have l1 := dd_len20 _ (oddM_bounds hb)
      obtain ⟨e1, e2⟩ := oddE_bounds hb hb0
      have l2 := itoa_len _ e1 e2
      rw [size_cat, size_cat]
      have s1 : (⟨(Lib.decDigits (oddM b / 2 ^ Lib.ctz 64 (oddM b))).toArray⟩ : ByteArray).size = (Lib.decDigits (oddM b / 2 ^ Lib.ctz 64 (oddM b))).length := rfl
      have s2 : (⟨(Lib.itoa (oddE b)).toArray⟩ : ByteArray).size = (Lib.itoa (oddE b)).length := rfl
      have s3 : (⟨#[112]⟩ : ByteArray).size = 1 := rfl
      omega
theorem xor_top (r : Nat) (hr : r < 2 ^ 63) : (2 ^ 63 + r) ^^^ 2 ^ 63 = r := by
  apply Nat.eq_of_testBit_eq
  intro i
  rw [Nat.testBit_xor, Nat.testBit_two_pow]
  rcases Nat.lt_trichotomy i 63 with h | h | h
  · rw [Nat.testBit_two_pow_add_gt h]
    have : decide (63 = i) = false := by rw [decide_eq_false_iff_not]; omega
    rw [this]; simp
  · subst h
    rw [Nat.testBit_two_pow_add_eq, Nat.testBit_lt_two_pow hr]; rfl
  · have h1 : (2 ^ 63 + r).testBit i = false := Nat.testBit_lt_two_pow (Nat.lt_of_lt_of_le (by omega : 2 ^ 63 + r < 2 ^ 64) (Nat.pow_le_pow_right (by omega) (by omega)))
    have h2 : r.testBit i = false := Nat.testBit_lt_two_pow (Nat.lt_of_lt_of_le hr (Nat.pow_le_pow_right (by omega) (by omega)))
    have : decide (63 = i) = false := by rw [decide_eq_false_iff_not]; omega
    rw [h1, h2, this]; rfl
theorem run_neg (b : Nat) (h1 : 9223372036854775808 ≤ b) (h2 : b < 18446744073709551616) (w : World) : (Op.unary UnOp.neg (.float .f64 b)).run Tryz.prog w = .ok (.float .f64 (b - 9223372036854775808)) w := by
  have e : Op.negFloat .f64 b = b - 9223372036854775808 := by
    have := xor_top (b - 9223372036854775808) (by omega)
    rw [show 2 ^ 63 + (b - 9223372036854775808) = b by omega] at this
    exact this
  show (pure (Value.float .f64 (Op.negFloat .f64 b)) : Sem Value).run Tryz.prog w = _
  rw [e]
  rfl
def realT (b : Nat) : ByteArray := if eqB b b = false then ⟨#[110, 97, 110]⟩ else if 9223372036854775808 ≤ b then ⟨#[45]⟩ ++ magT (b - 9223372036854775808) else magT b
theorem realT_len {b : Nat} (hb : b < 18446744073709551616) : (realT b).size ≤ 43 := by
  unfold realT
  split
  · decide
  · split
    · rw [size_cat]
      have := magT_len (b := b - 9223372036854775808) (by omega)
      have s3 : (⟨#[45]⟩ : ByteArray).size = 1 := rfl
      omega
    · have := magT_len (b := b) (by omega)
      omega
set_option maxHeartbeats 1000000 in
theorem real_any (b : Nat) (hb : b < 18446744073709551616) (w : World) (hG : GlobV w) :
    Calls Tryz.prog 41 #[.float .f64 b] w fun e w' => e = .returned (.string (realT b)) ∧ Below w.heap.size w w' := by
  have hn := isNaN_any b w
  have hs := sign_any b hb w
  have HG := Lib.hid hG
  cases he : eqB b b with
  | false =>
    have ht : realT b = ⟨#[110, 97, 110]⟩ := by unfold realT; rw [if_pos he]
    rw [he] at hn
    have HN := Lib.hid hn
    rw [ht]
    clear ht hn hs he hb
    go_enter Tryz.func41, Tryz.ntmps41
    go_wp2_with fail
    refine HN.out.mono ?_
    rintro e w' ⟨rfl, rfl⟩
    go_wp2_with fail
    go_ret
    exact ⟨rfl, Below.refl _ _⟩
  | true =>
    rw [he] at hn
    have HN := Lib.hid hn
    by_cases hsg : 9223372036854775808 ≤ b
    · have ht : realT b = ⟨#[45]⟩ ++ magT (b - 9223372036854775808) := by unfold realT; rw [if_neg (by simp [he]), if_pos hsg]
      have hm := mag_any (b - 9223372036854775808) (by omega) w hG
      have hl := magT_len (b := b - 9223372036854775808) (by omega)
      generalize magT (b - 9223372036854775808) = t at ht hm hl
      rw [decide_eq_true hsg] at hs
      have HS := Lib.hid hs
      have HM := Lib.hid hm
      have hneg := run_neg b hsg hb
      rw [ht]
      clear ht hn hs he hG hm
      go_enter Tryz.func41, Tryz.ntmps41
      go_wp2_with fail
      refine HN.out.mono ?_
      rintro e w' ⟨rfl, rfl⟩
      go_wp2_with fail
      refine HS.out.mono ?_
      rintro e w' ⟨rfl, rfl⟩
      go_wp2_with fail
      refine HM.out.mono ?_
      rintro e w1 ⟨rfl, hb1⟩
      have HB1 := Lib.hid hb1
      clear hb1
      go_wp2_with fail
      go_ret
      exact ⟨rfl, HB1.out⟩
    · have ht : realT b = magT b := by unfold realT; rw [if_neg (by simp [he]), if_neg hsg]
      have hm := mag_any b (by omega) w hG
      generalize magT b = t at ht hm
      rw [decide_eq_false hsg] at hs
      have HS := Lib.hid hs
      have HM := Lib.hid hm
      rw [ht]
      clear ht hn hs he hG hm hsg
      go_enter Tryz.func41, Tryz.ntmps41
      go_wp2_with fail
      refine HN.out.mono ?_
      rintro e w' ⟨rfl, rfl⟩
      go_wp2_with fail
      refine HS.out.mono ?_
      rintro e w' ⟨rfl, rfl⟩
      go_wp2_with fail
      refine HM.out.mono ?_
      rintro e w1 ⟨rfl, hb1⟩
      have HB1 := Lib.hid hb1
      clear hb1
      go_wp2_with fail
      go_ret
      exact ⟨rfl, HB1.out⟩

/-- a value as its five fields -/
def valV (kd iv : Int) (rl re im : Nat) (tx : ByteArray) : Value := .agg #[.int .i64 kd, .int .i64 iv, .float .f64 rl, .complex .f64 re im, .string tx]
def mayB (kd iv : Int) (tx : ByteArray) : Bool := if kd = 1 ∨ kd = 2 ∨ kd = 3 then true else if kd = 4 then decide (tx.size ≤ 256) else if kd = 5 then decide (iv = 0 ∨ iv = 1) else false
set_option maxHeartbeats 2000000 in
theorem may_any (kd iv : Int) (rl re im : Nat) (tx : ByteArray) (w : World) :
    Calls Tryz.prog 19 #[valV kd iv rl re im tx] w fun e w' => e = .returned (.bool (mayB kd iv tx)) ∧ Below w.heap.size w w' := by
  unfold valV
  have hb : Below w.heap.size w (w.alloc (.cells #[.int .i64 kd, .int .i64 iv, .float .f64 rl, .complex .f64 re im, .string tx] 25)) := (Below.refl _ w).alloc (Nat.le_refl _) _
  have HB := Lib.hid hb
  clear hb
  by_cases h1 : kd = 1
  · subst h1
    go_enter Tryz.func19, Tryz.ntmps19
    go_wp2_with fail
    go_ret
    exact ⟨rfl, HB.out⟩
  by_cases h2 : kd = 2
  · subst h2
    clear h1
    go_enter Tryz.func19, Tryz.ntmps19
    go_wp2_with fail
    go_ret
    exact ⟨rfl, HB.out⟩
  by_cases h3 : kd = 3
  · subst h3
    clear h1 h2
    go_enter Tryz.func19, Tryz.ntmps19
    go_wp2_with fail
    go_ret
    exact ⟨rfl, HB.out⟩
  by_cases h4 : kd = 4
  · subst h4
    have hm : mayB 4 iv tx = decide (tx.size ≤ 256) := rfl
    rw [hm]
    cases hd : decide (tx.size ≤ 256) with
    | true =>
      have t1 : decide ((tx.size : Int) ≤ 256) = true := by rw [decide_eq_true_eq] at hd ⊢; omega
      clear h1 h2 h3 hm
      go_enter Tryz.func19, Tryz.ntmps19
      go_wp2_with fail
      go_ret
      exact ⟨rfl, HB.out⟩
    | false =>
      have t1 : decide ((tx.size : Int) ≤ 256) = false := by rw [decide_eq_false_iff_not] at hd ⊢; omega
      clear h1 h2 h3 hm
      go_enter Tryz.func19, Tryz.ntmps19
      go_wp2_with fail
      go_ret
      exact ⟨rfl, HB.out⟩
  by_cases h5 : kd = 5
  · subst h5
    have hm : mayB 5 iv tx = decide (iv = 0 ∨ iv = 1) := rfl
    rw [hm]
    clear h1 h2 h3 h4 hm
    by_cases i0 : iv = 0
    · subst i0
      go_enter Tryz.func19, Tryz.ntmps19
      go_wp2_with fail
      go_ret
      exact ⟨rfl, HB.out⟩
    · by_cases i1 : iv = 1
      · subst i1
        clear i0
        go_enter Tryz.func19, Tryz.ntmps19
        go_wp2_with fail
        go_ret
        exact ⟨rfl, HB.out⟩
      · have t0 : (iv == 0) = false := by simpa using i0
        have t1 : (iv == 1) = false := by simpa using i1
        have hd : decide (iv = 0 ∨ iv = 1) = false := by simp [i0, i1]
        rw [hd]
        clear i0 i1 hd
        go_enter Tryz.func19, Tryz.ntmps19
        go_wp2_with fail
        go_ret
        exact ⟨rfl, HB.out⟩
  · have hm : mayB kd iv tx = false := by unfold mayB; rw [if_neg (by omega), if_neg h4, if_neg h5]
    have t1 : (kd == 1) = false := by simpa using h1
    have t2 : (kd == 2) = false := by simpa using h2
    have t3 : (kd == 3) = false := by simpa using h3
    have t4 : (kd == 4) = false := by simpa using h4
    have t5 : (kd == 5) = false := by simpa using h5
    rw [hm]
    clear hm h1 h2 h3 h4 h5
    go_enter Tryz.func19, Tryz.ntmps19
    go_wp2_with fail
    go_ret
    exact ⟨rfl, HB.out⟩
end Go.Proofs.YtofjbakepneilaaGreatDoor
