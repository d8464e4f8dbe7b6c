/- Wire: whether a value may be, how long it is (the program's, the reference's). -/
import Derived.Test.YtloofajopgbfmaaWjComp
import Derived.ShutString
namespace Go.Proofs.Ytloofajopgbfmaa
set_option linter.all false
open Go.RowKit
set_option maxRecDepth 100000

/-- a value as its five fields -/
def valV (kd iv : Int) (rl re im : Nat) (tx : ByteArray) : Value := .agg #[.int .i64 kd, .int .i64 iv, .float .f64 rl, .complex .f64 re im, .string tx]
def mayB (kd iv : Int) (tx : ByteArray) : Bool := if kd = 1 ∨ kd = 2 ∨ kd = 3 then true else if kd = 4 then decide (tx.size ≤ 256) else if kd = 5 then decide (iv = 0 ∨ iv = 1) else false
set_option maxHeartbeats 2000000 in
theorem may_any (kd iv : Int) (rl re im : Nat) (tx : ByteArray) (w : World) :
    Calls Try.prog 42 #[valV kd iv rl re im tx] w fun e w' => e = .returned (.bool (mayB kd iv tx)) ∧ Below w.heap.size w w' := by
  unfold valV
  have hb : Below w.heap.size w (w.alloc (.cells #[.int .i64 kd, .int .i64 iv, .float .f64 rl, .complex .f64 re im, .string tx] 27)) := (Below.refl _ w).alloc (Nat.le_refl _) _
  have HB := Lib.hid hb
  clear hb
  by_cases h1 : kd = 1
  · subst h1
    go_enter Try.func42, Try.ntmps42
    go_wp2_with fail
    go_ret
    exact ⟨rfl, HB.out⟩
  by_cases h2 : kd = 2
  · subst h2
    clear h1
    go_enter Try.func42, Try.ntmps42
    go_wp2_with fail
    go_ret
    exact ⟨rfl, HB.out⟩
  by_cases h3 : kd = 3
  · subst h3
    clear h1 h2
    go_enter Try.func42, Try.ntmps42
    go_wp2_with fail
    go_ret
    exact ⟨rfl, HB.out⟩
  by_cases h4 : kd = 4
  · subst h4
    have hm : mayB 4 iv tx = decide (tx.size ≤ 256) := rfl
    rw [hm]
    cases hd : decide (tx.size ≤ 256) with
    | true =>
      have t1 : decide ((tx.size : Int) ≤ 256) = true := by rw [decide_eq_true_eq] at hd ⊢; omega
      clear h1 h2 h3 hm
      go_enter Try.func42, Try.ntmps42
      go_wp2_with fail
      go_ret
      exact ⟨rfl, HB.out⟩
    | false =>
      have t1 : decide ((tx.size : Int) ≤ 256) = false := by rw [decide_eq_false_iff_not] at hd ⊢; omega
      clear h1 h2 h3 hm
      go_enter Try.func42, Try.ntmps42
      go_wp2_with fail
      go_ret
      exact ⟨rfl, HB.out⟩
  by_cases h5 : kd = 5
  · subst h5
    have hm : mayB 5 iv tx = decide (iv = 0 ∨ iv = 1) := rfl
    rw [hm]
    clear h1 h2 h3 h4 hm
    by_cases i0 : iv = 0
    · subst i0
      go_enter Try.func42, Try.ntmps42
      go_wp2_with fail
      go_ret
      exact ⟨rfl, HB.out⟩
    · by_cases i1 : iv = 1
      · subst i1
        clear i0
        go_enter Try.func42, Try.ntmps42
        go_wp2_with fail
        go_ret
        exact ⟨rfl, HB.out⟩
      · have t0 : (iv == 0) = false := by simpa using i0
        have t1 : (iv == 1) = false := by simpa using i1
        have hd : decide (iv = 0 ∨ iv = 1) = false := by simp [i0, i1]
        rw [hd]
        clear i0 i1 hd
        go_enter Try.func42, Try.ntmps42
        go_wp2_with fail
        go_ret
        exact ⟨rfl, HB.out⟩
  · have hm : mayB kd iv tx = false := by unfold mayB; rw [if_neg (by omega), if_neg h4, if_neg h5]
    have t1 : (kd == 1) = false := by simpa using h1
    have t2 : (kd == 2) = false := by simpa using h2
    have t3 : (kd == 3) = false := by simpa using h3
    have t4 : (kd == 4) = false := by simpa using h4
    have t5 : (kd == 5) = false := by simpa using h5
    rw [hm]
    clear hm h1 h2 h3 h4 h5
    go_enter Try.func42, Try.ntmps42
    go_wp2_with fail
    go_ret
    exact ⟨rfl, HB.out⟩
set_option maxHeartbeats 2000000 in
theorem rmay_any (kd iv : Int) (rl re im : Nat) (tx : ByteArray) (w : World) :
    Calls Try.prog 50 #[valV kd iv rl re im tx] w fun e w' => e = .returned (.bool (mayB kd iv tx)) ∧ Below w.heap.size w w' := by
  unfold valV
  have hb : Below w.heap.size w (w.alloc (.cells #[.int .i64 kd, .int .i64 iv, .float .f64 rl, .complex .f64 re im, .string tx] 27)) := (Below.refl _ w).alloc (Nat.le_refl _) _
  have HB := Lib.hid hb
  clear hb
  by_cases h4 : kd = 4
  · subst h4
    have hm : mayB 4 iv tx = decide (tx.size ≤ 256) := rfl
    rw [hm]
    cases hd : decide (tx.size ≤ 256) with
    | true =>
      have t1 : decide ((tx.size : Int) ≤ 256) = true := by rw [decide_eq_true_eq] at hd ⊢; omega
      clear hm
      go_enter Try.func50, Try.ntmps50
      go_wp2_with fail
      go_ret
      exact ⟨rfl, HB.out⟩
    | false =>
      have t1 : decide ((tx.size : Int) ≤ 256) = false := by rw [decide_eq_false_iff_not] at hd ⊢; omega
      clear hm
      go_enter Try.func50, Try.ntmps50
      go_wp2_with fail
      go_ret
      exact ⟨rfl, HB.out⟩
  by_cases h5 : kd = 5
  · subst h5
    have hm : mayB 5 iv tx = decide (iv = 0 ∨ iv = 1) := rfl
    rw [hm]
    clear h4 hm
    by_cases i0 : iv = 0
    · subst i0
      go_enter Try.func50, Try.ntmps50
      go_wp2_with fail
      go_ret
      exact ⟨rfl, HB.out⟩
    · by_cases i1 : iv = 1
      · subst i1
        clear i0
        go_enter Try.func50, Try.ntmps50
        go_wp2_with fail
        go_ret
        exact ⟨rfl, HB.out⟩
      · have t0 : (iv == 0) = false := by simpa using i0
        have t1 : (iv == 1) = false := by simpa using i1
        have hd : decide (iv = 0 ∨ iv = 1) = false := by simp [i0, i1]
        rw [hd]
        clear i0 i1 hd
        go_enter Try.func50, Try.ntmps50
        go_wp2_with fail
        go_ret
        exact ⟨rfl, HB.out⟩
  · have t4 : (kd == 4) = false := by simpa using h4
    have t5 : (kd == 5) = false := by simpa using h5
    by_cases h123 : 1 ≤ kd ∧ kd ≤ 3
    · have hm : mayB kd iv tx = true := by unfold mayB; rw [if_pos (by omega)]
      have d1 : decide ((1 : Int) ≤ kd) = true := decide_eq_true (by omega)
      have d2 : decide (kd ≤ 3) = true := decide_eq_true (by omega)
      rw [hm]
      clear hm h4 h5 h123
      go_enter Try.func50, Try.ntmps50
      go_wp2_with fail
      go_ret
      exact ⟨rfl, HB.out⟩
    · have hm : mayB kd iv tx = false := by unfold mayB; rw [if_neg (by omega), if_neg h4, if_neg h5]
      rw [hm]
      rcases Int.lt_or_le kd 1 with h | h
      · have d1 : decide ((1 : Int) ≤ kd) = false := decide_eq_false (by omega)
        clear hm h4 h5 h123 h
        go_enter Try.func50, Try.ntmps50
        go_wp2_with fail
        go_ret
        exact ⟨rfl, HB.out⟩
      · have d1 : decide ((1 : Int) ≤ kd) = true := decide_eq_true (by omega)
        have d2 : decide (kd ≤ 3) = false := decide_eq_false (by omega)
        clear hm h4 h5 h123 h
        go_enter Try.func50, Try.ntmps50
        go_wp2_with fail
        go_ret
        exact ⟨rfl, HB.out⟩
/-- may it be, and is no bool? -/
def mayW (kd : Int) (tx : ByteArray) : Bool := if kd = 1 ∨ kd = 2 ∨ kd = 3 then true else if kd = 4 then decide (tx.size ≤ 256) else false
set_option maxHeartbeats 2000000 in
theorem mayValue_any (kd iv : Int) (rl re im : Nat) (tx : ByteArray) (w : World) :
    Calls Try.prog 29 #[valV kd iv rl re im tx] w fun e w' => e = .returned (.bool (mayW kd tx)) ∧ Below w.heap.size w w' := by
  have hmay := fun W => may_any kd iv rl re im tx W
  unfold valV at hmay ⊢
  obtain ⟨W0, hW0⟩ : ∃ W0, W0 = w.alloc (.cells #[.int .i64 kd, .int .i64 iv, .float .f64 rl, .complex .f64 re im, .string tx] 27) := ⟨_, rfl⟩
  have hb : Below w.heap.size w W0 := by rw [hW0]; exact (Below.refl _ w).alloc (Nat.le_refl _) _
  have hx : Bk W0 w.heap.size 27 [.int .i64 kd, .int .i64 iv, .float .f64 rl, .complex .f64 re im, .string tx] := by rw [hW0]; exact Bk.new w _ _
  have HW0 := Lib.hid hW0
  have HB := Lib.hid hb
  have HM := Lib.hid hmay
  have c0 := hx.c 0 rfl
  have c1 := hx.c 1 rfl
  have c2 := hx.c 2 rfl
  have c3 := hx.c 3 rfl
  have c4 := hx.c 4 rfl
  clear hW0 hb hx hmay
  by_cases h5 : kd = 5
  · subst h5
    go_enter Try.func29, Try.ntmps29
    go_upto_region 1 with (fail)
    rw [← HW0.out]
    go_wp2_with fail
    go_ret
    exact ⟨rfl, HB.out⟩
  · have hm : mayB kd iv tx = mayW kd tx := by unfold mayB mayW; rw [if_neg h5]
    have t1 : (kd != 5) = true := by simpa using h5
    have t2 : (kd == 5) = false := by simpa using h5
    rw [hm] at HM
    generalize mayW kd tx = r at HM ⊢
    clear h5 hm
    go_enter Try.func29, Try.ntmps29
    go_upto_region 1 with (fail)
    rw [← HW0.out]
    go_wp2_with (go_at_call 42; (with_reducible refine (HM.out _).mono ?_); rintro e w1 ⟨rfl, hb1⟩; have HB1 := Lib.hid (HB.out.trans (hb1.mono HB.out.size)); clear hb1)
    go_ret
    exact ⟨rfl, HB1.out⟩
/-- how much of a payload's size a value takes -/
def szW (kd : Int) (tx : ByteArray) : Nat := if kd = 4 then tx.size else if kd = 3 then 16 else 8
set_option maxHeartbeats 2000000 in
theorem size_any (kd iv : Int) (rl re im : Nat) (tx : ByteArray) (w : World) (hm : mayW kd tx = true) :
    Calls Try.prog 49 #[valV kd iv rl re im tx] w fun e w' => e = .returned (.int .i64 (szW kd tx)) ∧ Below w.heap.size w w' := by
  have hmay := fun W => may_any kd iv rl re im tx W
  have h5 : kd ≠ 5 := by rintro rfl; exact absurd hm (by unfold mayW; simp)
  have hmb : mayB kd iv tx = true := by rw [← hm]; unfold mayB mayW; rw [if_neg h5]
  rw [hmb] at hmay
  unfold valV at hmay ⊢
  obtain ⟨W0, hW0⟩ : ∃ W0, W0 = w.alloc (.cells #[.int .i64 kd, .int .i64 iv, .float .f64 rl, .complex .f64 re im, .string tx] 27) := ⟨_, rfl⟩
  have hb : Below w.heap.size w W0 := by rw [hW0]; exact (Below.refl _ w).alloc (Nat.le_refl _) _
  have hx : Bk W0 w.heap.size 27 [.int .i64 kd, .int .i64 iv, .float .f64 rl, .complex .f64 re im, .string tx] := by rw [hW0]; exact Bk.new w _ _
  have HW0 := Lib.hid hW0
  have HB := Lib.hid hb
  have HX := Lib.hid hx
  have HM := Lib.hid hmay
  have c0 := hx.c 0 rfl
  have c1 := hx.c 1 rfl
  have c2 := hx.c 2 rfl
  have c3 := hx.c 3 rfl
  have c4 := hx.c 4 rfl
  have hk : kd = 1 ∨ kd = 2 ∨ kd = 3 ∨ kd = 4 := by
    unfold mayW at hm
    split at hm
    · omega
    · split at hm
      · omega
      · cases hm
  clear hW0 hb hx hmay hm h5 hmb
  rcases hk with rfl | rfl | rfl | rfl
  all_goals
    go_enter Try.func49, Try.ntmps49
    go_upto_region 1 with (fail)
    rw [← HW0.out]
    go_upto_region 2 with (go_at_call 42; (with_reducible refine (HM.out _).mono ?_); rintro e w1 ⟨rfl, hb1⟩; have HB1 := Lib.hid (HB.out.trans (hb1.mono HB.out.size)); have hx1 := HX.out.keep hb1 HX.out.lt; clear hb1; have d0 := hx1.c 0 rfl; have d4 := hx1.c 4 rfl; clear hx1 c0 c1 c2 c3 c4)
    go_wp2_with fail
    go_ret
    exact ⟨rfl, HB1.out⟩
end Go.Proofs.Ytloofajopgbfmaa
