/- A real's sign (at a seat without the texts of reals). -/
import Derived.Test.YtddeoemkjedonaaDoorRealsPlain
import Derived.Test.YtddeoemkjedonaaDoorFloat
import Derived.Laws.Bits64b
namespace Go.Proofs.YtddeoemkjedonaaDoor
open Go.RowKit Go.Shelf
set_option maxRecDepth 100000

theorem sign_any (b : Nat) (hb : b < 18446744073709551616) (w : World) : Calls Tryd.prog 62 #[.float .f64 b] w fun e w' => e = .returned (.bool (decide (9223372036854775808 ≤ b))) ∧ w = w' := by
  have h1 := f64bits b
  by_cases h : 9223372036854775808 ≤ b
  · have e1 : IntKind.i64.wrap (b : Int) = (b : Int) - 18446744073709551616 := by rw [IntKind.wrap_i64]; omega
    have d1 : decide ((b : Int) - 18446744073709551616 < 0) = true := by rw [decide_eq_true_eq]; omega
    have d2 : decide (9223372036854775808 ≤ b) = true := by rw [decide_eq_true_eq]; exact h
    have d3 : (b : Int) < 18446744073709551616 := by omega
    rw [d2]
    clear h hb d2
    go_enter Tryd.func62, Tryd.ntmps62
    go_wp2
    go_ret
    exact ⟨rfl, rfl⟩
  · have e1 : IntKind.i64.wrap (b : Int) = (b : Int) := by rw [IntKind.wrap_i64]; omega
    have d1 : decide ((b : Int) < 0) = false := by rw [decide_eq_false_iff_not]; omega
    have d2 : decide (9223372036854775808 ≤ b) = false := by rw [decide_eq_false_iff_not]; exact h
    rw [d2]
    clear h hb d2
    go_enter Tryd.func62, Tryd.ntmps62
    go_wp2
    go_ret
    exact ⟨rfl, rfl⟩
end Go.Proofs.YtddeoemkjedonaaDoor
/- A value in five fields; whether it may be. -/
namespace Go.Proofs.YtddeoemkjedonaaDoor
open Go.RowKit Go.Shelf
set_option maxRecDepth 100000

/-- a value as its five fields -/
def valV (kd iv : Int) (rl re im : Nat) (tx : ByteArray) : Value := .agg #[.int .i64 kd, .int .i64 iv, .float .f64 rl, .complex .f64 re im, .string tx]
def mayB (kd iv : Int) (tx : ByteArray) : Bool := if kd = 1 ∨ kd = 2 ∨ kd = 3 then true else if kd = 4 then decide (tx.size ≤ 256) else if kd = 5 then decide (iv = 0 ∨ iv = 1) else false
set_option maxHeartbeats 2000000 in
theorem may_any (kd iv : Int) (rl re im : Nat) (tx : ByteArray) (w : World) :
    Calls Tryd.prog 53 #[valV kd iv rl re im tx] w fun e w' => e = .returned (.bool (mayB kd iv tx)) ∧ Below w.heap.size w w' := by
  unfold valV
  have hb : Below w.heap.size w (w.alloc (.cells #[.int .i64 kd, .int .i64 iv, .float .f64 rl, .complex .f64 re im, .string tx] 53)) := (Below.refl _ w).alloc (Nat.le_refl _) _
  have HB := Lib.hid hb
  clear hb
  by_cases h1 : kd = 1
  · subst h1
    go_enter Tryd.func53, Tryd.ntmps53
    go_wp2_with fail
    go_ret
    exact ⟨rfl, HB.out⟩
  by_cases h2 : kd = 2
  · subst h2
    clear h1
    go_enter Tryd.func53, Tryd.ntmps53
    go_wp2_with fail
    go_ret
    exact ⟨rfl, HB.out⟩
  by_cases h3 : kd = 3
  · subst h3
    clear h1 h2
    go_enter Tryd.func53, Tryd.ntmps53
    go_wp2_with fail
    go_ret
    exact ⟨rfl, HB.out⟩
  by_cases h4 : kd = 4
  · subst h4
    have hm : mayB 4 iv tx = decide (tx.size ≤ 256) := rfl
    rw [hm]
    cases hd : decide (tx.size ≤ 256) with
    | true =>
      have t1 : decide ((tx.size : Int) ≤ 256) = true := by rw [decide_eq_true_eq] at hd ⊢; omega
      clear h1 h2 h3 hm
      go_enter Tryd.func53, Tryd.ntmps53
      go_wp2_with fail
      go_ret
      exact ⟨rfl, HB.out⟩
    | false =>
      have t1 : decide ((tx.size : Int) ≤ 256) = false := by rw [decide_eq_false_iff_not] at hd ⊢; omega
      clear h1 h2 h3 hm
      go_enter Tryd.func53, Tryd.ntmps53
      go_wp2_with fail
      go_ret
      exact ⟨rfl, HB.out⟩
  by_cases h5 : kd = 5
  · subst h5
    have hm : mayB 5 iv tx = decide (iv = 0 ∨ iv = 1) := rfl
    rw [hm]
    clear h1 h2 h3 h4 hm
    by_cases i0 : iv = 0
    · subst i0
      go_enter Tryd.func53, Tryd.ntmps53
      go_wp2_with fail
      go_ret
      exact ⟨rfl, HB.out⟩
    · by_cases i1 : iv = 1
      · subst i1
        clear i0
        go_enter Tryd.func53, Tryd.ntmps53
        go_wp2_with fail
        go_ret
        exact ⟨rfl, HB.out⟩
      · have t0 : (iv == 0) = false := by simpa using i0
        have t1 : (iv == 1) = false := by simpa using i1
        have hd : decide (iv = 0 ∨ iv = 1) = false := by simp [i0, i1]
        rw [hd]
        clear i0 i1 hd
        go_enter Tryd.func53, Tryd.ntmps53
        go_wp2_with fail
        go_ret
        exact ⟨rfl, HB.out⟩
  · have hm : mayB kd iv tx = false := by unfold mayB; rw [if_neg (by omega), if_neg h4, if_neg h5]
    have t1 : (kd == 1) = false := by simpa using h1
    have t2 : (kd == 2) = false := by simpa using h2
    have t3 : (kd == 3) = false := by simpa using h3
    have t4 : (kd == 4) = false := by simpa using h4
    have t5 : (kd == 5) = false := by simpa using h5
    rw [hm]
    clear hm h1 h2 h3 h4 h5
    go_enter Tryd.func53, Tryd.ntmps53
    go_wp2_with fail
    go_ret
    exact ⟨rfl, HB.out⟩
end Go.Proofs.YtddeoemkjedonaaDoor
