/- Wire, the law's fields: a value and itself. -/
import Derived.Test.YtloofajopgbfmaaWjMay
import Derived.Test.YtloofajopgbfmaaWjVal
import Derived.Deep.QuietTactic
import Derived.BigQuiet
namespace Go.Proofs.Ytloofajopgbfmaa
set_option linter.all false
open Go.RowKit
set_option maxRecDepth 100000
theorem nan_eq (b : Nat) : (FloatKind.f64.format.order b b == some Ordering.eq) = !nanB b := eqB_self b
theorem nan_ne (b : Nat) : (FloatKind.f64.format.order b b != some Ordering.eq) = nanB b := by rw [bne, nan_eq]; simp
set_option maxHeartbeats 4000000 in
theorem fields_self (x : V9) (w : World) : Calls Try.prog 38 #[valO x, valO x] w fun e w' => e = .returned (.bool true) ∧ Below w.heap.size w w' := by
  obtain ⟨kd, iv, rl, re, im, tx⟩ := x
  unfold valO valV
  simp only
  generalize (⟨tx.toArray⟩ : ByteArray) = s
  obtain ⟨W0, hW0⟩ : ∃ W0, W0 = (w.alloc (.cells #[.int .i64 kd, .int .i64 iv, .float .f64 rl, .complex .f64 re im, .string s] 27)).alloc (.cells #[.int .i64 kd, .int .i64 iv, .float .f64 rl, .complex .f64 re im, .string s] 27) := ⟨_, rfl⟩
  have hb : Below w.heap.size w W0 := by rw [hW0]; exact ((Below.refl _ w).alloc (Nat.le_refl _) _).alloc (by simp) _
  have hx : Bk W0 w.heap.size 27 [.int .i64 kd, .int .i64 iv, .float .f64 rl, .complex .f64 re im, .string s] := by rw [hW0]; exact (Bk.new w _ _).alloc _
  have hy : Bk W0 (w.heap.size + 1) 27 [.int .i64 kd, .int .i64 iv, .float .f64 rl, .complex .f64 re im, .string s] := by rw [hW0]; exact heap_alloc2_new w _ _
  have HW0 := Lib.hid hW0
  have HB := Lib.hid hb
  have c0 := hx.c 0 rfl
  have c1 := hx.c 1 rfl
  have c2 := hx.c 2 rfl
  have c3 := hx.c 3 rfl
  have c4 := hx.c 4 rfl
  have e0 := hy.c 0 rfl
  have e1 := hy.c 1 rfl
  have e2 := hy.c 2 rfl
  have e3 := hy.c 3 rfl
  have e4 := hy.c 4 rfl
  have q1 := nan_eq rl
  have q2 := nan_ne rl
  have q3 := nan_eq re
  have q4 := nan_ne re
  have q5 := nan_eq im
  have q6 := nan_ne im
  clear hW0 hb hx hy
  cases h1 : nanB rl <;> cases h2 : nanB re <;> cases h3 : nanB im
  all_goals
    rw [h1] at q1 q2
    rw [h2] at q3 q4
    rw [h3] at q5 q6
    simp only [Bool.not_true, Bool.not_false] at q1 q3 q5
    clear h1 h2 h3
    go_enter Try.func38, Try.ntmps38
    go_upto_region 1 with (fail)
    rw [← HW0.out]
    go_wp2_with fail
    go_ret
    exact ⟨rfl, HB.out⟩
end Go.Proofs.Ytloofajopgbfmaa
