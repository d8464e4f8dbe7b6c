/- Wire: the reference's Same: a value that may be and itself. -/
import Derived.Test.YtloofajopgbfmaaWjMay
import Derived.Test.YtloofajopgbfmaaWjRdM
import Derived.Test.YtloofajopgbfmaaWjRef0
import Derived.Deep.RegionHeld3
import Derived.Deep.RegionWith
import Derived.Deep.QuietTactic
import Derived.BigQuiet
import Derived.Laws.FloatArith
namespace Go.Proofs.Ytloofajopgbfmaa
set_option linter.all false
open Go.RowKit
set_option maxRecDepth 100000
theorem key_pos {b : Nat} (h : b < 9223372036854775808) : keyI b = (b : Int) ∧ rungB b = b := by
  have h1 : rungB b = b := by unfold rungB; omega
  have h2 : negB b = false := by
    unfold negB
    rw [show b / 9223372036854775808 = 0 by omega]
    rfl
  unfold keyI
  rw [h2, h1]
  exact ⟨rfl, rfl⟩
theorem nan_pos {b : Nat} (h : b < 9223372036854775808) : nanB b = decide (9218868437227405312 < b) := by
  unfold nanB
  rw [(key_pos h).2]
theorem cmp_not_lt (x y : Int) (h : y ≤ x) : (some (compare x y) == some Ordering.lt) = false := by
  have h1 : compare x y ≠ .lt := by rw [Ne, Int.compare_eq_lt]; omega
  revert h1; cases compare x y <;> simp
theorem cmp_not_eq (x y : Int) (h : x ≠ y) : (some (compare x y) == some Ordering.eq) = false := by
  have h1 : compare x y ≠ .eq := by rw [Ne, Int.compare_eq_eq]; exact h
  revert h1; cases compare x y <;> simp
theorem inv_zero : floatBits .quo .f64 4607182418800017408 0 = some 9218868437227405312 := by decide
theorem inv_less : floatBits .quo .f64 4607182418800017408 9223372036854775808 = some 18442240474082181120 := by decide
theorem key_neg {c : Nat} (h : c < 9223372036854775808) : keyI (9223372036854775808 + c) = -(c : Int) ∧ rungB (9223372036854775808 + c) = c := by
  have h1 : rungB (9223372036854775808 + c) = c := by unfold rungB; omega
  have h2 : negB (9223372036854775808 + c) = true := by
    unfold negB
    rw [show (9223372036854775808 + c) / 9223372036854775808 = 1 by omega]
    rfl
  unfold keyI
  rw [h2, h1]
  exact ⟨rfl, rfl⟩
theorem order_zero (b : Nat) (h : nanB b = false) : FloatKind.f64.format.order b 0 = some (compare (keyI b) 0) := by
  show Ieee.double.order b 0 = _
  rw [order_key b 0 h (by decide)]
  rfl
set_option maxHeartbeats 1000000 in
theorem below_pos (b : Nat) (h : b ≤ 9218868437227405312) (w : World) : Calls Try.prog 61 #[.float .f64 b] w fun e w' => e = .returned (.bool false) ∧ w = w' := by
  have hn : nanB b = false := by rw [nan_pos (by omega)]; exact decide_eq_false (by omega)
  have ho := order_zero b hn
  rw [(key_pos (by omega)).1] at ho
  have g0 : ∀ ty w, (binOp .quo ty (.float .f64 4607182418800017408) (.float .f64 0)).run Try.prog w = .ok (.float .f64 9218868437227405312) w := fun ty w => run_float_arith (h := inv_zero) ..
  have g1 : (FloatKind.f64.format.order 9218868437227405312 0 == some Ordering.lt) = false := by decide
  by_cases h0 : b = 0
  · subst h0
    have o1 : (FloatKind.f64.format.order 0 0 == some Ordering.lt) = false := by decide
    have o2 : (FloatKind.f64.format.order 0 0 == some Ordering.eq) = true := by decide
    clear ho hn h
    go_enter Try.func61, Try.ntmps61
    go_wp2
    go_ret
    exact ⟨rfl, rfl⟩
  · have o1 : (FloatKind.f64.format.order b 0 == some Ordering.lt) = false := by rw [ho]; exact cmp_not_lt _ _ (by omega)
    have o2 : (FloatKind.f64.format.order b 0 == some Ordering.eq) = false := by rw [ho]; exact cmp_not_eq _ _ (by omega)
    clear ho hn h h0
    go_enter Try.func61, Try.ntmps61
    go_wp2
    go_ret
    exact ⟨rfl, rfl⟩
set_option maxHeartbeats 1000000 in
theorem below_neg (c : Nat) (h : c ≤ 9218868437227405312) (w : World) : Calls Try.prog 61 #[.float .f64 (9223372036854775808 + c)] w fun e w' => e = .returned (.bool true) ∧ w = w' := by
  have hn : nanB (9223372036854775808 + c) = false := by unfold nanB; rw [(key_neg (by omega)).2]; exact decide_eq_false (by omega)
  have ho := order_zero _ hn
  rw [(key_neg (by omega)).1] at ho
  have g0 : ∀ ty w, (binOp .quo ty (.float .f64 4607182418800017408) (.float .f64 9223372036854775808)).run Try.prog w = .ok (.float .f64 18442240474082181120) w := fun ty w => run_float_arith (h := inv_less) ..
  have g1 : (FloatKind.f64.format.order 18442240474082181120 0 == some Ordering.lt) = true := by decide
  by_cases h0 : c = 0
  · subst h0
    have o1 : (FloatKind.f64.format.order 9223372036854775808 0 == some Ordering.lt) = false := by decide
    have o2 : (FloatKind.f64.format.order 9223372036854775808 0 == some Ordering.eq) = true := by decide
    clear ho hn h
    show Calls Try.prog 61 #[.float .f64 9223372036854775808] w _
    go_enter Try.func61, Try.ntmps61
    go_wp2
    go_ret
    exact ⟨rfl, rfl⟩
  · have o1 : (FloatKind.f64.format.order (9223372036854775808 + c) 0 == some Ordering.lt) = true := by rw [ho, Int.compare_eq_lt.2 (by omega)]; rfl
    clear ho hn h h0
    generalize 9223372036854775808 + c = b at o1
    go_enter Try.func61, Try.ntmps61
    go_wp2
    go_ret
    exact ⟨rfl, rfl⟩
def SameR (a b : Nat) : Prop := (nanB a = true ∧ nanB b = true) ∨ (a = b ∧ nanB a = false ∧ a < 18446744073709551616)
set_option maxHeartbeats 1000000 in
theorem reals_same (a b : Nat) (h : SameR a b) (w : World) : Calls Try.prog 59 #[.float .f64 a, .float .f64 b] w fun e w' => e = .returned (.int .i64 0) ∧ w = w' := by
  rcases h with ⟨h1, h2⟩ | ⟨rfl, h1, h2⟩
  · have q1 : (FloatKind.f64.format.order a a == some Ordering.eq) = false := by have := eqB_self a; rw [h1] at this; exact this
    have q2 : (FloatKind.f64.format.order b b == some Ordering.eq) = false := by have := eqB_self b; rw [h2] at this; exact this
    have q3 : (FloatKind.f64.format.order a a != some Ordering.eq) = true := by rw [bne, q1]; rfl
    have q4 : (FloatKind.f64.format.order b b != some Ordering.eq) = true := by rw [bne, q2]; rfl
    clear h1 h2
    go_enter Try.func59, Try.ntmps59
    go_wp2
    go_ret
    exact ⟨rfl, rfl⟩
  · have q1 : (FloatKind.f64.format.order a a == some Ordering.eq) = true := by have := eqB_self a; rw [h1] at this; exact this
    have q3 : (FloatKind.f64.format.order a a != some Ordering.eq) = false := by rw [bne, q1]; rfl
    have ho : FloatKind.f64.format.order a a = some Ordering.eq := eq_of_beq q1
    have q5 : (FloatKind.f64.format.order a a == some Ordering.lt) = false := by rw [ho]; rfl
    have q6 : (FloatKind.f64.format.order a a == some Ordering.gt) = false := by rw [ho]; rfl
    have hr : a % 9223372036854775808 ≤ 9218868437227405312 := by
      have h := h1
      unfold nanB rungB at h
      have := of_decide_eq_false h
      omega
    have hb : ∃ x, ∀ W, Calls Try.prog 61 #[.float .f64 a] W fun e w' => e = .returned (.bool x) ∧ W = w' := by
      by_cases h2' : 9223372036854775808 ≤ a
      · obtain ⟨c, rfl⟩ : ∃ c, a = 9223372036854775808 + c := ⟨a - 9223372036854775808, by omega⟩
        exact ⟨true, fun W => below_neg c (by omega) W⟩
      · exact ⟨false, fun W => below_pos a (by omega) W⟩
    obtain ⟨x, hx⟩ := hb
    have HX := Lib.hid hx
    clear h1 h2 hr hx ho
    cases x
    · go_enter Try.func59, Try.ntmps59
      go_wp2_with (go_at_call 61; refine (HX.out _).mono ?_; rintro e w' ⟨rfl, rfl⟩)
      go_ret
      exact ⟨rfl, rfl⟩
    · go_enter Try.func59, Try.ntmps59
      go_wp2_with (go_at_call 61; refine (HX.out _).mono ?_; rintro e w' ⟨rfl, rfl⟩)
      go_ret
      exact ⟨rfl, rfl⟩
theorem below_dn {B : Nat} {w W : World} (h : Below B w W) (k : Nat) : Below B w (W.drewN k) := h.trans ⟨rfl, rfl, rfl, Nat.le_refl _, fun _ _ => rfl⟩
set_option maxHeartbeats 2000000 in
theorem wtexts_self (t : ByteArray) (ht : t.size ≤ 256) (w : World) : Calls Try.prog 60 #[.string t, .string t] w fun e w' => e = .returned (.int .i64 0) ∧ Below w.heap.size w w' := by
  go_enter Try.func60, Try.ntmps60
  go_wp2
  go_loopw [5] (fun i wr => ∃ k : Nat, i = .int .i64 k ∧ k ≤ t.size ∧ Hid (Below w.heap.size w wr)) (fun i _ => t.size - (intOf i).toNat)
  case atStart => exact ⟨0, rfl, Nat.zero_le _, Lib.hid (Below.refl _ _)⟩
  case round =>
    obtain ⟨k, rfl, hk, HB⟩ := hrel
    rcases Nat.lt_or_ge k t.size with hlt | hge
    · have d1 : decide ((k : Int) < (t.size : Int)) = true := decide_eq_true (by omega)
      have e2 : (0 : Int) ≤ (k : Int) := by omega
      have e3 : (k : Int) < (t.size : Int) := by omega
      go_upto_region 4 with (fail)
      go_quiet (fail)
      have HB2 := Lib.hid (below_dn HB.out nq)
      generalize wr.drewN nq = w2 at HB2 ⊢
      go_upto_region 6 with (fail)
      go_quiet (fail)
      have HB3 := Lib.hid (below_dn HB2.out nq)
      generalize w2.drewN nq = w3 at HB3 ⊢
      go_wp2
      go_roundw
      case rel => exact ⟨k + 1, by go_num, by omega, HB3⟩
      case measure => simp [intOf]; omega
    · obtain rfl : k = t.size := by omega
      have d1 : decide ((t.size : Int) < (t.size : Int)) = false := decide_eq_false (by omega)
      clear hk hge
      go_wp2
      go_ret
      exact ⟨rfl, HB.out⟩
def Boxv (w : World) (g : Nat) (a b c d e : Value) : Prop := w.heap[g]? = some (.cells #[a, b, c, d, e] 27 (0, 0))
theorem Boxv.keep {w w' : World} {B g : Nat} {a b c d e : Value} (h : Boxv w g a b c d e) (hb : Below B w w') (hg : g < B) : Boxv w' g a b c d e := (hb.block g hg).trans h
theorem Boxv.c0 {w : World} {g : Nat} {a b c d e : Value} (h : Boxv w g a b c d e) : w.cell? ⟨g, 0, none⟩ = some a := by rw [cell_of_row w g 0 _ _ _ h]; rfl
theorem Boxv.c1 {w : World} {g : Nat} {a b c d e : Value} (h : Boxv w g a b c d e) : w.cell? ⟨g, 1, none⟩ = some b := by rw [cell_of_row w g 1 _ _ _ h]; rfl
theorem Boxv.c2 {w : World} {g : Nat} {a b c d e : Value} (h : Boxv w g a b c d e) : w.cell? ⟨g, 2, none⟩ = some c := by rw [cell_of_row w g 2 _ _ _ h]; rfl
theorem Boxv.c3 {w : World} {g : Nat} {a b c d e : Value} (h : Boxv w g a b c d e) : w.cell? ⟨g, 3, none⟩ = some d := by rw [cell_of_row w g 3 _ _ _ h]; rfl
theorem Boxv.c4 {w : World} {g : Nat} {a b c d e : Value} (h : Boxv w g a b c d e) : w.cell? ⟨g, 4, none⟩ = some e := by rw [cell_of_row w g 4 _ _ _ h]; rfl
theorem Boxv.fz {w : World} {g : Nat} {a b c d e : Value} (h : Boxv w g a b c d e) (j : Nat) : w.frozen? ⟨g, j, none⟩ = false := frozen_of_row w g j _ _ h
theorem Boxv.lt {w : World} {g : Nat} {a b c d e : Value} (h : Boxv w g a b c d e) : g < w.heap.size := Bk.lt (T := 27) (cs := [a, b, c, d, e]) h
set_option maxHeartbeats 8000000 in
theorem wcompare_text (kd iv : Int) (rl rl2 : Nat) (tx : ByteArray) (hrr : rl2 = rl) (hk : kd = 4) (ht : tx.size ≤ 256) (w : World) : Calls Try.prog 52 #[valV kd iv rl 0 0 tx, valV kd iv rl2 0 0 tx] w fun e w' => e = .returned (.int .i64 0) ∧ Below w.heap.size w w' := by
  have hm1 := fun W => rmay_any kd iv rl 0 0 tx W
  have hm2 := fun W => rmay_any kd iv rl2 0 0 tx W
  generalize mayB kd iv tx = mb at hm1 hm2
  have HR := Lib.hid (fun W => wtexts_self tx ht W)
  clear ht
  subst hk
  unfold valV
  obtain ⟨W0, hW0⟩ : ∃ W0, W0 = (w.alloc (.cells #[.int .i64 4, .int .i64 iv, .float .f64 rl, .complex .f64 0 0, .string tx] 27)).alloc (.cells #[.int .i64 4, .int .i64 iv, .float .f64 rl2, .complex .f64 0 0, .string tx] 27) := ⟨_, rfl⟩
  have hB0 : Below w.heap.size w W0 := by rw [hW0]; exact ((Below.refl w.heap.size w).alloc (Nat.le_refl _) _).alloc (by simp) _
  have hb0 : Boxv W0 w.heap.size (.int .i64 4) (.int .i64 iv) (.float .f64 rl) (.complex .f64 0 0) (.string tx) := by rw [hW0]; exact heap_alloc2_old _ _ _
  have hb1 : Boxv W0 (w.heap.size + 1) (.int .i64 4) (.int .i64 iv) (.float .f64 rl2) (.complex .f64 0 0) (.string tx) := by rw [hW0]; exact heap_alloc2_new _ _ _
  have HW0 := Lib.hid hW0
  have HB0 := Lib.hid hB0
  have HX0 := Lib.hid hb0
  have HY0 := Lib.hid hb1
  clear hW0 hB0 hb0 hb1
  unfold valV at hm1 hm2
  have HM1 := Lib.hid hm1
  have HM2 := Lib.hid hm2
  clear hm1 hm2 hrr
  cases mb
  all_goals
    have pc0 := HX0.out.c0
    have pc1 := HX0.out.c1
    have pc2 := HX0.out.c2
    have pc3 := HX0.out.c3
    have pc4 := HX0.out.c4
    have plt := HX0.out.lt
    have qc0 := HY0.out.c0
    have qc1 := HY0.out.c1
    have qc2 := HY0.out.c2
    have qc3 := HY0.out.c3
    have qc4 := HY0.out.c4
    have qlt := HY0.out.lt
    go_enter Try.func52, Try.ntmps52
    go_upto_region 1 with (fail)
    rw [← HW0.out]
    go_region_held3 (fun W => W.cell? ⟨w.heap.size, 0, none⟩ = some (.int .i64 4) ∧ W.cell? ⟨w.heap.size, 1, none⟩ = some (.int .i64 iv) ∧ W.cell? ⟨w.heap.size, 2, none⟩ = some (.float .f64 rl) ∧ W.cell? ⟨w.heap.size, 3, none⟩ = some (.complex .f64 0 0) ∧ W.cell? ⟨w.heap.size, 4, none⟩ = some (.string tx) ∧ W.cell? ⟨w.heap.size + 1, 0, none⟩ = some (.int .i64 4) ∧ W.cell? ⟨w.heap.size + 1, 1, none⟩ = some (.int .i64 iv) ∧ W.cell? ⟨w.heap.size + 1, 2, none⟩ = some (.float .f64 rl2) ∧ W.cell? ⟨w.heap.size + 1, 3, none⟩ = some (.complex .f64 0 0) ∧ W.cell? ⟨w.heap.size + 1, 4, none⟩ = some (.string tx))
      (first | (refine ⟨?_, ?_, ?_, ?_, ?_, ?_, ?_, ?_, ?_, ?_⟩ <;> assumption) | go_keep)
      (first
        | (go_at_call 50; with_reducible refine (HM1.out _).mono ?_; rintro e w1 ⟨rfl, hb1⟩; have hb1 : Below W0.heap.size W0 w1 := (by first | exact hb1 | exact ((Below.refl W0.heap.size W0).drew).trans (hb1.mono (Below.refl W0.heap.size W0).drew.size)); have HB1 := Lib.hid (HB0.out.trans (hb1.mono HB0.out.size)); have HX1 := Lib.hid (HX0.out.keep hb1 plt); have HY1 := Lib.hid (HY0.out.keep hb1 qlt); clear hb1; have rc0 := HX1.out.c0; have rc1 := HX1.out.c1; have rc2 := HX1.out.c2; have rc3 := HX1.out.c3; have rc4 := HX1.out.c4; have rlt := HX1.out.lt; have sc0 := HY1.out.c0; have sc1 := HY1.out.c1; have sc2 := HY1.out.c2; have sc3 := HY1.out.c3; have sc4 := HY1.out.c4; have slt := HY1.out.lt)
        | (go_at_call 50; with_reducible refine (HM2.out _).mono ?_; rintro e w2 ⟨rfl, hb2⟩; have HB2 := Lib.hid (HB1.out.trans (hb2.mono HB1.out.size)); have HX2 := Lib.hid (HX1.out.keep hb2 rlt); have HY2 := Lib.hid (HY1.out.keep hb2 slt); clear hb2; have tc0 := HX2.out.c0; have tc1 := HX2.out.c1; have tc2 := HX2.out.c2; have tc3 := HX2.out.c3; have tc4 := HX2.out.c4; have tlt := HX2.out.lt; have uc0 := HY2.out.c0; have uc1 := HY2.out.c1; have uc2 := HY2.out.c2; have uc3 := HY2.out.c3; have uc4 := HY2.out.c4; have ult := HY2.out.lt))
    all_goals
      go_wp2_with (go_at_call 60; with_reducible refine (HR.out _).mono ?_; rintro e w' ⟨rfl, hb9⟩; have HB3 := Lib.hid (HB2.out.trans (hb9.mono HB2.out.size)); clear hb9)
      go_ret
      first | exact ⟨rfl, HB3.out⟩ | exact ⟨rfl, HB2.out⟩
set_option maxHeartbeats 8000000 in
theorem wcompare_int (kd iv : Int) (rl rl2 : Nat) (tx : ByteArray) (hrr : rl2 = rl) (h2 : kd ≠ 2) (h3 : kd ≠ 3) (h4 : kd ≠ 4) (w : World) : Calls Try.prog 52 #[valV kd iv rl 0 0 tx, valV kd iv rl2 0 0 tx] w fun e w' => e = .returned (.int .i64 0) ∧ Below w.heap.size w w' := by
  have hm1 := fun W => rmay_any kd iv rl 0 0 tx W
  have hm2 := fun W => rmay_any kd iv rl2 0 0 tx W
  generalize mayB kd iv tx = mb at hm1 hm2

  have t2 : (kd == 2) = false := beq_eq_false_iff_ne.2 h2
  have t3 : (kd == 3) = false := beq_eq_false_iff_ne.2 h3
  have t4 : (kd == 4) = false := beq_eq_false_iff_ne.2 h4
  have tk : (kd == kd) = true := beq_self_eq_true _
  have ti : decide (iv < iv) = false := decide_eq_false (by omega)
  clear h2 h3 h4
  unfold valV
  obtain ⟨W0, hW0⟩ : ∃ W0, W0 = (w.alloc (.cells #[.int .i64 kd, .int .i64 iv, .float .f64 rl, .complex .f64 0 0, .string tx] 27)).alloc (.cells #[.int .i64 kd, .int .i64 iv, .float .f64 rl2, .complex .f64 0 0, .string tx] 27) := ⟨_, rfl⟩
  have hB0 : Below w.heap.size w W0 := by rw [hW0]; exact ((Below.refl w.heap.size w).alloc (Nat.le_refl _) _).alloc (by simp) _
  have hb0 : Boxv W0 w.heap.size (.int .i64 kd) (.int .i64 iv) (.float .f64 rl) (.complex .f64 0 0) (.string tx) := by rw [hW0]; exact heap_alloc2_old _ _ _
  have hb1 : Boxv W0 (w.heap.size + 1) (.int .i64 kd) (.int .i64 iv) (.float .f64 rl2) (.complex .f64 0 0) (.string tx) := by rw [hW0]; exact heap_alloc2_new _ _ _
  have HW0 := Lib.hid hW0
  have HB0 := Lib.hid hB0
  have HX0 := Lib.hid hb0
  have HY0 := Lib.hid hb1
  clear hW0 hB0 hb0 hb1
  unfold valV at hm1 hm2
  have HM1 := Lib.hid hm1
  have HM2 := Lib.hid hm2
  clear hm1 hm2 hrr
  cases mb
  all_goals
    have pc0 := HX0.out.c0
    have pc1 := HX0.out.c1
    have pc2 := HX0.out.c2
    have pc3 := HX0.out.c3
    have pc4 := HX0.out.c4
    have plt := HX0.out.lt
    have qc0 := HY0.out.c0
    have qc1 := HY0.out.c1
    have qc2 := HY0.out.c2
    have qc3 := HY0.out.c3
    have qc4 := HY0.out.c4
    have qlt := HY0.out.lt
    go_enter Try.func52, Try.ntmps52
    go_upto_region 1 with (fail)
    rw [← HW0.out]
    go_region_held3 (fun W => W.cell? ⟨w.heap.size, 0, none⟩ = some (.int .i64 kd) ∧ W.cell? ⟨w.heap.size, 1, none⟩ = some (.int .i64 iv) ∧ W.cell? ⟨w.heap.size, 2, none⟩ = some (.float .f64 rl) ∧ W.cell? ⟨w.heap.size, 3, none⟩ = some (.complex .f64 0 0) ∧ W.cell? ⟨w.heap.size, 4, none⟩ = some (.string tx) ∧ W.cell? ⟨w.heap.size + 1, 0, none⟩ = some (.int .i64 kd) ∧ W.cell? ⟨w.heap.size + 1, 1, none⟩ = some (.int .i64 iv) ∧ W.cell? ⟨w.heap.size + 1, 2, none⟩ = some (.float .f64 rl2) ∧ W.cell? ⟨w.heap.size + 1, 3, none⟩ = some (.complex .f64 0 0) ∧ W.cell? ⟨w.heap.size + 1, 4, none⟩ = some (.string tx))
      (first | (refine ⟨?_, ?_, ?_, ?_, ?_, ?_, ?_, ?_, ?_, ?_⟩ <;> assumption) | go_keep)
      (first
        | (go_at_call 50; with_reducible refine (HM1.out _).mono ?_; rintro e w1 ⟨rfl, hb1⟩; have hb1 : Below W0.heap.size W0 w1 := (by first | exact hb1 | exact ((Below.refl W0.heap.size W0).drew).trans (hb1.mono (Below.refl W0.heap.size W0).drew.size)); have HB1 := Lib.hid (HB0.out.trans (hb1.mono HB0.out.size)); have HX1 := Lib.hid (HX0.out.keep hb1 plt); have HY1 := Lib.hid (HY0.out.keep hb1 qlt); clear hb1; have rc0 := HX1.out.c0; have rc1 := HX1.out.c1; have rc2 := HX1.out.c2; have rc3 := HX1.out.c3; have rc4 := HX1.out.c4; have rlt := HX1.out.lt; have sc0 := HY1.out.c0; have sc1 := HY1.out.c1; have sc2 := HY1.out.c2; have sc3 := HY1.out.c3; have sc4 := HY1.out.c4; have slt := HY1.out.lt)
        | (go_at_call 50; with_reducible refine (HM2.out _).mono ?_; rintro e w2 ⟨rfl, hb2⟩; have HB2 := Lib.hid (HB1.out.trans (hb2.mono HB1.out.size)); have HX2 := Lib.hid (HX1.out.keep hb2 rlt); have HY2 := Lib.hid (HY1.out.keep hb2 slt); clear hb2; have tc0 := HX2.out.c0; have tc1 := HX2.out.c1; have tc2 := HX2.out.c2; have tc3 := HX2.out.c3; have tc4 := HX2.out.c4; have tlt := HX2.out.lt; have uc0 := HY2.out.c0; have uc1 := HY2.out.c1; have uc2 := HY2.out.c2; have uc3 := HY2.out.c3; have uc4 := HY2.out.c4; have ult := HY2.out.lt))
    all_goals
      go_wp2_with (fail)
      go_ret
      exact ⟨rfl, HB2.out⟩
def Box5 (w : World) (g : Nat) (a b c d e : Value) : Prop := w.heap[g]? = some (.cells #[a, b, c, d, e] 27 (0, 0))
theorem Box5.keep {w w' : World} {B g : Nat} {a b c d e : Value} (h : Box5 w g a b c d e) (hb : Below B w w') (hg : g < B) : Box5 w' g a b c d e := (hb.block g hg).trans h
theorem Box5.c0 {w : World} {g : Nat} {a b c d e : Value} (h : Box5 w g a b c d e) : w.cell? ⟨g, 0, none⟩ = some a := by rw [cell_of_row w g 0 _ _ _ h]; rfl
theorem Box5.c1 {w : World} {g : Nat} {a b c d e : Value} (h : Box5 w g a b c d e) : w.cell? ⟨g, 1, none⟩ = some b := by rw [cell_of_row w g 1 _ _ _ h]; rfl
theorem Box5.c2 {w : World} {g : Nat} {a b c d e : Value} (h : Box5 w g a b c d e) : w.cell? ⟨g, 2, none⟩ = some c := by rw [cell_of_row w g 2 _ _ _ h]; rfl
theorem Box5.c3 {w : World} {g : Nat} {a b c d e : Value} (h : Box5 w g a b c d e) : w.cell? ⟨g, 3, none⟩ = some d := by rw [cell_of_row w g 3 _ _ _ h]; rfl
theorem Box5.c4 {w : World} {g : Nat} {a b c d e : Value} (h : Box5 w g a b c d e) : w.cell? ⟨g, 4, none⟩ = some e := by rw [cell_of_row w g 4 _ _ _ h]; rfl
theorem Box5.fz {w : World} {g : Nat} {a b c d e : Value} (h : Box5 w g a b c d e) (j : Nat) : w.frozen? ⟨g, j, none⟩ = false := frozen_of_row w g j _ _ h
theorem Box5.lt {w : World} {g : Nat} {a b c d e : Value} (h : Box5 w g a b c d e) : g < w.heap.size := Bk.lt (T := 27) (cs := [a, b, c, d, e]) h
set_option maxHeartbeats 8000000 in
theorem compare_real (r1 r2 : Nat) (h : SameR r1 r2) (w : World) : Calls Try.prog 52 #[valV 2 0 r1 0 0 ⟨#[]⟩, valV 2 0 r2 0 0 ⟨#[]⟩] w fun e w' => e = .returned (.int .i64 0) ∧ Below w.heap.size w w' := by
  unfold valV
  obtain ⟨W0, hW0⟩ : ∃ W0, W0 = (w.alloc (.cells #[.int .i64 2, .int .i64 0, .float .f64 r1, .complex .f64 0 0, .string ⟨#[]⟩] 27)).alloc (.cells #[.int .i64 2, .int .i64 0, .float .f64 r2, .complex .f64 0 0, .string ⟨#[]⟩] 27) := ⟨_, rfl⟩
  have hB0 : Below w.heap.size w W0 := by rw [hW0]; exact ((Below.refl w.heap.size w).alloc (Nat.le_refl _) _).alloc (by simp) _
  have hb0 : Box5 W0 w.heap.size (.int .i64 2) (.int .i64 0) (.float .f64 r1) (.complex .f64 0 0) (.string ⟨#[]⟩) := by rw [hW0]; exact heap_alloc2_old _ _ _
  have hb1 : Box5 W0 (w.heap.size + 1) (.int .i64 2) (.int .i64 0) (.float .f64 r2) (.complex .f64 0 0) (.string ⟨#[]⟩) := by rw [hW0]; exact heap_alloc2_new _ _ _
  have HW0 := Lib.hid hW0
  have HB0 := Lib.hid hB0
  have HX0 := Lib.hid hb0
  have HY0 := Lib.hid hb1
  clear hW0 hB0 hb0 hb1
  have hm1 := fun W => rmay_any 2 0 r1 0 0 ⟨#[]⟩ W
  have hm2 := fun W => rmay_any 2 0 r2 0 0 ⟨#[]⟩ W
  have hmb : mayB 2 0 ⟨#[]⟩ = true := rfl
  rw [hmb] at hm1 hm2
  unfold valV at hm1 hm2
  have HM1 := Lib.hid hm1
  have HM2 := Lib.hid hm2
  have HR := Lib.hid (fun W => reals_same r1 r2 h W)
  clear hm1 hm2 hmb
  have pc0 := HX0.out.c0
  have pc1 := HX0.out.c1
  have pc2 := HX0.out.c2
  have pc3 := HX0.out.c3
  have pc4 := HX0.out.c4
  have plt := HX0.out.lt
  have qc0 := HY0.out.c0
  have qc1 := HY0.out.c1
  have qc2 := HY0.out.c2
  have qc3 := HY0.out.c3
  have qc4 := HY0.out.c4
  have qlt := HY0.out.lt
  go_enter Try.func52, Try.ntmps52
  go_upto_region 1 with (fail)
  rw [← HW0.out]
  go_region_held3 (fun W => W.cell? ⟨w.heap.size, 0, none⟩ = some (.int .i64 2) ∧ W.cell? ⟨w.heap.size, 1, none⟩ = some (.int .i64 0) ∧ W.cell? ⟨w.heap.size, 2, none⟩ = some (.float .f64 r1) ∧ W.cell? ⟨w.heap.size, 3, none⟩ = some (.complex .f64 0 0) ∧ W.cell? ⟨w.heap.size, 4, none⟩ = some (.string ⟨#[]⟩) ∧ W.cell? ⟨w.heap.size + 1, 0, none⟩ = some (.int .i64 2) ∧ W.cell? ⟨w.heap.size + 1, 1, none⟩ = some (.int .i64 0) ∧ W.cell? ⟨w.heap.size + 1, 2, none⟩ = some (.float .f64 r2) ∧ W.cell? ⟨w.heap.size + 1, 3, none⟩ = some (.complex .f64 0 0) ∧ W.cell? ⟨w.heap.size + 1, 4, none⟩ = some (.string ⟨#[]⟩))
    (first | (refine ⟨?_, ?_, ?_, ?_, ?_, ?_, ?_, ?_, ?_, ?_⟩ <;> assumption) | go_keep)
    (first
      | (go_at_call 50; with_reducible refine (HM1.out _).mono ?_; rintro e w1 ⟨rfl, hb1⟩; have hb1 : Below W0.heap.size W0 w1 := (by first | exact hb1 | exact ((Below.refl W0.heap.size W0).drew).trans (hb1.mono (Below.refl W0.heap.size W0).drew.size)); have HB1 := Lib.hid (HB0.out.trans (hb1.mono HB0.out.size)); have HX1 := Lib.hid (HX0.out.keep hb1 plt); have HY1 := Lib.hid (HY0.out.keep hb1 qlt); clear hb1; have rc0 := HX1.out.c0; have rc1 := HX1.out.c1; have rc2 := HX1.out.c2; have rc3 := HX1.out.c3; have rc4 := HX1.out.c4; have rlt := HX1.out.lt; have sc0 := HY1.out.c0; have sc1 := HY1.out.c1; have sc2 := HY1.out.c2; have sc3 := HY1.out.c3; have sc4 := HY1.out.c4; have slt := HY1.out.lt)
      | (go_at_call 50; with_reducible refine (HM2.out _).mono ?_; rintro e w2 ⟨rfl, hb2⟩; have HB2 := Lib.hid (HB1.out.trans (hb2.mono HB1.out.size)); have HX2 := Lib.hid (HX1.out.keep hb2 rlt); have HY2 := Lib.hid (HY1.out.keep hb2 slt); clear hb2; have tc0 := HX2.out.c0; have tc1 := HX2.out.c1; have tc2 := HX2.out.c2; have tc3 := HX2.out.c3; have tc4 := HX2.out.c4; have tlt := HX2.out.lt; have uc0 := HY2.out.c0; have uc1 := HY2.out.c1; have uc2 := HY2.out.c2; have uc3 := HY2.out.c3; have uc4 := HY2.out.c4; have ult := HY2.out.lt))
  all_goals
    go_wp2_with (go_at_call 59; with_reducible refine (HR.out _).mono ?_; rintro e w' ⟨rfl, rfl⟩)
    go_ret
    exact ⟨rfl, HB2.out⟩
set_option maxHeartbeats 8000000 in
theorem compare_comp (im1 im2 re1 re2 : Nat) (h1 : SameR re1 re2) (h2 : SameR im1 im2) (w : World) : Calls Try.prog 52 #[valV 3 0 0 re1 im1 ⟨#[]⟩, valV 3 0 0 re2 im2 ⟨#[]⟩] w fun e w' => e = .returned (.int .i64 0) ∧ Below w.heap.size w w' := by
  unfold valV
  obtain ⟨W0, hW0⟩ : ∃ W0, W0 = (w.alloc (.cells #[.int .i64 3, .int .i64 0, .float .f64 0, .complex .f64 re1 im1, .string ⟨#[]⟩] 27)).alloc (.cells #[.int .i64 3, .int .i64 0, .float .f64 0, .complex .f64 re2 im2, .string ⟨#[]⟩] 27) := ⟨_, rfl⟩
  have hB0 : Below w.heap.size w W0 := by rw [hW0]; exact ((Below.refl w.heap.size w).alloc (Nat.le_refl _) _).alloc (by simp) _
  have hb0 : Box5 W0 w.heap.size (.int .i64 3) (.int .i64 0) (.float .f64 0) (.complex .f64 re1 im1) (.string ⟨#[]⟩) := by rw [hW0]; exact heap_alloc2_old _ _ _
  have hb1 : Box5 W0 (w.heap.size + 1) (.int .i64 3) (.int .i64 0) (.float .f64 0) (.complex .f64 re2 im2) (.string ⟨#[]⟩) := by rw [hW0]; exact heap_alloc2_new _ _ _
  have HW0 := Lib.hid hW0
  have HB0 := Lib.hid hB0
  have HX0 := Lib.hid hb0
  have HY0 := Lib.hid hb1
  clear hW0 hB0 hb0 hb1
  have hm1 := fun W => rmay_any 3 0 0 re1 im1 ⟨#[]⟩ W
  have hm2 := fun W => rmay_any 3 0 0 re2 im2 ⟨#[]⟩ W
  have hmb : mayB 3 0 ⟨#[]⟩ = true := rfl
  rw [hmb] at hm1 hm2
  unfold valV at hm1 hm2
  have HM1 := Lib.hid hm1
  have HM2 := Lib.hid hm2
  have HR := Lib.hid (fun W => reals_same re1 re2 h1 W)
  have HI := Lib.hid (fun W => reals_same im1 im2 h2 W)
  clear hm1 hm2 hmb
  have pc0 := HX0.out.c0
  have pc1 := HX0.out.c1
  have pc2 := HX0.out.c2
  have pc3 := HX0.out.c3
  have pc4 := HX0.out.c4
  have plt := HX0.out.lt
  have qc0 := HY0.out.c0
  have qc1 := HY0.out.c1
  have qc2 := HY0.out.c2
  have qc3 := HY0.out.c3
  have qc4 := HY0.out.c4
  have qlt := HY0.out.lt
  go_enter Try.func52, Try.ntmps52
  go_upto_region 1 with (fail)
  rw [← HW0.out]
  go_region_held3 (fun W => W.cell? ⟨w.heap.size, 0, none⟩ = some (.int .i64 3) ∧ W.cell? ⟨w.heap.size, 1, none⟩ = some (.int .i64 0) ∧ W.cell? ⟨w.heap.size, 2, none⟩ = some (.float .f64 0) ∧ W.cell? ⟨w.heap.size, 3, none⟩ = some (.complex .f64 re1 im1) ∧ W.cell? ⟨w.heap.size, 4, none⟩ = some (.string ⟨#[]⟩) ∧ W.cell? ⟨w.heap.size + 1, 0, none⟩ = some (.int .i64 3) ∧ W.cell? ⟨w.heap.size + 1, 1, none⟩ = some (.int .i64 0) ∧ W.cell? ⟨w.heap.size + 1, 2, none⟩ = some (.float .f64 0) ∧ W.cell? ⟨w.heap.size + 1, 3, none⟩ = some (.complex .f64 re2 im2) ∧ W.cell? ⟨w.heap.size + 1, 4, none⟩ = some (.string ⟨#[]⟩))
    (first | (refine ⟨?_, ?_, ?_, ?_, ?_, ?_, ?_, ?_, ?_, ?_⟩ <;> assumption) | go_keep)
    (first
      | (go_at_call 50; with_reducible refine (HM1.out _).mono ?_; rintro e w1 ⟨rfl, hb1⟩; have hb1 : Below W0.heap.size W0 w1 := (by first | exact hb1 | exact ((Below.refl W0.heap.size W0).drew).trans (hb1.mono (Below.refl W0.heap.size W0).drew.size)); have HB1 := Lib.hid (HB0.out.trans (hb1.mono HB0.out.size)); have HX1 := Lib.hid (HX0.out.keep hb1 plt); have HY1 := Lib.hid (HY0.out.keep hb1 qlt); clear hb1; have rc0 := HX1.out.c0; have rc1 := HX1.out.c1; have rc2 := HX1.out.c2; have rc3 := HX1.out.c3; have rc4 := HX1.out.c4; have rlt := HX1.out.lt; have sc0 := HY1.out.c0; have sc1 := HY1.out.c1; have sc2 := HY1.out.c2; have sc3 := HY1.out.c3; have sc4 := HY1.out.c4; have slt := HY1.out.lt)
      | (go_at_call 50; with_reducible refine (HM2.out _).mono ?_; rintro e w2 ⟨rfl, hb2⟩; have HB2 := Lib.hid (HB1.out.trans (hb2.mono HB1.out.size)); have HX2 := Lib.hid (HX1.out.keep hb2 rlt); have HY2 := Lib.hid (HY1.out.keep hb2 slt); clear hb2; have tc0 := HX2.out.c0; have tc1 := HX2.out.c1; have tc2 := HX2.out.c2; have tc3 := HX2.out.c3; have tc4 := HX2.out.c4; have tlt := HX2.out.lt; have uc0 := HY2.out.c0; have uc1 := HY2.out.c1; have uc2 := HY2.out.c2; have uc3 := HY2.out.c3; have uc4 := HY2.out.c4; have ult := HY2.out.lt))
  all_goals
    go_wp2_with (first | (go_at_call 59; with_reducible refine (HR.out _).mono ?_; rintro e w' ⟨rfl, rfl⟩) | (go_at_call 59; with_reducible refine (HI.out _).mono ?_; rintro e w' ⟨rfl, rfl⟩))
    go_ret
    exact ⟨rfl, HB2.out⟩
set_option maxHeartbeats 1000000 in
theorem same_real (r1 r2 : Nat) (h : SameR r1 r2) (w : World) : Calls Try.prog 37 #[valV 2 0 r1 0 0 ⟨#[]⟩, valV 2 0 r2 0 0 ⟨#[]⟩] w fun e w' => e = .returned (.bool true) ∧ Below w.heap.size w w' := by
  have hc := fun W => compare_real r1 r2 h W
  unfold valV at hc ⊢
  have HC := Lib.hid hc
  have HB : Hid (Below w.heap.size w ((w.alloc (.cells #[.int .i64 2, .int .i64 0, .float .f64 r1, .complex .f64 0 0, .string ⟨#[]⟩] 27)).alloc (.cells #[.int .i64 2, .int .i64 0, .float .f64 r2, .complex .f64 0 0, .string ⟨#[]⟩] 27))) := Lib.hid (((Below.refl w.heap.size w).alloc (Nat.le_refl _) _).alloc (by simp) _)
  clear hc
  go_enter Try.func37, Try.ntmps37
  go_wp2_with (go_at_call 52; with_reducible refine (HC.out _).mono ?_; rintro e w1 ⟨rfl, hb1⟩; have HB1 := Lib.hid (HB.out.trans (hb1.mono HB.out.size)); clear hb1)
  go_ret
  exact ⟨rfl, HB1.out⟩
set_option maxHeartbeats 1000000 in
theorem same_comp (im1 im2 re1 re2 : Nat) (h1 : SameR re1 re2) (h2 : SameR im1 im2) (w : World) : Calls Try.prog 37 #[valV 3 0 0 re1 im1 ⟨#[]⟩, valV 3 0 0 re2 im2 ⟨#[]⟩] w fun e w' => e = .returned (.bool true) ∧ Below w.heap.size w w' := by
  have hc := fun W => compare_comp im1 im2 re1 re2 h1 h2 W
  unfold valV at hc ⊢
  have HC := Lib.hid hc
  have HB : Hid (Below w.heap.size w ((w.alloc (.cells #[.int .i64 3, .int .i64 0, .float .f64 0, .complex .f64 re1 im1, .string ⟨#[]⟩] 27)).alloc (.cells #[.int .i64 3, .int .i64 0, .float .f64 0, .complex .f64 re2 im2, .string ⟨#[]⟩] 27))) := Lib.hid (((Below.refl w.heap.size w).alloc (Nat.le_refl _) _).alloc (by simp) _)
  clear hc
  go_enter Try.func37, Try.ntmps37
  go_wp2_with (go_at_call 52; with_reducible refine (HC.out _).mono ?_; rintro e w1 ⟨rfl, hb1⟩; have HB1 := Lib.hid (HB.out.trans (hb1.mono HB.out.size)); clear hb1)
  go_ret
  exact ⟨rfl, HB1.out⟩
theorem wsame_of {kd iv : Int} {rl : Nat} {tx : ByteArray} (hc : ∀ W, Calls Try.prog 52 #[valV kd iv rl 0 0 tx, valV kd iv rl 0 0 tx] W fun e w' => e = .returned (.int .i64 0) ∧ Below W.heap.size W w') (w : World) :
    Calls Try.prog 37 #[valV kd iv rl 0 0 tx, valV kd iv rl 0 0 tx] w fun e w' => e = .returned (.bool true) ∧ Below w.heap.size w w' := by
  unfold valV at hc ⊢
  have HC := Lib.hid hc
  have HB : Hid (Below w.heap.size w ((w.alloc (.cells #[.int .i64 kd, .int .i64 iv, .float .f64 rl, .complex .f64 0 0, .string tx] 27)).alloc (.cells #[.int .i64 kd, .int .i64 iv, .float .f64 rl, .complex .f64 0 0, .string tx] 27))) := Lib.hid (((Below.refl w.heap.size w).alloc (Nat.le_refl _) _).alloc (by simp) _)
  clear hc
  go_enter Try.func37, Try.ntmps37
  go_wp2_with (go_at_call 52; with_reducible refine (HC.out _).mono ?_; rintro e w1 ⟨rfl, hb1⟩; have HB1 := Lib.hid (HB.out.trans (hb1.mono HB.out.size)); clear hb1)
  go_ret
  exact ⟨rfl, HB1.out⟩
theorem same_r (b : Nat) (h : b < 18446744073709551616) : SameR b b := by
  cases hb : nanB b
  · exact .inr ⟨rfl, hb, h⟩
  · exact .inl ⟨hb, hb⟩
/-- a value that may be and itself are the same -/
theorem same_self (x : V9) (h : Plain9 x) (w : World) : Calls Try.prog 37 #[valO x, valO x] w fun e w' => e = .returned (.bool true) ∧ Below w.heap.size w w' := by
  obtain ⟨kd, iv, rl, re, im, tx⟩ := x
  have h1 := h.kd
  have h2 := h.iv
  have h3 := h.rl
  have h4 := h.re
  have h5 := h.tx
  have h6 := h.wd
  have h7 := h.len
  simp only at h1 h2 h3 h4 h5 h6 h7
  unfold valO
  rcases h1 with rfl | rfl | rfl | rfl
  · obtain rfl : rl = 0 := h3 (by decide)
    obtain ⟨rfl, rfl⟩ := h4 (by decide)
    exact wsame_of (fun W => wcompare_int 1 iv 0 0 _ rfl (by decide) (by decide) (by decide) W) w
  · obtain rfl : iv = 0 := h2 (by decide)
    obtain ⟨rfl, rfl⟩ := h4 (by decide)
    obtain rfl : tx = [] := h5 (by decide)
    exact same_real rl rl (same_r rl h6.1) w
  · obtain rfl : iv = 0 := h2 (by decide)
    obtain rfl : rl = 0 := h3 (by decide)
    obtain rfl : tx = [] := h5 (by decide)
    exact same_comp im im re re (same_r re h6.2.1) (same_r im h6.2.2) w
  · obtain rfl : rl = 0 := h3 (by decide)
    obtain ⟨rfl, rfl⟩ := h4 (by decide)
    exact wsame_of (fun W => wcompare_text 4 iv 0 0 ⟨tx.toArray⟩ rfl rfl (show (⟨tx.toArray⟩ : ByteArray).size ≤ 256 from h7) W) w
end Go.Proofs.Ytloofajopgbfmaa
