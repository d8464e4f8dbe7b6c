/- Wire, the reference's reading of a complex number and of a text. -/
import Derived.Test.YtloofajopgbfmaaWjRef4
namespace Go.Proofs.Ytloofajopgbfmaa
set_option linter.all false
open Go.RowKit
set_option maxRecDepth 100000
set_option maxHeartbeats 8000000 in
theorem refValue_comp (p k : Nat) (a : Option Addr) (n cap : Nat) (l : List UInt8) (w : World) (h : RSt w p a n cap l (some k)) (m m2 : Nat) (o2 o3 : Option Nat) (hq : nuR l n (some k) 1 = (3, some (k + 1))) (hr : reR l n (some (k + 1)) = (m, o2)) (hr2 : reR l n o2 = (m2, o3)) (hpl : o3 ≠ none → Plain9 ⟨3, 0, 0, m, m2, []⟩) : Calls Try.prog 10 #[.pointer (some ⟨p, 0, none⟩)] w (VaA w p a n cap l (pick9 ⟨3, 0, 0, m, m2, []⟩ o3)) := by
  have sf : ∀ (p : Addr) (b : Nat) (mo : Mode) (w' : World), (store p (.float .f64 b) mo).run Try.prog w' = stored Try.prog w' p (.float .f64 b) mo := fun p b mo w' => run_store _ w' p _ mo rfl
  have sc : ∀ (p : Addr) (b c : Nat) (mo : Mode) (w' : World), (store p (.complex .f64 b c) mo).run Try.prog w' = stored Try.prog w' p (.complex .f64 b c) mo := fun p b c mo w' => run_store _ w' p _ mo rfl
  have hplt := h.lt
  have HH := Lib.hid h
  obtain ⟨W0, hW0⟩ : ∃ W0, W0 = w.alloc (.cells #[.int .i64 0, .int .i64 0, .float .f64 0, .complex .f64 0 0, .string ⟨#[]⟩] 27) := ⟨_, rfl⟩
  have hb0 : Below w.heap.size w W0 := by rw [hW0]; exact (Below.refl _ w).alloc (Nat.le_refl _) _
  have hx0 : Bk W0 w.heap.size 27 zeroC := by rw [hW0]; exact Bk.new w _ _
  have hs0 := h.below hb0
  have hn1 := number_r p a n cap 1 l (some k) W0 hs0 (by omega)
  rw [hq] at hn1
  unfold NuA at hn1
  have HN1 : Hid (Calls Try.prog 32 #[.pointer (some ⟨p, 0, none⟩), .int .i64 1] W0 fun e w' => e = .returned (.int .u64 3) ∧ RSt w' p a n cap l (some (k + 1)) ∧ Eff9 p W0 w') := Lib.hid hn1
  have HW0 := Lib.hid hW0
  have HB0 := Lib.hid hb0
  have HX0 := Lib.hid hx0
  unfold VaA
  clear hW0 hb0 hx0 hs0 hn1 h hq
  go_enter Try.func10, Try.ntmps10
  go_upto_region 1 with (fail)
  rw [← HW0.out]
  go_upto_region 2 with (go_at_call 32; (with_reducible refine HN1.out.mono ?_); rintro e w1 ⟨rfl, hs1, he1⟩; have HS1 := Lib.hid hs1; have HE1 := Lib.hid he1; clear hs1 he1)
  obtain ⟨W2, hW2⟩ : ∃ W2, W2 = w1.alloc (.cells #[.int .i64 3, .int .i64 0, .float .f64 0, .complex .f64 0 0, .string ⟨#[]⟩] 27) := ⟨_, rfl⟩
  have hbw : Below w1.heap.size w1 W2 := by rw [hW2]; exact (Below.refl _ w1).alloc (Nat.le_refl _) _
  have hx1 := HX0.out.eff HE1.out (by omega)
  have HX2 := Lib.hid (hx1.keep hbw hx1.lt)
  have HY2 := Lib.hid (show Bk W2 w1.heap.size 27 [.int .i64 3, .int .i64 0, .float .f64 0, .complex .f64 0 0, .string ⟨#[]⟩] by rw [hW2]; exact Bk.new w1 _ _)
  have HS2 := Lib.hid (HS1.out.below hbw)
  have HE2 := Lib.hid ((((Eff9.refl p w).below HB0.out).trans HE1.out).below hbw)
  have hxY := hx1.lt
  rw [← hW2]
  generalize w1.heap.size = Y at *
  clear hW2 hbw hx1
  have hn2 := real_r p a n cap l (some (k + 1)) W2 HS2.out
  rw [hr] at hn2
  unfold ReA at hn2
  have HN2 : Hid (Calls Try.prog 33 #[.pointer (some ⟨p, 0, none⟩)] W2 fun e w' => e = .returned (.float .f64 m) ∧ RSt w' p a n cap l o2 ∧ Eff9 p W2 w') := Lib.hid hn2
  have HN3 : Hid (∀ W, RSt W p a n cap l o2 → Calls Try.prog 33 #[.pointer (some ⟨p, 0, none⟩)] W fun e w' => e = .returned (.float .f64 m2) ∧ RSt w' p a n cap l o3 ∧ Eff9 p W w') := Lib.hid (fun W hW => by
    have := real_r p a n cap l o2 W hW
    rw [hr2] at this
    exact this)
  have HPL := Lib.hid hpl
  clear hn2 hr hr2 hpl
  have yk := HY2.out.c 0 rfl
  go_upto_region 10 with (go_at_call 33; (with_reducible refine HN2.out.mono ?_); rintro e w4 ⟨rfl, hs4, he4⟩; have HS4 := Lib.hid hs4; have hx4 := HX2.out.eff he4 (by omega); have HX4 := Lib.hid hx4; have hy4 := HY2.out.eff he4 (by omega); have HY4 := Lib.hid hy4; have HE4 := Lib.hid (HE2.out.trans he4); clear hs4 he4 hx4 hy4)
  clear HX2 HY2 HE2 HS2 yk
  have HX2 := HX4
  have HY2 := HY4
  have HE2 := HE4
  have HN5 := Lib.hid (HN3.out _ HS4.out)
  clear HX4 HY4 HE4 HN3
  have y0 := HY2.out.c 0 rfl
  have y1 := HY2.out.c 1 rfl
  have y2 := HY2.out.c 2 rfl
  have y3 := HY2.out.c 3 rfl
  have y4 := HY2.out.c 4 rfl
  have ly := HY2.out.lt
  go_upto_region 17 with (go_at_call 33; (with_reducible refine HN5.out.mono ?_); rintro e w3 ⟨rfl, hs3, he3⟩; have HS3 := Lib.hid hs3; have hx3 := HX2.out.eff he3 (by omega); have HX3 := Lib.hid hx3; have hy3 := HY2.out.eff he3 (by omega); have HY3 := Lib.hid hy3; have HE3 := Lib.hid (HE2.out.trans he3); clear y0 y1 y2 y3 y4 ly hs3 he3 hx3; have yy := hy3.c 3 rfl; have fyy := hy3.fz 3; have ly3 := hy3.lt; clear hy3)
  have HX5 := Lib.hid (HX3.out.other (x := Y) (by omega) 3 (.complex .f64 m m2))
  have HY5 : Hid (Bk (w3.setCell ⟨Y, 3, none⟩ (.complex .f64 m m2)) Y 27 [.int .i64 3, .int .i64 0, .float .f64 0, .complex .f64 m m2, .string ⟨#[]⟩]) := Lib.hid (HY3.out.set 3 (.complex .f64 m m2))
  have HS5 := Lib.hid (RSt.other HH.out HS3.out (show w.heap.size ≤ Y by omega) 3 (.complex .f64 m m2))
  have HE5 := Lib.hid (HE3.out.new (show w.heap.size ≤ Y by omega) 3 (.complex .f64 m m2))
  clear yy fyy ly3
  generalize w3.setCell ⟨Y, 3, none⟩ (.complex .f64 m m2) = W5 at *
  clear HX3 HY3 HS3 HE3
  cases o3 with
  | none =>
    obtain ⟨k5, hb5, hk5⟩ := HS5.out.bad
    have HB5 := Lib.hid hb5
    clear hb5
    have c2 := HB5.out.c 2 rfl
    have x0 := HX5.out.c 0 rfl
    have x1 := HX5.out.c 1 rfl
    have x2 := HX5.out.c 2 rfl
    have x3 := HX5.out.c 3 rfl
    have x4 := HX5.out.c 4 rfl
    have fx0 := HX5.out.fz 0
    have fx1 := HX5.out.fz 1
    have fx2 := HX5.out.fz 2
    have fx3 := HX5.out.fz 3
    have fx4 := HX5.out.fz 4
    have lx := HX5.out.lt
    go_wp2_with fail
    have K := HX5.out.put zeroC rfl
    simp only [zeroC, putL, Nat.reduceAdd] at K
    have z0 := K.c 0 rfl
    have z1 := K.c 1 rfl
    have z2 := K.c 2 rfl
    have z3 := K.c 3 rfl
    have z4 := K.c 4 rfl
    exact bodyPost_ret (v := valO zero9) (by simp [results, Try.results10, go_sem, z0, z1, z2, z3, z4, valO, valV, zero9]) rfl ⟨rfl, RSt.putL HH.out (Nat.le_refl _) zeroC 0 HS5.out, Eff9.putL (Nat.le_refl _) zeroC 0 HE5.out⟩
  | some k2 =>
    obtain ⟨hb5, hk5⟩ := HS5.out.at
    have HB5 := Lib.hid hb5
    clear hb5
    have c2 := HB5.out.c 2 rfl
    have hpl := HPL.out (by simp)
    have HP := Lib.hid (rplain_any ⟨3, 0, 0, m, m2, []⟩ hpl)
    unfold valO valV at HP
    clear hpl
    have y0 := HY5.out.c 0 rfl
    have y1 := HY5.out.c 1 rfl
    have y2 := HY5.out.c 2 rfl
    have y3 := HY5.out.c 3 rfl
    have y4 := HY5.out.c 4 rfl
    have ly := HY5.out.lt
    go_wp2_with fail
    refine (HP.out _).mono ?_
    rintro e w6 ⟨rfl, hb6⟩
    have HX6 := Lib.hid (HX5.out.keep hb6 HX5.out.lt)
    have HS6 := Lib.hid (HS5.out.below hb6)
    have HE6 := Lib.hid (HE5.out.below hb6)
    clear hb6 c2
    clear y0 y1 y2 y3 y4 ly
    have x0 := HX6.out.c 0 rfl
    have x1 := HX6.out.c 1 rfl
    have x2 := HX6.out.c 2 rfl
    have x3 := HX6.out.c 3 rfl
    have x4 := HX6.out.c 4 rfl
    have fx0 := HX6.out.fz 0
    have fx1 := HX6.out.fz 1
    have fx2 := HX6.out.fz 2
    have fx3 := HX6.out.fz 3
    have fx4 := HX6.out.fz 4
    have lx := HX6.out.lt
    go_wp2_with fail
    have K := HX6.out.put [.int .i64 3, .int .i64 0, .float .f64 0, .complex .f64 m m2, .string ⟨#[]⟩] rfl
    simp only [putL, Nat.reduceAdd] at K
    have z0 := K.c 0 rfl
    have z1 := K.c 1 rfl
    have z2 := K.c 2 rfl
    have z3 := K.c 3 rfl
    have z4 := K.c 4 rfl
    exact bodyPost_ret (v := valO ⟨3, 0, 0, m, m2, []⟩) (by simp [results, Try.results10, go_sem, z0, z1, z2, z3, z4, valO, valV]) rfl ⟨rfl, RSt.putL HH.out (Nat.le_refl _) [.int .i64 3, .int .i64 0, .float .f64 0, .complex .f64 m m2, .string ⟨#[]⟩] 0 HS6.out, Eff9.putL (Nat.le_refl _) [.int .i64 3, .int .i64 0, .float .f64 0, .complex .f64 m m2, .string ⟨#[]⟩] 0 HE6.out⟩
set_option maxHeartbeats 8000000 in
theorem refValue_text (p k : Nat) (a : Option Addr) (n cap : Nat) (l : List UInt8) (w : World) (h : RSt w p a n cap l (some k)) (m : Nat) (tx : List UInt8) (o2 o3 : Option Nat) (hq : nuR l n (some k) 1 = (4, some (k + 1))) (hr : nuR l n (some (k + 1)) 2 = (m, o2)) (hm : m < 65536) (hr2 : txR l n (if 256 < m then none else o2) m = (tx, o3)) (hpl : o3 ≠ none → Plain9 ⟨4, 0, 0, 0, 0, tx⟩) : Calls Try.prog 10 #[.pointer (some ⟨p, 0, none⟩)] w (VaA w p a n cap l (pick9 ⟨4, 0, 0, 0, 0, tx⟩ o3)) := by
  have sf : ∀ (p : Addr) (b : Nat) (mo : Mode) (w' : World), (store p (.float .f64 b) mo).run Try.prog w' = stored Try.prog w' p (.float .f64 b) mo := fun p b mo w' => run_store _ w' p _ mo rfl
  have sc : ∀ (p : Addr) (b c : Nat) (mo : Mode) (w' : World), (store p (.complex .f64 b c) mo).run Try.prog w' = stored Try.prog w' p (.complex .f64 b c) mo := fun p b c mo w' => run_store _ w' p _ mo rfl
  have hplt := h.lt
  have HH := Lib.hid h
  obtain ⟨W0, hW0⟩ : ∃ W0, W0 = w.alloc (.cells #[.int .i64 0, .int .i64 0, .float .f64 0, .complex .f64 0 0, .string ⟨#[]⟩] 27) := ⟨_, rfl⟩
  have hb0 : Below w.heap.size w W0 := by rw [hW0]; exact (Below.refl _ w).alloc (Nat.le_refl _) _
  have hx0 : Bk W0 w.heap.size 27 zeroC := by rw [hW0]; exact Bk.new w _ _
  have hs0 := h.below hb0
  have hn1 := number_r p a n cap 1 l (some k) W0 hs0 (by omega)
  rw [hq] at hn1
  unfold NuA at hn1
  have HN1 : Hid (Calls Try.prog 32 #[.pointer (some ⟨p, 0, none⟩), .int .i64 1] W0 fun e w' => e = .returned (.int .u64 4) ∧ RSt w' p a n cap l (some (k + 1)) ∧ Eff9 p W0 w') := Lib.hid hn1
  have HW0 := Lib.hid hW0
  have HB0 := Lib.hid hb0
  have HX0 := Lib.hid hx0
  unfold VaA
  clear hW0 hb0 hx0 hs0 hn1 h hq
  go_enter Try.func10, Try.ntmps10
  go_upto_region 1 with (fail)
  rw [← HW0.out]
  go_upto_region 2 with (go_at_call 32; (with_reducible refine HN1.out.mono ?_); rintro e w1 ⟨rfl, hs1, he1⟩; have HS1 := Lib.hid hs1; have HE1 := Lib.hid he1; clear hs1 he1)
  obtain ⟨W2, hW2⟩ : ∃ W2, W2 = w1.alloc (.cells #[.int .i64 4, .int .i64 0, .float .f64 0, .complex .f64 0 0, .string ⟨#[]⟩] 27) := ⟨_, rfl⟩
  have hbw : Below w1.heap.size w1 W2 := by rw [hW2]; exact (Below.refl _ w1).alloc (Nat.le_refl _) _
  have hx1 := HX0.out.eff HE1.out (by omega)
  have HX2 := Lib.hid (hx1.keep hbw hx1.lt)
  have HY2 := Lib.hid (show Bk W2 w1.heap.size 27 [.int .i64 4, .int .i64 0, .float .f64 0, .complex .f64 0 0, .string ⟨#[]⟩] by rw [hW2]; exact Bk.new w1 _ _)
  have HS2 := Lib.hid (HS1.out.below hbw)
  have HE2 := Lib.hid ((((Eff9.refl p w).below HB0.out).trans HE1.out).below hbw)
  have hxY := hx1.lt
  rw [← hW2]
  generalize w1.heap.size = Y at *
  clear hW2 hbw hx1
  have hn2 := number_r p a n cap 2 l (some (k + 1)) W2 HS2.out (by omega)
  rw [hr] at hn2
  unfold NuA at hn2
  have HN2 : Hid (Calls Try.prog 32 #[.pointer (some ⟨p, 0, none⟩), .int .i64 2] W2 fun e w' => e = .returned (.int .u64 m) ∧ RSt w' p a n cap l o2 ∧ Eff9 p W2 w') := Lib.hid hn2
  have HN3 : Hid (∀ W, RSt W p a n cap l (if 256 < m then none else o2) → Calls Try.prog 34 #[.pointer (some ⟨p, 0, none⟩), .int .i64 m] W fun e w' => e = .returned (.string ⟨tx.toArray⟩) ∧ RSt w' p a n cap l o3 ∧ Eff9 p W w') := Lib.hid (fun W hW => by
    have := text_r p a n cap m l _ W hW (by omega)
    rw [hr2] at this
    exact this)
  have hw : IntKind.i64.wrap (m : Int) = (m : Int) := by rw [IntKind.wrap_i64]; omega
  have HPL := Lib.hid hpl
  clear hn2 hr hr2 hpl
  have yk := HY2.out.c 0 rfl
  go_upto_region 14 with (go_at_call 32; (with_reducible refine HN2.out.mono ?_); rintro e w4 ⟨rfl, hs4, he4⟩; have HS4 := Lib.hid hs4; have hx4 := HX2.out.eff he4 (by omega); have HX4 := Lib.hid hx4; have hy4 := HY2.out.eff he4 (by omega); have HY4 := Lib.hid hy4; have HE4 := Lib.hid (HE2.out.trans he4); clear hs4 he4 hx4 hy4)
  clear HX2 HY2 HE2 HS2 yk
  by_cases h6 : 256 < m
  · have d1 : decide ((256 : Int) < (m : Int)) = true := decide_eq_true (by omega)
    have d2 : decide (256 < m) = true := decide_eq_true h6
    rw [if_pos h6] at HN3
    obtain ⟨k9, b9, hb9, hk9, _, _⟩ := HS4.out.box
    have HB9 := Lib.hid hb9
    have p2 := hb9.c 2 rfl
    have fp2 := hb9.fz 2
    have lp := hb9.lt
    clear hb9
    go_upto_region 16 with (fail)
    have he5 : Eff9 p w4 (w4.setCell ⟨p, 2, none⟩ (.bool true)) := (Eff9.refl p w4).set 2 _
    have HS6 := Lib.hid (HS4.out.none he5 (HB9.out.set 2 (.bool true)) hk9)
    have HX2 := Lib.hid (HX4.out.other (x := p) (by omega) 2 (.bool true))
    have HY2 := Lib.hid (HY4.out.other (x := p) (by omega) 2 (.bool true))
    have HE2 := Lib.hid (HE4.out.trans he5)
    clear p2 fp2 lp he5
    generalize w4.setCell ⟨p, 2, none⟩ (.bool true) = w6 at *
    have HN5 := Lib.hid (HN3.out _ HS6.out)
    clear HX4 HY4 HE4 HN3 h6
    have y0 := HY2.out.c 0 rfl
    have y1 := HY2.out.c 1 rfl
    have y2 := HY2.out.c 2 rfl
    have y3 := HY2.out.c 3 rfl
    have y4 := HY2.out.c 4 rfl
    have ly := HY2.out.lt
    go_upto_region 17 with (go_at_call 34; (with_reducible refine HN5.out.mono ?_); rintro e w3 ⟨rfl, hs3, he3⟩; have HS3 := Lib.hid hs3; have hx3 := HX2.out.eff he3 (by omega); have HX3 := Lib.hid hx3; have hy3 := HY2.out.eff he3 (by omega); have HY3 := Lib.hid hy3; have HE3 := Lib.hid (HE2.out.trans he3); clear y0 y1 y2 y3 y4 ly hs3 he3 hx3; have yy := hy3.c 4 rfl; have fyy := hy3.fz 4; have ly3 := hy3.lt; clear hy3)
    have HX5 := Lib.hid (HX3.out.other (x := Y) (by omega) 4 (.string ⟨tx.toArray⟩))
    have HY5 : Hid (Bk (w3.setCell ⟨Y, 4, none⟩ (.string ⟨tx.toArray⟩)) Y 27 [.int .i64 4, .int .i64 0, .float .f64 0, .complex .f64 0 0, .string ⟨tx.toArray⟩]) := Lib.hid (HY3.out.set 4 (.string ⟨tx.toArray⟩))
    have HS5 := Lib.hid (RSt.other HH.out HS3.out (show w.heap.size ≤ Y by omega) 4 (.string ⟨tx.toArray⟩))
    have HE5 := Lib.hid (HE3.out.new (show w.heap.size ≤ Y by omega) 4 (.string ⟨tx.toArray⟩))
    clear yy fyy ly3
    generalize w3.setCell ⟨Y, 4, none⟩ (.string ⟨tx.toArray⟩) = W5 at *
    clear HX3 HY3 HS3 HE3
    cases o3 with
    | none =>
      obtain ⟨k5, hb5, hk5⟩ := HS5.out.bad
      have HB5 := Lib.hid hb5
      clear hb5
      have c2 := HB5.out.c 2 rfl
      have x0 := HX5.out.c 0 rfl
      have x1 := HX5.out.c 1 rfl
      have x2 := HX5.out.c 2 rfl
      have x3 := HX5.out.c 3 rfl
      have x4 := HX5.out.c 4 rfl
      have fx0 := HX5.out.fz 0
      have fx1 := HX5.out.fz 1
      have fx2 := HX5.out.fz 2
      have fx3 := HX5.out.fz 3
      have fx4 := HX5.out.fz 4
      have lx := HX5.out.lt
      go_wp2_with fail
      have K := HX5.out.put zeroC rfl
      simp only [zeroC, putL, Nat.reduceAdd] at K
      have z0 := K.c 0 rfl
      have z1 := K.c 1 rfl
      have z2 := K.c 2 rfl
      have z3 := K.c 3 rfl
      have z4 := K.c 4 rfl
      exact bodyPost_ret (v := valO zero9) (by simp [results, Try.results10, go_sem, z0, z1, z2, z3, z4, valO, valV, zero9]) rfl ⟨rfl, RSt.putL HH.out (Nat.le_refl _) zeroC 0 HS5.out, Eff9.putL (Nat.le_refl _) zeroC 0 HE5.out⟩
    | some k2 =>
      obtain ⟨hb5, hk5⟩ := HS5.out.at
      have HB5 := Lib.hid hb5
      clear hb5
      have c2 := HB5.out.c 2 rfl
      have hpl := HPL.out (by simp)
      have HP := Lib.hid (rplain_any ⟨4, 0, 0, 0, 0, tx⟩ hpl)
      unfold valO valV at HP
      clear hpl
      have y0 := HY5.out.c 0 rfl
      have y1 := HY5.out.c 1 rfl
      have y2 := HY5.out.c 2 rfl
      have y3 := HY5.out.c 3 rfl
      have y4 := HY5.out.c 4 rfl
      have ly := HY5.out.lt
      go_wp2_with fail
      refine (HP.out _).mono ?_
      rintro e w6 ⟨rfl, hb6⟩
      have HX6 := Lib.hid (HX5.out.keep hb6 HX5.out.lt)
      have HS6 := Lib.hid (HS5.out.below hb6)
      have HE6 := Lib.hid (HE5.out.below hb6)
      clear hb6 c2
      clear y0 y1 y2 y3 y4 ly
      have x0 := HX6.out.c 0 rfl
      have x1 := HX6.out.c 1 rfl
      have x2 := HX6.out.c 2 rfl
      have x3 := HX6.out.c 3 rfl
      have x4 := HX6.out.c 4 rfl
      have fx0 := HX6.out.fz 0
      have fx1 := HX6.out.fz 1
      have fx2 := HX6.out.fz 2
      have fx3 := HX6.out.fz 3
      have fx4 := HX6.out.fz 4
      have lx := HX6.out.lt
      go_wp2_with fail
      have K := HX6.out.put [.int .i64 4, .int .i64 0, .float .f64 0, .complex .f64 0 0, .string ⟨tx.toArray⟩] rfl
      simp only [putL, Nat.reduceAdd] at K
      have z0 := K.c 0 rfl
      have z1 := K.c 1 rfl
      have z2 := K.c 2 rfl
      have z3 := K.c 3 rfl
      have z4 := K.c 4 rfl
      exact bodyPost_ret (v := valO ⟨4, 0, 0, 0, 0, tx⟩) (by simp [results, Try.results10, go_sem, z0, z1, z2, z3, z4, valO, valV]) rfl ⟨rfl, RSt.putL HH.out (Nat.le_refl _) [.int .i64 4, .int .i64 0, .float .f64 0, .complex .f64 0 0, .string ⟨tx.toArray⟩] 0 HS6.out, Eff9.putL (Nat.le_refl _) [.int .i64 4, .int .i64 0, .float .f64 0, .complex .f64 0 0, .string ⟨tx.toArray⟩] 0 HE6.out⟩
  · have d1 : decide ((256 : Int) < (m : Int)) = false := decide_eq_false (by omega)
    have d2 : decide (256 < m) = false := decide_eq_false h6
    rw [if_neg h6] at HN3
    have HX2 := HX4
    have HY2 := HY4
    have HE2 := HE4
    have HN5 := Lib.hid (HN3.out _ HS4.out)
    clear HX4 HY4 HE4 HN3 h6
    have y0 := HY2.out.c 0 rfl
    have y1 := HY2.out.c 1 rfl
    have y2 := HY2.out.c 2 rfl
    have y3 := HY2.out.c 3 rfl
    have y4 := HY2.out.c 4 rfl
    have ly := HY2.out.lt
    go_upto_region 17 with (go_at_call 34; (with_reducible refine HN5.out.mono ?_); rintro e w3 ⟨rfl, hs3, he3⟩; have HS3 := Lib.hid hs3; have hx3 := HX2.out.eff he3 (by omega); have HX3 := Lib.hid hx3; have hy3 := HY2.out.eff he3 (by omega); have HY3 := Lib.hid hy3; have HE3 := Lib.hid (HE2.out.trans he3); clear y0 y1 y2 y3 y4 ly hs3 he3 hx3; have yy := hy3.c 4 rfl; have fyy := hy3.fz 4; have ly3 := hy3.lt; clear hy3)
    have HX5 := Lib.hid (HX3.out.other (x := Y) (by omega) 4 (.string ⟨tx.toArray⟩))
    have HY5 : Hid (Bk (w3.setCell ⟨Y, 4, none⟩ (.string ⟨tx.toArray⟩)) Y 27 [.int .i64 4, .int .i64 0, .float .f64 0, .complex .f64 0 0, .string ⟨tx.toArray⟩]) := Lib.hid (HY3.out.set 4 (.string ⟨tx.toArray⟩))
    have HS5 := Lib.hid (RSt.other HH.out HS3.out (show w.heap.size ≤ Y by omega) 4 (.string ⟨tx.toArray⟩))
    have HE5 := Lib.hid (HE3.out.new (show w.heap.size ≤ Y by omega) 4 (.string ⟨tx.toArray⟩))
    clear yy fyy ly3
    generalize w3.setCell ⟨Y, 4, none⟩ (.string ⟨tx.toArray⟩) = W5 at *
    clear HX3 HY3 HS3 HE3
    cases o3 with
    | none =>
      obtain ⟨k5, hb5, hk5⟩ := HS5.out.bad
      have HB5 := Lib.hid hb5
      clear hb5
      have c2 := HB5.out.c 2 rfl
      have x0 := HX5.out.c 0 rfl
      have x1 := HX5.out.c 1 rfl
      have x2 := HX5.out.c 2 rfl
      have x3 := HX5.out.c 3 rfl
      have x4 := HX5.out.c 4 rfl
      have fx0 := HX5.out.fz 0
      have fx1 := HX5.out.fz 1
      have fx2 := HX5.out.fz 2
      have fx3 := HX5.out.fz 3
      have fx4 := HX5.out.fz 4
      have lx := HX5.out.lt
      go_wp2_with fail
      have K := HX5.out.put zeroC rfl
      simp only [zeroC, putL, Nat.reduceAdd] at K
      have z0 := K.c 0 rfl
      have z1 := K.c 1 rfl
      have z2 := K.c 2 rfl
      have z3 := K.c 3 rfl
      have z4 := K.c 4 rfl
      exact bodyPost_ret (v := valO zero9) (by simp [results, Try.results10, go_sem, z0, z1, z2, z3, z4, valO, valV, zero9]) rfl ⟨rfl, RSt.putL HH.out (Nat.le_refl _) zeroC 0 HS5.out, Eff9.putL (Nat.le_refl _) zeroC 0 HE5.out⟩
    | some k2 =>
      obtain ⟨hb5, hk5⟩ := HS5.out.at
      have HB5 := Lib.hid hb5
      clear hb5
      have c2 := HB5.out.c 2 rfl
      have hpl := HPL.out (by simp)
      have HP := Lib.hid (rplain_any ⟨4, 0, 0, 0, 0, tx⟩ hpl)
      unfold valO valV at HP
      clear hpl
      have y0 := HY5.out.c 0 rfl
      have y1 := HY5.out.c 1 rfl
      have y2 := HY5.out.c 2 rfl
      have y3 := HY5.out.c 3 rfl
      have y4 := HY5.out.c 4 rfl
      have ly := HY5.out.lt
      go_wp2_with fail
      refine (HP.out _).mono ?_
      rintro e w6 ⟨rfl, hb6⟩
      have HX6 := Lib.hid (HX5.out.keep hb6 HX5.out.lt)
      have HS6 := Lib.hid (HS5.out.below hb6)
      have HE6 := Lib.hid (HE5.out.below hb6)
      clear hb6 c2
      clear y0 y1 y2 y3 y4 ly
      have x0 := HX6.out.c 0 rfl
      have x1 := HX6.out.c 1 rfl
      have x2 := HX6.out.c 2 rfl
      have x3 := HX6.out.c 3 rfl
      have x4 := HX6.out.c 4 rfl
      have fx0 := HX6.out.fz 0
      have fx1 := HX6.out.fz 1
      have fx2 := HX6.out.fz 2
      have fx3 := HX6.out.fz 3
      have fx4 := HX6.out.fz 4
      have lx := HX6.out.lt
      go_wp2_with fail
      have K := HX6.out.put [.int .i64 4, .int .i64 0, .float .f64 0, .complex .f64 0 0, .string ⟨tx.toArray⟩] rfl
      simp only [putL, Nat.reduceAdd] at K
      have z0 := K.c 0 rfl
      have z1 := K.c 1 rfl
      have z2 := K.c 2 rfl
      have z3 := K.c 3 rfl
      have z4 := K.c 4 rfl
      exact bodyPost_ret (v := valO ⟨4, 0, 0, 0, 0, tx⟩) (by simp [results, Try.results10, go_sem, z0, z1, z2, z3, z4, valO, valV]) rfl ⟨rfl, RSt.putL HH.out (Nat.le_refl _) [.int .i64 4, .int .i64 0, .float .f64 0, .complex .f64 0 0, .string ⟨tx.toArray⟩] 0 HS6.out, Eff9.putL (Nat.le_refl _) [.int .i64 4, .int .i64 0, .float .f64 0, .complex .f64 0 0, .string ⟨tx.toArray⟩] 0 HE6.out⟩
end Go.Proofs.Ytloofajopgbfmaa
