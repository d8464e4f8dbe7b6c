/- Wire, the reference: Plain, Size, size of a list. -/
import Derived.Test.YtloofajopgbfmaaWjRef1
namespace Go.Proofs.Ytloofajopgbfmaa
set_option linter.all false
open Go.RowKit
set_option maxRecDepth 100000
set_option maxHeartbeats 4000000 in
theorem rplain_any (x : V9) (h : Plain9 x) (w : World) : Calls Try.prog 35 #[valO x] w fun e w' => e = .returned (valO x) ∧ Below w.heap.size w w' := by
  have sf : ∀ (p : Addr) (b : Nat) (mo : Mode) (w' : World), (store p (.float .f64 b) mo).run Try.prog w' = stored Try.prog w' p (.float .f64 b) mo := fun p b mo w' => run_store _ w' p _ mo rfl
  have sc : ∀ (p : Addr) (b c : Nat) (mo : Mode) (w' : World), (store p (.complex .f64 b c) mo).run Try.prog w' = stored Try.prog w' p (.complex .f64 b c) mo := fun p b c mo w' => run_store _ w' p _ mo rfl
  have hmay : mayB x.kd x.iv ⟨x.tx.toArray⟩ = true := by
    have h1 := plain_may h
    have h5 : x.kd ≠ 5 := by rcases h.kd with e | e | e | e <;> omega
    rw [← h1]
    unfold mayB mayW
    rw [if_neg h5]
  obtain ⟨kd, iv, rl, re, im, tx⟩ := x
  have hm := fun W => rmay_any kd iv rl re im ⟨tx.toArray⟩ W
  simp only at hmay
  rw [hmay] at hm
  have h1 := h.kd
  have h2 := h.iv
  have h3 := h.rl
  have h4 := h.re
  have h5 := h.tx
  simp only at h1 h2 h3 h4 h5
  obtain ⟨W0, hW0⟩ : ∃ W0, W0 = (w.alloc (.cells #[.int .i64 kd, .int .i64 iv, .float .f64 rl, .complex .f64 re im, .string ⟨tx.toArray⟩] 27)).alloc (.cells #[.int .i64 0, .int .i64 0, .float .f64 0, .complex .f64 0 0, .string ⟨#[]⟩] 27) := ⟨_, rfl⟩
  have hb0 : Below w.heap.size w W0 := by rw [hW0]; exact ((Below.refl _ w).alloc (Nat.le_refl _) _).alloc (by simp) _
  have hx0 : Bk W0 w.heap.size 27 [.int .i64 kd, .int .i64 iv, .float .f64 rl, .complex .f64 re im, .string ⟨tx.toArray⟩] := by rw [hW0]; exact (Bk.new w _ _).alloc _
  have hy0 : Bk W0 (w.heap.size + 1) 27 zeroC := by rw [hW0]; exact heap_alloc2_new w _ _
  unfold valO valV
  unfold valV at hm
  have HM := Lib.hid hm
  have HW0 := Lib.hid hW0
  have HB := Lib.hid hb0
  have HX := Lib.hid hx0
  have HY := Lib.hid hy0
  have c0 := hx0.c 0 rfl
  have c1 := hx0.c 1 rfl
  have c2 := hx0.c 2 rfl
  have c3 := hx0.c 3 rfl
  have c4 := hx0.c 4 rfl
  clear hmay h hm hW0 hb0 hx0 hy0
  rcases h1 with rfl | rfl | rfl | rfl
  · obtain rfl : rl = 0 := h3 (by decide)
    obtain ⟨rfl, rfl⟩ := h4 (by decide)
    obtain rfl : tx = [] := h5 (by decide)
    clear h2 h3 h4 h5
    go_enter Try.func35, Try.ntmps35
    go_upto_region 1 with (fail)
    rw [← HW0.out]
    go_wp2_with fail
    refine (HM.out _).mono ?_
    rintro e w1 ⟨rfl, hb1⟩
    have HX1 := Lib.hid (HX.out.keep hb1 HX.out.lt)
    have HY1 := Lib.hid (HY.out.keep hb1 HY.out.lt)
    have HB1 := Lib.hid (HB.out.trans (hb1.mono HB.out.size))
    clear hb1 c0 c1 c2 c3 c4
    have d0 := HX1.out.c 0 rfl
    have d1 := HX1.out.c 1 rfl
    have d2 := HX1.out.c 2 rfl
    have d3 := HX1.out.c 3 rfl
    have d4 := HX1.out.c 4 rfl
    have ld := HX1.out.lt
    go_upto_region 4 with (fail)
    obtain ⟨W2, hW2⟩ : ∃ W2, W2 = w1.alloc (.cells #[.int .i64 1, .int .i64 0, .float .f64 0, .complex .f64 0 0, .string ⟨#[]⟩] 27) := ⟨_, rfl⟩
    have HX2 := Lib.hid (show Bk W2 w.heap.size 27 [.int .i64 1, .int .i64 iv, .float .f64 0, .complex .f64 0 0, .string ⟨#[]⟩] by rw [hW2]; exact HX1.out.alloc _)
    have HY2 := Lib.hid (show Bk W2 (w.heap.size + 1) 27 zeroC by rw [hW2]; exact HY1.out.alloc _)
    have HZ2 := Lib.hid (show Bk W2 w1.heap.size 27 [.int .i64 1, .int .i64 0, .float .f64 0, .complex .f64 0 0, .string ⟨#[]⟩] by rw [hW2]; exact Bk.new w1 _ _)
    have HB2 := Lib.hid (show Below w.heap.size w W2 by rw [hW2]; exact HB1.out.alloc HB1.out.size _)
    have hg1 := HX1.out.lt
    have hg2 := HY1.out.lt
    rw [← hW2]
    generalize w1.heap.size = Z at *
    clear hW2
    clear d0 d1 d2 d3 d4 ld
    have d0 := HX2.out.c 0 rfl
    have d1 := HX2.out.c 1 rfl
    have d2 := HX2.out.c 2 rfl
    have d3 := HX2.out.c 3 rfl
    have d4 := HX2.out.c 4 rfl
    have ld := HX2.out.lt
    have q0 := HZ2.out.c 0 rfl
    have q1 := HZ2.out.c 1 rfl
    have q2 := HZ2.out.c 2 rfl
    have q3 := HZ2.out.c 3 rfl
    have q4 := HZ2.out.c 4 rfl
    have fq0 := HZ2.out.fz 0
    have fq1 := HZ2.out.fz 1
    have fq2 := HZ2.out.fz 2
    have fq3 := HZ2.out.fz 3
    have fq4 := HZ2.out.fz 4
    have lq := HZ2.out.lt
    go_upto_region 12 with (fail)
    have HY3 := Lib.hid (HY2.out.other (x := Z) (by omega) 1 (.int .i64 iv))
    have HZ3 := Lib.hid (HZ2.out.set 1 (.int .i64 iv))
    have HB3 := Lib.hid (HB2.out.setCell (p := ⟨Z, 1, none⟩) (show w.heap.size ≤ Z by omega) (.int .i64 iv))
    generalize W2.setCell ⟨Z, 1, none⟩ (.int .i64 iv) = W3 at *
    clear d0 d1 d2 d3 d4 ld
    clear q0 q1 q2 q3 q4 fq0 fq1 fq2 fq3 fq4 lq
    have y0 := HY3.out.c 0 rfl
    have y1 := HY3.out.c 1 rfl
    have y2 := HY3.out.c 2 rfl
    have y3 := HY3.out.c 3 rfl
    have y4 := HY3.out.c 4 rfl
    have fy0 := HY3.out.fz 0
    have fy1 := HY3.out.fz 1
    have fy2 := HY3.out.fz 2
    have fy3 := HY3.out.fz 3
    have fy4 := HY3.out.fz 4
    have ly := HY3.out.lt
    have z0' := HZ3.out.c 0 rfl
    have z1' := HZ3.out.c 1 rfl
    have z2' := HZ3.out.c 2 rfl
    have z3' := HZ3.out.c 3 rfl
    have z4' := HZ3.out.c 4 rfl
    go_wp2_with fail
    have K := HY3.out.put [.int .i64 1, .int .i64 iv, .float .f64 0, .complex .f64 0 0, .string ⟨#[]⟩] rfl
    simp only [putL, Nat.reduceAdd] at K
    have z0 := K.c 0 rfl
    have z1 := K.c 1 rfl
    have z2 := K.c 2 rfl
    have z3 := K.c 3 rfl
    have z4 := K.c 4 rfl
    exact bodyPost_ret (v := .agg #[.int .i64 1, .int .i64 iv, .float .f64 0, .complex .f64 0 0, .string ⟨#[]⟩]) (by simp [results, Try.results35, go_sem, z0, z1, z2, z3, z4]) rfl ⟨rfl, below_putL (g := w.heap.size + 1) (by omega) [.int .i64 1, .int .i64 iv, .float .f64 0, .complex .f64 0 0, .string ⟨#[]⟩] 0 HB3.out⟩
  · obtain rfl : iv = 0 := h2 (by decide)
    obtain ⟨rfl, rfl⟩ := h4 (by decide)
    obtain rfl : tx = [] := h5 (by decide)
    clear h2 h3 h4 h5
    go_enter Try.func35, Try.ntmps35
    go_upto_region 1 with (fail)
    rw [← HW0.out]
    go_wp2_with fail
    refine (HM.out _).mono ?_
    rintro e w1 ⟨rfl, hb1⟩
    have HX1 := Lib.hid (HX.out.keep hb1 HX.out.lt)
    have HY1 := Lib.hid (HY.out.keep hb1 HY.out.lt)
    have HB1 := Lib.hid (HB.out.trans (hb1.mono HB.out.size))
    clear hb1 c0 c1 c2 c3 c4
    have d0 := HX1.out.c 0 rfl
    have d1 := HX1.out.c 1 rfl
    have d2 := HX1.out.c 2 rfl
    have d3 := HX1.out.c 3 rfl
    have d4 := HX1.out.c 4 rfl
    have ld := HX1.out.lt
    go_upto_region 4 with (fail)
    obtain ⟨W2, hW2⟩ : ∃ W2, W2 = w1.alloc (.cells #[.int .i64 2, .int .i64 0, .float .f64 0, .complex .f64 0 0, .string ⟨#[]⟩] 27) := ⟨_, rfl⟩
    have HX2 := Lib.hid (show Bk W2 w.heap.size 27 [.int .i64 2, .int .i64 0, .float .f64 rl, .complex .f64 0 0, .string ⟨#[]⟩] by rw [hW2]; exact HX1.out.alloc _)
    have HY2 := Lib.hid (show Bk W2 (w.heap.size + 1) 27 zeroC by rw [hW2]; exact HY1.out.alloc _)
    have HZ2 := Lib.hid (show Bk W2 w1.heap.size 27 [.int .i64 2, .int .i64 0, .float .f64 0, .complex .f64 0 0, .string ⟨#[]⟩] by rw [hW2]; exact Bk.new w1 _ _)
    have HB2 := Lib.hid (show Below w.heap.size w W2 by rw [hW2]; exact HB1.out.alloc HB1.out.size _)
    have hg1 := HX1.out.lt
    have hg2 := HY1.out.lt
    rw [← hW2]
    generalize w1.heap.size = Z at *
    clear hW2
    clear d0 d1 d2 d3 d4 ld
    have d0 := HX2.out.c 0 rfl
    have d1 := HX2.out.c 1 rfl
    have d2 := HX2.out.c 2 rfl
    have d3 := HX2.out.c 3 rfl
    have d4 := HX2.out.c 4 rfl
    have ld := HX2.out.lt
    have q0 := HZ2.out.c 0 rfl
    have q1 := HZ2.out.c 1 rfl
    have q2 := HZ2.out.c 2 rfl
    have q3 := HZ2.out.c 3 rfl
    have q4 := HZ2.out.c 4 rfl
    have fq0 := HZ2.out.fz 0
    have fq1 := HZ2.out.fz 1
    have fq2 := HZ2.out.fz 2
    have fq3 := HZ2.out.fz 3
    have fq4 := HZ2.out.fz 4
    have lq := HZ2.out.lt
    go_upto_region 12 with (fail)
    have HY3 := Lib.hid (HY2.out.other (x := Z) (by omega) 2 (.float .f64 rl))
    have HZ3 := Lib.hid (HZ2.out.set 2 (.float .f64 rl))
    have HB3 := Lib.hid (HB2.out.setCell (p := ⟨Z, 2, none⟩) (show w.heap.size ≤ Z by omega) (.float .f64 rl))
    generalize W2.setCell ⟨Z, 2, none⟩ (.float .f64 rl) = W3 at *
    clear d0 d1 d2 d3 d4 ld
    clear q0 q1 q2 q3 q4 fq0 fq1 fq2 fq3 fq4 lq
    have y0 := HY3.out.c 0 rfl
    have y1 := HY3.out.c 1 rfl
    have y2 := HY3.out.c 2 rfl
    have y3 := HY3.out.c 3 rfl
    have y4 := HY3.out.c 4 rfl
    have fy0 := HY3.out.fz 0
    have fy1 := HY3.out.fz 1
    have fy2 := HY3.out.fz 2
    have fy3 := HY3.out.fz 3
    have fy4 := HY3.out.fz 4
    have ly := HY3.out.lt
    have z0' := HZ3.out.c 0 rfl
    have z1' := HZ3.out.c 1 rfl
    have z2' := HZ3.out.c 2 rfl
    have z3' := HZ3.out.c 3 rfl
    have z4' := HZ3.out.c 4 rfl
    go_wp2_with fail
    have K := HY3.out.put [.int .i64 2, .int .i64 0, .float .f64 rl, .complex .f64 0 0, .string ⟨#[]⟩] rfl
    simp only [putL, Nat.reduceAdd] at K
    have z0 := K.c 0 rfl
    have z1 := K.c 1 rfl
    have z2 := K.c 2 rfl
    have z3 := K.c 3 rfl
    have z4 := K.c 4 rfl
    exact bodyPost_ret (v := .agg #[.int .i64 2, .int .i64 0, .float .f64 rl, .complex .f64 0 0, .string ⟨#[]⟩]) (by simp [results, Try.results35, go_sem, z0, z1, z2, z3, z4]) rfl ⟨rfl, below_putL (g := w.heap.size + 1) (by omega) [.int .i64 2, .int .i64 0, .float .f64 rl, .complex .f64 0 0, .string ⟨#[]⟩] 0 HB3.out⟩
  · obtain rfl : iv = 0 := h2 (by decide)
    obtain rfl : rl = 0 := h3 (by decide)
    obtain rfl : tx = [] := h5 (by decide)
    clear h2 h3 h4 h5
    go_enter Try.func35, Try.ntmps35
    go_upto_region 1 with (fail)
    rw [← HW0.out]
    go_wp2_with fail
    refine (HM.out _).mono ?_
    rintro e w1 ⟨rfl, hb1⟩
    have HX1 := Lib.hid (HX.out.keep hb1 HX.out.lt)
    have HY1 := Lib.hid (HY.out.keep hb1 HY.out.lt)
    have HB1 := Lib.hid (HB.out.trans (hb1.mono HB.out.size))
    clear hb1 c0 c1 c2 c3 c4
    have d0 := HX1.out.c 0 rfl
    have d1 := HX1.out.c 1 rfl
    have d2 := HX1.out.c 2 rfl
    have d3 := HX1.out.c 3 rfl
    have d4 := HX1.out.c 4 rfl
    have ld := HX1.out.lt
    go_upto_region 4 with (fail)
    obtain ⟨W2, hW2⟩ : ∃ W2, W2 = w1.alloc (.cells #[.int .i64 3, .int .i64 0, .float .f64 0, .complex .f64 0 0, .string ⟨#[]⟩] 27) := ⟨_, rfl⟩
    have HX2 := Lib.hid (show Bk W2 w.heap.size 27 [.int .i64 3, .int .i64 0, .float .f64 0, .complex .f64 re im, .string ⟨#[]⟩] by rw [hW2]; exact HX1.out.alloc _)
    have HY2 := Lib.hid (show Bk W2 (w.heap.size + 1) 27 zeroC by rw [hW2]; exact HY1.out.alloc _)
    have HZ2 := Lib.hid (show Bk W2 w1.heap.size 27 [.int .i64 3, .int .i64 0, .float .f64 0, .complex .f64 0 0, .string ⟨#[]⟩] by rw [hW2]; exact Bk.new w1 _ _)
    have HB2 := Lib.hid (show Below w.heap.size w W2 by rw [hW2]; exact HB1.out.alloc HB1.out.size _)
    have hg1 := HX1.out.lt
    have hg2 := HY1.out.lt
    rw [← hW2]
    generalize w1.heap.size = Z at *
    clear hW2
    clear d0 d1 d2 d3 d4 ld
    have d0 := HX2.out.c 0 rfl
    have d1 := HX2.out.c 1 rfl
    have d2 := HX2.out.c 2 rfl
    have d3 := HX2.out.c 3 rfl
    have d4 := HX2.out.c 4 rfl
    have ld := HX2.out.lt
    have q0 := HZ2.out.c 0 rfl
    have q1 := HZ2.out.c 1 rfl
    have q2 := HZ2.out.c 2 rfl
    have q3 := HZ2.out.c 3 rfl
    have q4 := HZ2.out.c 4 rfl
    have fq0 := HZ2.out.fz 0
    have fq1 := HZ2.out.fz 1
    have fq2 := HZ2.out.fz 2
    have fq3 := HZ2.out.fz 3
    have fq4 := HZ2.out.fz 4
    have lq := HZ2.out.lt
    go_upto_region 12 with (fail)
    have HY3 := Lib.hid (HY2.out.other (x := Z) (by omega) 3 (.complex .f64 re im))
    have HZ3 := Lib.hid (HZ2.out.set 3 (.complex .f64 re im))
    have HB3 := Lib.hid (HB2.out.setCell (p := ⟨Z, 3, none⟩) (show w.heap.size ≤ Z by omega) (.complex .f64 re im))
    generalize W2.setCell ⟨Z, 3, none⟩ (.complex .f64 re im) = W3 at *
    clear d0 d1 d2 d3 d4 ld
    clear q0 q1 q2 q3 q4 fq0 fq1 fq2 fq3 fq4 lq
    have y0 := HY3.out.c 0 rfl
    have y1 := HY3.out.c 1 rfl
    have y2 := HY3.out.c 2 rfl
    have y3 := HY3.out.c 3 rfl
    have y4 := HY3.out.c 4 rfl
    have fy0 := HY3.out.fz 0
    have fy1 := HY3.out.fz 1
    have fy2 := HY3.out.fz 2
    have fy3 := HY3.out.fz 3
    have fy4 := HY3.out.fz 4
    have ly := HY3.out.lt
    have z0' := HZ3.out.c 0 rfl
    have z1' := HZ3.out.c 1 rfl
    have z2' := HZ3.out.c 2 rfl
    have z3' := HZ3.out.c 3 rfl
    have z4' := HZ3.out.c 4 rfl
    go_wp2_with fail
    have K := HY3.out.put [.int .i64 3, .int .i64 0, .float .f64 0, .complex .f64 re im, .string ⟨#[]⟩] rfl
    simp only [putL, Nat.reduceAdd] at K
    have z0 := K.c 0 rfl
    have z1 := K.c 1 rfl
    have z2 := K.c 2 rfl
    have z3 := K.c 3 rfl
    have z4 := K.c 4 rfl
    exact bodyPost_ret (v := .agg #[.int .i64 3, .int .i64 0, .float .f64 0, .complex .f64 re im, .string ⟨#[]⟩]) (by simp [results, Try.results35, go_sem, z0, z1, z2, z3, z4]) rfl ⟨rfl, below_putL (g := w.heap.size + 1) (by omega) [.int .i64 3, .int .i64 0, .float .f64 0, .complex .f64 re im, .string ⟨#[]⟩] 0 HB3.out⟩
  · obtain rfl : iv = 0 := h2 (by decide)
    obtain rfl : rl = 0 := h3 (by decide)
    obtain ⟨rfl, rfl⟩ := h4 (by decide)
    clear h2 h3 h4 h5
    go_enter Try.func35, Try.ntmps35
    go_upto_region 1 with (fail)
    rw [← HW0.out]
    go_wp2_with fail
    refine (HM.out _).mono ?_
    rintro e w1 ⟨rfl, hb1⟩
    have HX1 := Lib.hid (HX.out.keep hb1 HX.out.lt)
    have HY1 := Lib.hid (HY.out.keep hb1 HY.out.lt)
    have HB1 := Lib.hid (HB.out.trans (hb1.mono HB.out.size))
    clear hb1 c0 c1 c2 c3 c4
    have d0 := HX1.out.c 0 rfl
    have d1 := HX1.out.c 1 rfl
    have d2 := HX1.out.c 2 rfl
    have d3 := HX1.out.c 3 rfl
    have d4 := HX1.out.c 4 rfl
    have ld := HX1.out.lt
    go_upto_region 4 with (fail)
    obtain ⟨W2, hW2⟩ : ∃ W2, W2 = w1.alloc (.cells #[.int .i64 4, .int .i64 0, .float .f64 0, .complex .f64 0 0, .string ⟨#[]⟩] 27) := ⟨_, rfl⟩
    have HX2 := Lib.hid (show Bk W2 w.heap.size 27 [.int .i64 4, .int .i64 0, .float .f64 0, .complex .f64 0 0, .string ⟨tx.toArray⟩] by rw [hW2]; exact HX1.out.alloc _)
    have HY2 := Lib.hid (show Bk W2 (w.heap.size + 1) 27 zeroC by rw [hW2]; exact HY1.out.alloc _)
    have HZ2 := Lib.hid (show Bk W2 w1.heap.size 27 [.int .i64 4, .int .i64 0, .float .f64 0, .complex .f64 0 0, .string ⟨#[]⟩] by rw [hW2]; exact Bk.new w1 _ _)
    have HB2 := Lib.hid (show Below w.heap.size w W2 by rw [hW2]; exact HB1.out.alloc HB1.out.size _)
    have hg1 := HX1.out.lt
    have hg2 := HY1.out.lt
    rw [← hW2]
    generalize w1.heap.size = Z at *
    clear hW2
    clear d0 d1 d2 d3 d4 ld
    have d0 := HX2.out.c 0 rfl
    have d1 := HX2.out.c 1 rfl
    have d2 := HX2.out.c 2 rfl
    have d3 := HX2.out.c 3 rfl
    have d4 := HX2.out.c 4 rfl
    have ld := HX2.out.lt
    have q0 := HZ2.out.c 0 rfl
    have q1 := HZ2.out.c 1 rfl
    have q2 := HZ2.out.c 2 rfl
    have q3 := HZ2.out.c 3 rfl
    have q4 := HZ2.out.c 4 rfl
    have fq0 := HZ2.out.fz 0
    have fq1 := HZ2.out.fz 1
    have fq2 := HZ2.out.fz 2
    have fq3 := HZ2.out.fz 3
    have fq4 := HZ2.out.fz 4
    have lq := HZ2.out.lt
    go_upto_region 12 with (fail)
    have HY3 := Lib.hid (HY2.out.other (x := Z) (by omega) 4 (.string ⟨tx.toArray⟩))
    have HZ3 := Lib.hid (HZ2.out.set 4 (.string ⟨tx.toArray⟩))
    have HB3 := Lib.hid (HB2.out.setCell (p := ⟨Z, 4, none⟩) (show w.heap.size ≤ Z by omega) (.string ⟨tx.toArray⟩))
    generalize W2.setCell ⟨Z, 4, none⟩ (.string ⟨tx.toArray⟩) = W3 at *
    clear d0 d1 d2 d3 d4 ld
    clear q0 q1 q2 q3 q4 fq0 fq1 fq2 fq3 fq4 lq
    have y0 := HY3.out.c 0 rfl
    have y1 := HY3.out.c 1 rfl
    have y2 := HY3.out.c 2 rfl
    have y3 := HY3.out.c 3 rfl
    have y4 := HY3.out.c 4 rfl
    have fy0 := HY3.out.fz 0
    have fy1 := HY3.out.fz 1
    have fy2 := HY3.out.fz 2
    have fy3 := HY3.out.fz 3
    have fy4 := HY3.out.fz 4
    have ly := HY3.out.lt
    have z0' := HZ3.out.c 0 rfl
    have z1' := HZ3.out.c 1 rfl
    have z2' := HZ3.out.c 2 rfl
    have z3' := HZ3.out.c 3 rfl
    have z4' := HZ3.out.c 4 rfl
    go_wp2_with fail
    have K := HY3.out.put [.int .i64 4, .int .i64 0, .float .f64 0, .complex .f64 0 0, .string ⟨tx.toArray⟩] rfl
    simp only [putL, Nat.reduceAdd] at K
    have z0 := K.c 0 rfl
    have z1 := K.c 1 rfl
    have z2 := K.c 2 rfl
    have z3 := K.c 3 rfl
    have z4 := K.c 4 rfl
    exact bodyPost_ret (v := .agg #[.int .i64 4, .int .i64 0, .float .f64 0, .complex .f64 0 0, .string ⟨tx.toArray⟩]) (by simp [results, Try.results35, go_sem, z0, z1, z2, z3, z4]) rfl ⟨rfl, below_putL (g := w.heap.size + 1) (by omega) [.int .i64 4, .int .i64 0, .float .f64 0, .complex .f64 0 0, .string ⟨tx.toArray⟩] 0 HB3.out⟩
end Go.Proofs.Ytloofajopgbfmaa
