/- Wire: ReadValue of a complex number. -/
import Derived.Test.YtloofajopgbfmaaWjVal
namespace Go.Proofs.Ytloofajopgbfmaa
set_option linter.all false
open Go.RowKit
set_option maxRecDepth 100000
set_option maxHeartbeats 8000000 in
theorem readValue_comp (a : Option Addr) (n cap : Nat) (b0 b1 b2 b3 b4 b5 b6 b7 c0 c1 c2 c3 c4 c5 c6 c7 : UInt8) (r : List UInt8) (w W0 : World) (h : RdSt w W0 a n cap (3 :: b0 :: b1 :: b2 :: b3 :: b4 :: b5 :: b6 :: b7 :: c0 :: c1 :: c2 :: c3 :: c4 :: c5 :: c6 :: c7 :: r) 17) (hn : 17 ≤ n) : Calls Try.prog 7 #[.slice a n cap] w fun e w' => e = .returned (ansV (if (okR (numW [b0, b1, b2, b3, b4, b5, b6, b7]) && okR (numW [c0, c1, c2, c3, c4, c5, c6, c7])) = true then some (⟨3, 0, 0, numW [b0, b1, b2, b3, b4, b5, b6, b7], numW [c0, c1, c2, c3, c4, c5, c6, c7], []⟩, 17) else none)) ∧ Below w.heap.size w w' := by
  have hl := h.t.1
  have hnm : n ≤ 9223372036854775807 := by have := h.t.2.1; have := h.t.2.2.1; unfold maxLen at *; omega
  have H := Lib.hid h
  have d1 : decide ((n : Int) < 17) = false := decide_eq_false (by omega)
  have d2 : decide (n < 17) = false := decide_eq_false (by omega)
  obtain ⟨b, o, rfl, hc⟩ := txt_cells h.t (by omega)
  have kc0 : W0.cell? ⟨b, o, none⟩ = some (.int .u8 3) := (h.bel.cell (World.block_lt_of_cell? w _ (hc 0 (by simp)))).trans (hc 0 (by simp))
  obtain ⟨W1, hW1, hB1, hX1, hY1, hT1⟩ := h.kind 3
  have HW1 := Lib.hid hW1
  have HB1 := Lib.hid hB1
  have HX1 := Lib.hid hX1
  have HY1 := Lib.hid hY1
  have HT1 := Lib.hid hT1
  have y0 := h.y.c 0 rfl
  have fy0 := h.y.fz 0
  have ly := h.y.lt
  have h0n : 0 < n := by omega
  have ne : ¬ b = w.heap.size + 1 := by have h1 := World.block_lt_of_cell? w _ (hc 0 (by simp)); simp at h1; omega
  clear hc hW1 hB1 hX1 hY1 hT1
  obtain ⟨a', hs, ht'⟩ := slice_mid 1 17 HT1.out (by omega) (by omega)
  have ht9 : Txt W1 a' 16 (cap - 1) [b0, b1, b2, b3, b4, b5, b6, b7, c0, c1, c2, c3, c4, c5, c6, c7] := ht'
  obtain ⟨b', o', rfl, hc⟩ := txt_cells ht9 (by omega)
  have hs' : ∀ w', (Instr.slice 22 (.slice (some ⟨b, o, none⟩) n cap) (some (.int .i64 1)) (some (.int .i64 17)) none).run Try.prog w' = .ok (.slice (some ⟨b', o', none⟩) 16 (cap - 1)) w' := hs
  have ha := run_array16 (some ⟨b', o', none⟩) 16 (cap - 1) (by omega)
  have x0 : W1.cell? ⟨b', o', none⟩ = some (.int .u8 b0.toNat) := hc 0 (by simp)
  have x1 : W1.cell? ⟨b', o' + 1, none⟩ = some (.int .u8 b1.toNat) := hc 1 (by simp)
  have x2 : W1.cell? ⟨b', o' + 2, none⟩ = some (.int .u8 b2.toNat) := hc 2 (by simp)
  have x3 : W1.cell? ⟨b', o' + 3, none⟩ = some (.int .u8 b3.toNat) := hc 3 (by simp)
  have x4 : W1.cell? ⟨b', o' + 4, none⟩ = some (.int .u8 b4.toNat) := hc 4 (by simp)
  have x5 : W1.cell? ⟨b', o' + 5, none⟩ = some (.int .u8 b5.toNat) := hc 5 (by simp)
  have x6 : W1.cell? ⟨b', o' + 6, none⟩ = some (.int .u8 b6.toNat) := hc 6 (by simp)
  have x7 : W1.cell? ⟨b', o' + 7, none⟩ = some (.int .u8 b7.toNat) := hc 7 (by simp)
  have x8 : W1.cell? ⟨b', o' + 8, none⟩ = some (.int .u8 c0.toNat) := hc 8 (by simp)
  have x9 : W1.cell? ⟨b', o' + 9, none⟩ = some (.int .u8 c1.toNat) := hc 9 (by simp)
  have x10 : W1.cell? ⟨b', o' + 10, none⟩ = some (.int .u8 c2.toNat) := hc 10 (by simp)
  have x11 : W1.cell? ⟨b', o' + 11, none⟩ = some (.int .u8 c3.toNat) := hc 11 (by simp)
  have x12 : W1.cell? ⟨b', o' + 12, none⟩ = some (.int .u8 c4.toNat) := hc 12 (by simp)
  have x13 : W1.cell? ⟨b', o' + 13, none⟩ = some (.int .u8 c5.toNat) := hc 13 (by simp)
  have x14 : W1.cell? ⟨b', o' + 14, none⟩ = some (.int .u8 c6.toNat) := hc 14 (by simp)
  have x15 : W1.cell? ⟨b', o' + 15, none⟩ = some (.int .u8 c7.toNat) := hc 15 (by simp)
  have hreal := compOf_any b0 b1 b2 b3 b4 b5 b6 b7 c0 c1 c2 c3 c4 c5 c6 c7 W1
  unfold ag16 at hreal
  generalize numW [b0, b1, b2, b3, b4, b5, b6, b7] = m at *
  generalize numW [c0, c1, c2, c3, c4, c5, c6, c7] = m2 at *
  have HN := Lib.hid hreal
  clear hs ht' ht9 hc hreal h hl hn
  have sf : ∀ (p : Addr) (b : Nat) (mo : Mode) (w' : World), (store p (.float .f64 b) mo).run Try.prog w' = stored Try.prog w' p (.float .f64 b) mo := fun p b mo w' => run_store _ w' p _ mo rfl
  have sc : ∀ (p : Addr) (b c : Nat) (mo : Mode) (w' : World), (store p (.complex .f64 b c) mo).run Try.prog w' = stored Try.prog w' p (.complex .f64 b c) mo := fun p b c mo w' => run_store _ w' p _ mo rfl
  cases hok1 : okR m <;> cases hok2 : okR m2
  · rw [hok1, hok2] at HN
    go_enter Try.func7, Try.ntmps7
    go_wp2_with fail
    refine wp_scope_fwd 0 rfl ?_
    go_wp2_with fail
    rw [← H.out.eq]
    refine H.out.size.mono ?_
    rintro e w' ⟨rfl, rfl⟩
    go_upto_region 5 with (fail)
    rw [← HW1.out]
    clear y0 fy0 ly kc0
    have y0 := HY1.out.c 0 rfl
    have y1 := HY1.out.c 1 rfl
    have y2 := HY1.out.c 2 rfl
    have y3 := HY1.out.c 3 rfl
    have y4 := HY1.out.c 4 rfl
    have fy0 := HY1.out.fz 0
    have fy1 := HY1.out.fz 1
    have fy2 := HY1.out.fz 2
    have fy3 := HY1.out.fz 3
    have fy4 := HY1.out.fz 4
    have ly := HY1.out.lt
    go_upto_region 14 with (go_at_call 28; (with_reducible refine HN.out.mono ?_); rintro e w2 ⟨rfl, hb⟩; have HBQ := Lib.hid hb; have hy2 := HY1.out.keep hb HY1.out.lt; clear hb y0 y1 y2 y3 y4 fy0 fy1 fy2 fy3 fy4 ly; have v2 := hy2.c 3 rfl; have fv2 := hy2.fz 3; have lv := hy2.lt; have HY9 := Lib.hid hy2; clear hy2)
    clear v2 fv2 lv
    obtain ⟨W2, hW2⟩ : ∃ W2, W2 = w2.setCell ⟨w.heap.size + 1, 3, none⟩ (.complex .f64 m m2) := ⟨_, rfl⟩
    have HW2 := Lib.hid hW2
    have HX2 := Lib.hid (show Bk W2 w.heap.size 27 zeroC by rw [hW2]; exact (HX1.out.keep HBQ.out HX1.out.lt).other (by omega) _ _)
    have HY2 := Lib.hid (show Bk W2 (w.heap.size + 1) 27 [.int .i64 3, .int .i64 0, .float .f64 0, .complex .f64 m m2, .string ⟨#[]⟩] by rw [hW2]; exact HY9.out.set 3 _)
    have HB2 := Lib.hid (show Below w.heap.size w W2 by rw [hW2]; exact (HB1.out.trans (HBQ.out.mono HB1.out.size)).setCell (by simp) _)
    clear hW2
    rw [← HW2.out]
    have p0 := HX2.out.c 0 rfl
    have p1 := HX2.out.c 1 rfl
    have p2 := HX2.out.c 2 rfl
    have p3 := HX2.out.c 3 rfl
    have p4 := HX2.out.c 4 rfl
    have fp0 := HX2.out.fz 0
    have fp1 := HX2.out.fz 1
    have fp2 := HX2.out.fz 2
    have fp3 := HX2.out.fz 3
    have fp4 := HX2.out.fz 4
    have lp := HX2.out.lt
    go_wp2_with fail
    try go_step3
    refine And.intro rfl ?_
    go_wp2_with fail
    rw [Exit.noGoto_ret]
    have Z := HX2.out.put zeroC rfl
    simp only [zeroC, putL, Nat.reduceAdd] at Z
    have z0 := Z.c 0 rfl
    have z1 := Z.c 1 rfl
    have z2 := Z.c 2 rfl
    have z3 := Z.c 3 rfl
    have z4 := Z.c 4 rfl
    exact bodyPost_ret (v := .tuple #[valV 0 0 0 0 0 ⟨#[]⟩, .int .i64 0, .int .i64 110]) (by simp [results, Try.results7, go_sem, z0, z1, z2, z3, z4, valV]) rfl ⟨rfl, below_putL (g := w.heap.size) (Nat.le_refl _) zeroC 0 HB2.out⟩
  · rw [hok1, hok2] at HN
    go_enter Try.func7, Try.ntmps7
    go_wp2_with fail
    refine wp_scope_fwd 0 rfl ?_
    go_wp2_with fail
    rw [← H.out.eq]
    refine H.out.size.mono ?_
    rintro e w' ⟨rfl, rfl⟩
    go_upto_region 5 with (fail)
    rw [← HW1.out]
    clear y0 fy0 ly kc0
    have y0 := HY1.out.c 0 rfl
    have y1 := HY1.out.c 1 rfl
    have y2 := HY1.out.c 2 rfl
    have y3 := HY1.out.c 3 rfl
    have y4 := HY1.out.c 4 rfl
    have fy0 := HY1.out.fz 0
    have fy1 := HY1.out.fz 1
    have fy2 := HY1.out.fz 2
    have fy3 := HY1.out.fz 3
    have fy4 := HY1.out.fz 4
    have ly := HY1.out.lt
    go_upto_region 14 with (go_at_call 28; (with_reducible refine HN.out.mono ?_); rintro e w2 ⟨rfl, hb⟩; have HBQ := Lib.hid hb; have hy2 := HY1.out.keep hb HY1.out.lt; clear hb y0 y1 y2 y3 y4 fy0 fy1 fy2 fy3 fy4 ly; have v2 := hy2.c 3 rfl; have fv2 := hy2.fz 3; have lv := hy2.lt; have HY9 := Lib.hid hy2; clear hy2)
    clear v2 fv2 lv
    obtain ⟨W2, hW2⟩ : ∃ W2, W2 = w2.setCell ⟨w.heap.size + 1, 3, none⟩ (.complex .f64 m m2) := ⟨_, rfl⟩
    have HW2 := Lib.hid hW2
    have HX2 := Lib.hid (show Bk W2 w.heap.size 27 zeroC by rw [hW2]; exact (HX1.out.keep HBQ.out HX1.out.lt).other (by omega) _ _)
    have HY2 := Lib.hid (show Bk W2 (w.heap.size + 1) 27 [.int .i64 3, .int .i64 0, .float .f64 0, .complex .f64 m m2, .string ⟨#[]⟩] by rw [hW2]; exact HY9.out.set 3 _)
    have HB2 := Lib.hid (show Below w.heap.size w W2 by rw [hW2]; exact (HB1.out.trans (HBQ.out.mono HB1.out.size)).setCell (by simp) _)
    clear hW2
    rw [← HW2.out]
    have p0 := HX2.out.c 0 rfl
    have p1 := HX2.out.c 1 rfl
    have p2 := HX2.out.c 2 rfl
    have p3 := HX2.out.c 3 rfl
    have p4 := HX2.out.c 4 rfl
    have fp0 := HX2.out.fz 0
    have fp1 := HX2.out.fz 1
    have fp2 := HX2.out.fz 2
    have fp3 := HX2.out.fz 3
    have fp4 := HX2.out.fz 4
    have lp := HX2.out.lt
    go_wp2_with fail
    try go_step3
    refine And.intro rfl ?_
    go_wp2_with fail
    rw [Exit.noGoto_ret]
    have Z := HX2.out.put zeroC rfl
    simp only [zeroC, putL, Nat.reduceAdd] at Z
    have z0 := Z.c 0 rfl
    have z1 := Z.c 1 rfl
    have z2 := Z.c 2 rfl
    have z3 := Z.c 3 rfl
    have z4 := Z.c 4 rfl
    exact bodyPost_ret (v := .tuple #[valV 0 0 0 0 0 ⟨#[]⟩, .int .i64 0, .int .i64 110]) (by simp [results, Try.results7, go_sem, z0, z1, z2, z3, z4, valV]) rfl ⟨rfl, below_putL (g := w.heap.size) (Nat.le_refl _) zeroC 0 HB2.out⟩
  · rw [hok1, hok2] at HN
    go_enter Try.func7, Try.ntmps7
    go_wp2_with fail
    refine wp_scope_fwd 0 rfl ?_
    go_wp2_with fail
    rw [← H.out.eq]
    refine H.out.size.mono ?_
    rintro e w' ⟨rfl, rfl⟩
    go_upto_region 5 with (fail)
    rw [← HW1.out]
    clear y0 fy0 ly kc0
    have y0 := HY1.out.c 0 rfl
    have y1 := HY1.out.c 1 rfl
    have y2 := HY1.out.c 2 rfl
    have y3 := HY1.out.c 3 rfl
    have y4 := HY1.out.c 4 rfl
    have fy0 := HY1.out.fz 0
    have fy1 := HY1.out.fz 1
    have fy2 := HY1.out.fz 2
    have fy3 := HY1.out.fz 3
    have fy4 := HY1.out.fz 4
    have ly := HY1.out.lt
    go_upto_region 14 with (go_at_call 28; (with_reducible refine HN.out.mono ?_); rintro e w2 ⟨rfl, hb⟩; have HBQ := Lib.hid hb; have hy2 := HY1.out.keep hb HY1.out.lt; clear hb y0 y1 y2 y3 y4 fy0 fy1 fy2 fy3 fy4 ly; have v2 := hy2.c 3 rfl; have fv2 := hy2.fz 3; have lv := hy2.lt; have HY9 := Lib.hid hy2; clear hy2)
    clear v2 fv2 lv
    obtain ⟨W2, hW2⟩ : ∃ W2, W2 = w2.setCell ⟨w.heap.size + 1, 3, none⟩ (.complex .f64 m m2) := ⟨_, rfl⟩
    have HW2 := Lib.hid hW2
    have HX2 := Lib.hid (show Bk W2 w.heap.size 27 zeroC by rw [hW2]; exact (HX1.out.keep HBQ.out HX1.out.lt).other (by omega) _ _)
    have HY2 := Lib.hid (show Bk W2 (w.heap.size + 1) 27 [.int .i64 3, .int .i64 0, .float .f64 0, .complex .f64 m m2, .string ⟨#[]⟩] by rw [hW2]; exact HY9.out.set 3 _)
    have HB2 := Lib.hid (show Below w.heap.size w W2 by rw [hW2]; exact (HB1.out.trans (HBQ.out.mono HB1.out.size)).setCell (by simp) _)
    clear hW2
    rw [← HW2.out]
    have p0 := HX2.out.c 0 rfl
    have p1 := HX2.out.c 1 rfl
    have p2 := HX2.out.c 2 rfl
    have p3 := HX2.out.c 3 rfl
    have p4 := HX2.out.c 4 rfl
    have fp0 := HX2.out.fz 0
    have fp1 := HX2.out.fz 1
    have fp2 := HX2.out.fz 2
    have fp3 := HX2.out.fz 3
    have fp4 := HX2.out.fz 4
    have lp := HX2.out.lt
    go_wp2_with fail
    try go_step3
    refine And.intro rfl ?_
    go_wp2_with fail
    rw [Exit.noGoto_ret]
    have Z := HX2.out.put zeroC rfl
    simp only [zeroC, putL, Nat.reduceAdd] at Z
    have z0 := Z.c 0 rfl
    have z1 := Z.c 1 rfl
    have z2 := Z.c 2 rfl
    have z3 := Z.c 3 rfl
    have z4 := Z.c 4 rfl
    exact bodyPost_ret (v := .tuple #[valV 0 0 0 0 0 ⟨#[]⟩, .int .i64 0, .int .i64 110]) (by simp [results, Try.results7, go_sem, z0, z1, z2, z3, z4, valV]) rfl ⟨rfl, below_putL (g := w.heap.size) (Nat.le_refl _) zeroC 0 HB2.out⟩
  · rw [hok1, hok2] at HN
    go_enter Try.func7, Try.ntmps7
    go_wp2_with fail
    refine wp_scope_fwd 0 rfl ?_
    go_wp2_with fail
    rw [← H.out.eq]
    refine H.out.size.mono ?_
    rintro e w' ⟨rfl, rfl⟩
    go_upto_region 5 with (fail)
    rw [← HW1.out]
    clear y0 fy0 ly kc0
    have y0 := HY1.out.c 0 rfl
    have y1 := HY1.out.c 1 rfl
    have y2 := HY1.out.c 2 rfl
    have y3 := HY1.out.c 3 rfl
    have y4 := HY1.out.c 4 rfl
    have fy0 := HY1.out.fz 0
    have fy1 := HY1.out.fz 1
    have fy2 := HY1.out.fz 2
    have fy3 := HY1.out.fz 3
    have fy4 := HY1.out.fz 4
    have ly := HY1.out.lt
    go_upto_region 14 with (go_at_call 28; (with_reducible refine HN.out.mono ?_); rintro e w2 ⟨rfl, hb⟩; have HBQ := Lib.hid hb; have hy2 := HY1.out.keep hb HY1.out.lt; clear hb y0 y1 y2 y3 y4 fy0 fy1 fy2 fy3 fy4 ly; have v2 := hy2.c 3 rfl; have fv2 := hy2.fz 3; have lv := hy2.lt; have HY9 := Lib.hid hy2; clear hy2)
    clear v2 fv2 lv
    obtain ⟨W2, hW2⟩ : ∃ W2, W2 = w2.setCell ⟨w.heap.size + 1, 3, none⟩ (.complex .f64 m m2) := ⟨_, rfl⟩
    have HW2 := Lib.hid hW2
    have HX2 := Lib.hid (show Bk W2 w.heap.size 27 zeroC by rw [hW2]; exact (HX1.out.keep HBQ.out HX1.out.lt).other (by omega) _ _)
    have HY2 := Lib.hid (show Bk W2 (w.heap.size + 1) 27 [.int .i64 3, .int .i64 0, .float .f64 0, .complex .f64 m m2, .string ⟨#[]⟩] by rw [hW2]; exact HY9.out.set 3 _)
    have HB2 := Lib.hid (show Below w.heap.size w W2 by rw [hW2]; exact (HB1.out.trans (HBQ.out.mono HB1.out.size)).setCell (by simp) _)
    have HM := Lib.hid (mayValue_any 3 0 0 m m2 ⟨#[]⟩ W2)
    rw [show mayW 3 ⟨#[]⟩ = true from rfl] at HM
    unfold valV at HM
    clear hW2
    rw [← HW2.out]
    have u0 := HY2.out.c 0 rfl
    have u1 := HY2.out.c 1 rfl
    have u2 := HY2.out.c 2 rfl
    have u3 := HY2.out.c 3 rfl
    have u4 := HY2.out.c 4 rfl
    have fu0 := HY2.out.fz 0
    have fu1 := HY2.out.fz 1
    have fu2 := HY2.out.fz 2
    have fu3 := HY2.out.fz 3
    have fu4 := HY2.out.fz 4
    have lu := HY2.out.lt
    go_wp2_with fail
    refine HM.out.mono ?_
    rintro e w3 ⟨rfl, hb3⟩
    have HX3 := Lib.hid (HX2.out.keep hb3 HX2.out.lt)
    have HY3 := Lib.hid (HY2.out.keep hb3 HY2.out.lt)
    have HB3 := Lib.hid (HB2.out.trans (hb3.mono HB2.out.size))
    clear hb3
    clear u0 fu0 u1 fu1 u2 fu2 u3 fu3 u4 fu4 lu
    have p0 := HX3.out.c 0 rfl
    have p1 := HX3.out.c 1 rfl
    have p2 := HX3.out.c 2 rfl
    have p3 := HX3.out.c 3 rfl
    have p4 := HX3.out.c 4 rfl
    have fp0 := HX3.out.fz 0
    have fp1 := HX3.out.fz 1
    have fp2 := HX3.out.fz 2
    have fp3 := HX3.out.fz 3
    have fp4 := HX3.out.fz 4
    have lp := HX3.out.lt
    have q0 := HY3.out.c 0 rfl
    have q1 := HY3.out.c 1 rfl
    have q2 := HY3.out.c 2 rfl
    have q3 := HY3.out.c 3 rfl
    have q4 := HY3.out.c 4 rfl
    have fq0 := HY3.out.fz 0
    have fq1 := HY3.out.fz 1
    have fq2 := HY3.out.fz 2
    have fq3 := HY3.out.fz 3
    have fq4 := HY3.out.fz 4
    have lq := HY3.out.lt
    go_wp2_with fail
    rw [jump_ret]
    have Z := HX3.out.put [.int .i64 3, .int .i64 0, .float .f64 0, .complex .f64 m m2, .string ⟨#[]⟩] rfl
    simp only [putL, Nat.reduceAdd] at Z
    have z0 := Z.c 0 rfl
    have z1 := Z.c 1 rfl
    have z2 := Z.c 2 rfl
    have z3 := Z.c 3 rfl
    have z4 := Z.c 4 rfl
    exact bodyPost_ret (v := .tuple #[valV 3 0 0 m m2 ⟨#[]⟩, .int .i64 17, .int .i64 0]) (by simp [results, Try.results7, go_sem, z0, z1, z2, z3, z4, valV]) rfl ⟨rfl, below_putL (g := w.heap.size) (Nat.le_refl _) [.int .i64 3, .int .i64 0, .float .f64 0, .complex .f64 m m2, .string ⟨#[]⟩] 0 HB3.out⟩
end Go.Proofs.Ytloofajopgbfmaa
