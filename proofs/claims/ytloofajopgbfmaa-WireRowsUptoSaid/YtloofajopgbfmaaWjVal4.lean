/- Wire: ReadValue of a text, and of what is no kind. -/
import Derived.Test.YtloofajopgbfmaaWjVal
namespace Go.Proofs.Ytloofajopgbfmaa
set_option linter.all false
open Go.RowKit
set_option maxRecDepth 100000
set_option maxHeartbeats 8000000 in
theorem readValue_text (a : Option Addr) (n cap m : Nat) (r : List UInt8) (w W0 : World) (h : RdSt w W0 a n cap (4 :: r) (3 + m)) (hn : 3 + m ≤ n) (hm : m < 65536) : Calls Try.prog 7 #[.slice a n cap] w fun e w' => e = .returned (ansV (if m ≤ 256 then some (⟨4, 0, 0, 0, 0, (r.drop 2).take m⟩, 3 + m) else none)) ∧ Below w.heap.size w w' := by
  have hl := h.t.1
  have hl2 : r.length + 1 = n := by simpa using hl
  have hnm : n ≤ 9223372036854775807 := by have := h.t.2.1; have := h.t.2.2.1; unfold maxLen at *; omega
  have H : Hid (RdSt w W0 a n cap (4 :: r) (3 + m)) := Lib.hid h
  have d1 : decide ((n : Int) < ((3 + m : Nat) : Int)) = false := decide_eq_false (by omega)
  have d2 : decide (n < 3 + m) = false := decide_eq_false (by omega)
  obtain ⟨b, o, rfl, hc⟩ := txt_cells h.t (by omega)
  have kc0 : W0.cell? ⟨b, o, none⟩ = some (.int .u8 4) := (h.bel.cell (World.block_lt_of_cell? w _ (hc 0 (by simp)))).trans (hc 0 (by simp))
  obtain ⟨W1, hW1, hB1, hX1, hY1, hT1⟩ := h.kind 4
  have HW1 := Lib.hid hW1
  have HB1 := Lib.hid hB1
  have HX1 := Lib.hid hX1
  have HY1 := Lib.hid hY1
  have HT1 := Lib.hid hT1
  have y0 := h.y.c 0 rfl
  have fy0 := h.y.fz 0
  have ly := h.y.lt
  have h0n : 0 < n := by omega
  have ne : ¬ b = w.heap.size + 1 := by have h1 := World.block_lt_of_cell? w _ (hc 0 (by simp)); simp at h1; omega
  clear hc hW1 hB1 hX1 hY1 hT1
  obtain ⟨a', hs, ht'⟩ := slice_mid 3 (3 + m) HT1.out (by omega) (by omega)
  have e3 : 3 + m - 3 = m := by omega
  rw [e3] at hs ht'
  have htx : ((4 :: r).drop 3).take m = (r.drop 2).take m := rfl
  rw [htx] at ht'
  have hcv := text_of ht'
  have hln : ((r.drop 2).take m).length = m := ht'.1
  generalize (r.drop 2).take m = tx at *
  have hsz : (⟨tx.toArray⟩ : ByteArray).size = m := hln
  obtain ⟨M, hM⟩ : ∃ M : Int, M = ((3 + m : Nat) : Int) := ⟨_, rfl⟩
  rw [← hM] at hs d1
  have hs' : ∀ w', (Instr.slice 22 (.slice (some ⟨b, o, none⟩) n cap) (some (.int .i64 3)) (some (.int .i64 M)) none).run Try.prog w' = .ok (.slice a' m (cap - 3)) w' := hs
  have HSZ : Hid (Calls Try.prog 25 #[.slice (some ⟨b, o, none⟩) n cap] W0 fun e w' => e = .returned (.int .i64 M) ∧ W0 = w') := Lib.hid (by rw [hM]; exact h.size)
  obtain ⟨s, hS⟩ : ∃ s : ByteArray, s = ⟨tx.toArray⟩ := ⟨_, rfl⟩
  rw [← hS] at hcv hsz
  have hmw : mayW 4 s = decide (m ≤ 256) := by show decide (s.size ≤ 256) = _; rw [hsz]
  have HM0 := Lib.hid hM
  have HSS := Lib.hid hS
  have HMW := Lib.hid hmw
  obtain ⟨W2, hW2⟩ : ∃ W2, W2 = W1.setCell ⟨w.heap.size + 1, 4, none⟩ (.string s) := ⟨_, rfl⟩
  have HW2 := Lib.hid hW2
  have HX2 := Lib.hid (show Bk W2 w.heap.size 27 zeroC by rw [hW2]; exact HX1.out.other (by omega) _ _)
  have HY2 := Lib.hid (show Bk W2 (w.heap.size + 1) 27 [.int .i64 4, .int .i64 0, .float .f64 0, .complex .f64 0 0, .string s] by rw [hW2]; exact HY1.out.set 4 _)
  have HB2 := Lib.hid (show Below w.heap.size w W2 by rw [hW2]; exact HB1.out.setCell (by simp) _)
  have HM := Lib.hid (mayValue_any 4 0 0 0 0 s W2)
  rw [hmw] at HM
  unfold valV at HM
  clear hs hW2 hmw hM hS hsz hln htx ht' e3 h hl hl2
  show Calls Try.prog 7 #[.slice (some ⟨b, o, none⟩) n cap] w fun e w' => e = .returned (ansV (if m ≤ 256 then some (⟨4, 0, 0, 0, 0, tx⟩, 3 + m) else none)) ∧ Below w.heap.size w w'
  have sf : ∀ (p : Addr) (b : Nat) (mo : Mode) (w' : World), (store p (.float .f64 b) mo).run Try.prog w' = stored Try.prog w' p (.float .f64 b) mo := fun p b mo w' => run_store _ w' p _ mo rfl
  have sc : ∀ (p : Addr) (b c : Nat) (mo : Mode) (w' : World), (store p (.complex .f64 b c) mo).run Try.prog w' = stored Try.prog w' p (.complex .f64 b c) mo := fun p b c mo w' => run_store _ w' p _ mo rfl
  by_cases h6 : m ≤ 256
  · have d6 : decide (m ≤ 256) = true := decide_eq_true h6
    rw [d6] at HM
    rw [if_pos h6]
    clear h6
    go_enter Try.func7, Try.ntmps7
    go_wp2_with fail
    refine wp_scope_fwd 0 rfl ?_
    go_wp2_with fail
    rw [← H.out.eq]
    refine HSZ.out.mono ?_
    rintro e w' ⟨rfl, rfl⟩
    go_upto_region 5 with (fail)
    rw [← HW1.out]
    clear y0 fy0 ly kc0
    have y0 := HY1.out.c 0 rfl
    have y1 := HY1.out.c 1 rfl
    have y2 := HY1.out.c 2 rfl
    have y3 := HY1.out.c 3 rfl
    have y4 := HY1.out.c 4 rfl
    have fy0 := HY1.out.fz 0
    have fy1 := HY1.out.fz 1
    have fy2 := HY1.out.fz 2
    have fy3 := HY1.out.fz 3
    have fy4 := HY1.out.fz 4
    have ly := HY1.out.lt
    go_upto_region 14 with (fail)
    rw [← HW2.out]
    clear y0 fy0 y1 fy1 y2 fy2 y3 fy3 y4 fy4 ly
    have u0 := HY2.out.c 0 rfl
    have u1 := HY2.out.c 1 rfl
    have u2 := HY2.out.c 2 rfl
    have u3 := HY2.out.c 3 rfl
    have u4 := HY2.out.c 4 rfl
    have fu0 := HY2.out.fz 0
    have fu1 := HY2.out.fz 1
    have fu2 := HY2.out.fz 2
    have fu3 := HY2.out.fz 3
    have fu4 := HY2.out.fz 4
    have lu := HY2.out.lt
    go_wp2_with fail
    refine HM.out.mono ?_
    rintro e w3 ⟨rfl, hb3⟩
    have HX3 := Lib.hid (HX2.out.keep hb3 HX2.out.lt)
    have HY3 := Lib.hid (HY2.out.keep hb3 HY2.out.lt)
    have HB3 := Lib.hid (HB2.out.trans (hb3.mono HB2.out.size))
    clear hb3
    clear u0 fu0 u1 fu1 u2 fu2 u3 fu3 u4 fu4 lu
    have p0 := HX3.out.c 0 rfl
    have p1 := HX3.out.c 1 rfl
    have p2 := HX3.out.c 2 rfl
    have p3 := HX3.out.c 3 rfl
    have p4 := HX3.out.c 4 rfl
    have fp0 := HX3.out.fz 0
    have fp1 := HX3.out.fz 1
    have fp2 := HX3.out.fz 2
    have fp3 := HX3.out.fz 3
    have fp4 := HX3.out.fz 4
    have lp := HX3.out.lt
    have q0 := HY3.out.c 0 rfl
    have q1 := HY3.out.c 1 rfl
    have q2 := HY3.out.c 2 rfl
    have q3 := HY3.out.c 3 rfl
    have q4 := HY3.out.c 4 rfl
    have fq0 := HY3.out.fz 0
    have fq1 := HY3.out.fz 1
    have fq2 := HY3.out.fz 2
    have fq3 := HY3.out.fz 3
    have fq4 := HY3.out.fz 4
    have lq := HY3.out.lt
    go_wp2_with fail
    rw [jump_ret]
    have Z := HX3.out.put [.int .i64 4, .int .i64 0, .float .f64 0, .complex .f64 0 0, .string s] rfl
    simp only [putL, Nat.reduceAdd] at Z
    have z0 := Z.c 0 rfl
    have z1 := Z.c 1 rfl
    have z2 := Z.c 2 rfl
    have z3 := Z.c 3 rfl
    have z4 := Z.c 4 rfl
    exact bodyPost_ret (v := .tuple #[valV 4 0 0 0 0 s, .int .i64 M, .int .i64 0]) (by simp [results, Try.results7, go_sem, z0, z1, z2, z3, z4, valV]) rfl ⟨by rw [HM0.out, HSS.out]; rfl, below_putL (g := w.heap.size) (Nat.le_refl _) [.int .i64 4, .int .i64 0, .float .f64 0, .complex .f64 0 0, .string s] 0 HB3.out⟩
  · have d6 : decide (m ≤ 256) = false := decide_eq_false h6
    rw [d6] at HM
    rw [if_neg h6]
    clear h6
    go_enter Try.func7, Try.ntmps7
    go_wp2_with fail
    refine wp_scope_fwd 0 rfl ?_
    go_wp2_with fail
    rw [← H.out.eq]
    refine HSZ.out.mono ?_
    rintro e w' ⟨rfl, rfl⟩
    go_upto_region 5 with (fail)
    rw [← HW1.out]
    clear y0 fy0 ly kc0
    have y0 := HY1.out.c 0 rfl
    have y1 := HY1.out.c 1 rfl
    have y2 := HY1.out.c 2 rfl
    have y3 := HY1.out.c 3 rfl
    have y4 := HY1.out.c 4 rfl
    have fy0 := HY1.out.fz 0
    have fy1 := HY1.out.fz 1
    have fy2 := HY1.out.fz 2
    have fy3 := HY1.out.fz 3
    have fy4 := HY1.out.fz 4
    have ly := HY1.out.lt
    go_upto_region 14 with (fail)
    rw [← HW2.out]
    clear y0 fy0 y1 fy1 y2 fy2 y3 fy3 y4 fy4 ly
    have u0 := HY2.out.c 0 rfl
    have u1 := HY2.out.c 1 rfl
    have u2 := HY2.out.c 2 rfl
    have u3 := HY2.out.c 3 rfl
    have u4 := HY2.out.c 4 rfl
    have fu0 := HY2.out.fz 0
    have fu1 := HY2.out.fz 1
    have fu2 := HY2.out.fz 2
    have fu3 := HY2.out.fz 3
    have fu4 := HY2.out.fz 4
    have lu := HY2.out.lt
    go_wp2_with fail
    refine HM.out.mono ?_
    rintro e w3 ⟨rfl, hb3⟩
    have HX3 := Lib.hid (HX2.out.keep hb3 HX2.out.lt)
    have HY3 := Lib.hid (HY2.out.keep hb3 HY2.out.lt)
    have HB3 := Lib.hid (HB2.out.trans (hb3.mono HB2.out.size))
    clear hb3
    clear u0 fu0 u1 fu1 u2 fu2 u3 fu3 u4 fu4 lu
    have p0 := HX3.out.c 0 rfl
    have p1 := HX3.out.c 1 rfl
    have p2 := HX3.out.c 2 rfl
    have p3 := HX3.out.c 3 rfl
    have p4 := HX3.out.c 4 rfl
    have fp0 := HX3.out.fz 0
    have fp1 := HX3.out.fz 1
    have fp2 := HX3.out.fz 2
    have fp3 := HX3.out.fz 3
    have fp4 := HX3.out.fz 4
    have lp := HX3.out.lt
    go_wp2_with fail
    try go_step3
    refine And.intro rfl ?_
    go_wp2_with fail
    rw [Exit.noGoto_ret]
    have Z := HX3.out.put zeroC rfl
    simp only [zeroC, putL, Nat.reduceAdd] at Z
    have z0 := Z.c 0 rfl
    have z1 := Z.c 1 rfl
    have z2 := Z.c 2 rfl
    have z3 := Z.c 3 rfl
    have z4 := Z.c 4 rfl
    exact bodyPost_ret (v := .tuple #[valV 0 0 0 0 0 ⟨#[]⟩, .int .i64 0, .int .i64 110]) (by simp [results, Try.results7, go_sem, z0, z1, z2, z3, z4, valV]) rfl ⟨rfl, below_putL (g := w.heap.size) (Nat.le_refl _) zeroC 0 HB3.out⟩
set_option maxHeartbeats 8000000 in
theorem readValue_else (a : Option Addr) (n cap : Nat) (k : UInt8) (r : List UInt8) (w W0 : World) (h : RdSt w W0 a n cap (k :: r) 1) (h1 : k ≠ 1) (h2 : k ≠ 2) (h3 : k ≠ 3) (h4 : k ≠ 4) : Calls Try.prog 7 #[.slice a n cap] w fun e w' => e = .returned (ansV none) ∧ Below w.heap.size w w' := by
  have hl := h.t.1
  have hl2 : r.length + 1 = n := by simpa using hl
  have hnm : n ≤ 9223372036854775807 := by have := h.t.2.1; have := h.t.2.2.1; unfold maxLen at *; omega
  have H := Lib.hid h
  have d1 : decide ((n : Int) < 1) = false := decide_eq_false (by omega)
  have d2 : decide (n < 1) = false := decide_eq_false (by omega)
  obtain ⟨kd, hkd⟩ : ∃ kd : Int, kd = (k.toNat : Int) := ⟨_, rfl⟩
  have e1 : kd ≠ 1 := by rw [hkd]; exact byte_ne h1
  have e2 : kd ≠ 2 := by rw [hkd]; exact byte_ne h2
  have e3 : kd ≠ 3 := by rw [hkd]; exact byte_ne h3
  have e4 : kd ≠ 4 := by rw [hkd]; exact byte_ne h4
  have t1 : (kd == 1) = false := by simpa using e1
  have t2 : (kd == 2) = false := by simpa using e2
  have t3 : (kd == 3) = false := by simpa using e3
  have t4 : (kd == 4) = false := by simpa using e4
  have b1 : 0 ≤ kd := by omega
  have b2 : kd ≤ 255 := by have := k.toNat_lt; omega
  have hmw : mayW kd ⟨#[]⟩ = false := by unfold mayW; rw [if_neg (by omega), if_neg e4]
  obtain ⟨b, o, rfl, hc⟩ := txt_cells h.t (by omega)
  have kc0 : W0.cell? ⟨b, o, none⟩ = some (.int .u8 kd) := by rw [hkd]; exact (h.bel.cell (World.block_lt_of_cell? w _ (hc 0 (by simp)))).trans (hc 0 (by simp))
  obtain ⟨W1, hW1, hB1, hX1, hY1, hT1⟩ := h.kind kd
  have HW1 := Lib.hid hW1
  have HB1 := Lib.hid hB1
  have HX1 := Lib.hid hX1
  have HY1 := Lib.hid hY1
  have HT1 := Lib.hid hT1
  have y0 := h.y.c 0 rfl
  have fy0 := h.y.fz 0
  have ly := h.y.lt
  have h0n : 0 < n := by omega
  have ne : ¬ b = w.heap.size + 1 := by have h1 := World.block_lt_of_cell? w _ (hc 0 (by simp)); simp at h1; omega
  clear hc hW1 hB1 hX1 hY1 hT1
  have HM := Lib.hid (mayValue_any kd 0 0 0 0 ⟨#[]⟩ W1)
  rw [hmw] at HM
  unfold valV at HM
  clear hkd hmw h hl hl2 e1 e2 e3 e4 h1 h2 h3 h4
  have sf : ∀ (p : Addr) (b : Nat) (mo : Mode) (w' : World), (store p (.float .f64 b) mo).run Try.prog w' = stored Try.prog w' p (.float .f64 b) mo := fun p b mo w' => run_store _ w' p _ mo rfl
  have sc : ∀ (p : Addr) (b c : Nat) (mo : Mode) (w' : World), (store p (.complex .f64 b c) mo).run Try.prog w' = stored Try.prog w' p (.complex .f64 b c) mo := fun p b c mo w' => run_store _ w' p _ mo rfl
  go_enter Try.func7, Try.ntmps7
  go_wp2_with fail
  refine wp_scope_fwd 0 rfl ?_
  go_wp2_with fail
  rw [← H.out.eq]
  refine H.out.size.mono ?_
  rintro e w' ⟨rfl, rfl⟩
  go_upto_region 5 with (fail)
  rw [← HW1.out]
  clear y0 fy0 ly kc0
  have u0 := HY1.out.c 0 rfl
  have u1 := HY1.out.c 1 rfl
  have u2 := HY1.out.c 2 rfl
  have u3 := HY1.out.c 3 rfl
  have u4 := HY1.out.c 4 rfl
  have fu0 := HY1.out.fz 0
  have fu1 := HY1.out.fz 1
  have fu2 := HY1.out.fz 2
  have fu3 := HY1.out.fz 3
  have fu4 := HY1.out.fz 4
  have lu := HY1.out.lt
  go_wp2_with fail
  refine HM.out.mono ?_
  rintro e w3 ⟨rfl, hb3⟩
  have HX3 := Lib.hid (HX1.out.keep hb3 HX1.out.lt)
  have HB3 := Lib.hid (HB1.out.trans (hb3.mono HB1.out.size))
  clear hb3
  clear u0 fu0 u1 fu1 u2 fu2 u3 fu3 u4 fu4 lu
  have p0 := HX3.out.c 0 rfl
  have p1 := HX3.out.c 1 rfl
  have p2 := HX3.out.c 2 rfl
  have p3 := HX3.out.c 3 rfl
  have p4 := HX3.out.c 4 rfl
  have fp0 := HX3.out.fz 0
  have fp1 := HX3.out.fz 1
  have fp2 := HX3.out.fz 2
  have fp3 := HX3.out.fz 3
  have fp4 := HX3.out.fz 4
  have lp := HX3.out.lt
  go_wp2_with fail
  try go_step3
  refine And.intro rfl ?_
  go_wp2_with fail
  rw [Exit.noGoto_ret]
  have Z := HX3.out.put zeroC rfl
  simp only [zeroC, putL, Nat.reduceAdd] at Z
  have z0 := Z.c 0 rfl
  have z1 := Z.c 1 rfl
  have z2 := Z.c 2 rfl
  have z3 := Z.c 3 rfl
  have z4 := Z.c 4 rfl
  exact bodyPost_ret (v := .tuple #[valV 0 0 0 0 0 ⟨#[]⟩, .int .i64 0, .int .i64 110]) (by simp [results, Try.results7, go_sem, z0, z1, z2, z3, z4, valV]) rfl ⟨rfl, below_putL (g := w.heap.size) (Nat.le_refl _) zeroC 0 HB3.out⟩
end Go.Proofs.Ytloofajopgbfmaa
