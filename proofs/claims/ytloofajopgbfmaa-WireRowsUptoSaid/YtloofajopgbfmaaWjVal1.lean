/- Wire: ReadValue of an int. -/
import Derived.Test.YtloofajopgbfmaaWjVal
namespace Go.Proofs.Ytloofajopgbfmaa
set_option linter.all false
open Go.RowKit
set_option maxRecDepth 100000
set_option maxHeartbeats 4000000 in
theorem readValue_int (a : Option Addr) (n cap : Nat) (r : List UInt8) (w W0 : World) (h : RdSt w W0 a n cap (1 :: r) 9) (hn : 9 ≤ n) : Calls Try.prog 7 #[.slice a n cap] w fun e w' => e = .returned (ansV (some (⟨1, intW (numW (r.take 8)), 0, 0, 0, []⟩, 9))) ∧ Below w.heap.size w w' := by
  have hl := h.t.1
  have hl2 : r.length + 1 = n := by simpa using hl
  have hnm : n ≤ 9223372036854775807 := by have := h.t.2.1; have := h.t.2.2.1; unfold maxLen at *; omega
  have H := Lib.hid h
  have d1 : decide ((n : Int) < 9) = false := decide_eq_false (by omega)
  have d2 : decide (n < 9) = false := decide_eq_false (by omega)
  obtain ⟨b, o, rfl, hc⟩ := txt_cells h.t (by omega)
  have kc0 : W0.cell? ⟨b, o, none⟩ = some (.int .u8 1) := (h.bel.cell (World.block_lt_of_cell? w _ (hc 0 (by simp)))).trans (hc 0 (by simp))
  obtain ⟨W1, hW1, hB1, hX1, hY1, hT1⟩ := h.kind 1
  have HW1 := Lib.hid hW1
  have HB1 := Lib.hid hB1
  have HX1 := Lib.hid hX1
  have HY1 := Lib.hid hY1
  have HT1 := Lib.hid hT1
  have y0 := h.y.c 0 rfl
  have fy0 := h.y.fz 0
  have ly := h.y.lt
  have h0n : 0 < n := by omega
  have ne : ¬ b = w.heap.size + 1 := by have h1 := World.block_lt_of_cell? w _ (hc 0 (by simp)); simp at h1; omega
  clear hc hW1 hB1 hX1 hY1 hT1
  obtain ⟨a', hs, ht'⟩ := slice_mid 1 9 HT1.out (by omega) (by omega)
  have hs' : ∀ w', (Instr.slice 22 (.slice (some ⟨b, o, none⟩) n cap) (some (.int .i64 1)) (some (.int .i64 9)) none).run Try.prog w' = .ok (.slice a' 8 (cap - 1)) w' := hs
  have hnum := number_any a' 8 (cap - 1) (r.take 8) W1 ht' (by omega)
  have hlt : numW (r.take 8) < 18446744073709551616 := numW_lt8 (by simp; omega)
  generalize numW (r.take 8) = m at *
  have hw : IntKind.i64.wrap (m : Int) = intW m := by rw [IntKind.wrap_i64]; unfold intW; split <;> omega
  generalize intW m = iv at *
  have HN := Lib.hid hnum
  obtain ⟨W2, hW2⟩ : ∃ W2, W2 = W1.setCell ⟨w.heap.size + 1, 1, none⟩ (.int .i64 iv) := ⟨_, rfl⟩
  have HW2 := Lib.hid hW2
  have HX2 := Lib.hid (show Bk W2 w.heap.size 27 zeroC by rw [hW2]; exact HX1.out.other (by omega) _ _)
  have HY2 := Lib.hid (show Bk W2 (w.heap.size + 1) 27 [.int .i64 1, .int .i64 iv, .float .f64 0, .complex .f64 0 0, .string ⟨#[]⟩] by rw [hW2]; exact HY1.out.set 1 _)
  have HB2 := Lib.hid (show Below w.heap.size w W2 by rw [hW2]; exact HB1.out.setCell (by simp) _)
  have HM := Lib.hid (mayValue_any 1 iv 0 0 0 ⟨#[]⟩ W2)
  rw [show mayW 1 ⟨#[]⟩ = true from rfl] at HM
  unfold valV at HM
  clear hs ht' hnum hlt h hl hl2 hn hW2
  have sf : ∀ (p : Addr) (b : Nat) (mo : Mode) (w' : World), (store p (.float .f64 b) mo).run Try.prog w' = stored Try.prog w' p (.float .f64 b) mo := fun p b mo w' => run_store _ w' p _ mo rfl
  have sc : ∀ (p : Addr) (b c : Nat) (mo : Mode) (w' : World), (store p (.complex .f64 b c) mo).run Try.prog w' = stored Try.prog w' p (.complex .f64 b c) mo := fun p b c mo w' => run_store _ w' p _ mo rfl
  go_enter Try.func7, Try.ntmps7
  go_wp2_with fail
  refine wp_scope_fwd 0 rfl ?_
  go_wp2_with fail
  rw [← H.out.eq]
  refine H.out.size.mono ?_
  rintro e w' ⟨rfl, rfl⟩
  go_upto_region 5 with (fail)
  rw [← HW1.out]
  clear y0 fy0 ly kc0
  have y0 := HY1.out.c 0 rfl
  have y1 := HY1.out.c 1 rfl
  have y2 := HY1.out.c 2 rfl
  have y3 := HY1.out.c 3 rfl
  have y4 := HY1.out.c 4 rfl
  have fy0 := HY1.out.fz 0
  have fy1 := HY1.out.fz 1
  have fy2 := HY1.out.fz 2
  have fy3 := HY1.out.fz 3
  have fy4 := HY1.out.fz 4
  have ly := HY1.out.lt
  go_upto_region 14 with (go_at_call 26; (with_reducible refine HN.out.mono ?_); rintro e w' ⟨rfl, rfl⟩)
  rw [← HW2.out]
  clear y0 fy0 y1 fy1 y2 fy2 y3 fy3 y4 fy4 ly
  have u0 := HY2.out.c 0 rfl
  have u1 := HY2.out.c 1 rfl
  have u2 := HY2.out.c 2 rfl
  have u3 := HY2.out.c 3 rfl
  have u4 := HY2.out.c 4 rfl
  have fu0 := HY2.out.fz 0
  have fu1 := HY2.out.fz 1
  have fu2 := HY2.out.fz 2
  have fu3 := HY2.out.fz 3
  have fu4 := HY2.out.fz 4
  have lu := HY2.out.lt
  go_wp2_with fail
  refine HM.out.mono ?_
  rintro e w3 ⟨rfl, hb3⟩
  have HX3 := Lib.hid (HX2.out.keep hb3 HX2.out.lt)
  have HY3 := Lib.hid (HY2.out.keep hb3 HY2.out.lt)
  have HB3 := Lib.hid (HB2.out.trans (hb3.mono HB2.out.size))
  clear hb3
  clear u0 fu0 u1 fu1 u2 fu2 u3 fu3 u4 fu4 lu
  have p0 := HX3.out.c 0 rfl
  have p1 := HX3.out.c 1 rfl
  have p2 := HX3.out.c 2 rfl
  have p3 := HX3.out.c 3 rfl
  have p4 := HX3.out.c 4 rfl
  have fp0 := HX3.out.fz 0
  have fp1 := HX3.out.fz 1
  have fp2 := HX3.out.fz 2
  have fp3 := HX3.out.fz 3
  have fp4 := HX3.out.fz 4
  have lp := HX3.out.lt
  have q0 := HY3.out.c 0 rfl
  have q1 := HY3.out.c 1 rfl
  have q2 := HY3.out.c 2 rfl
  have q3 := HY3.out.c 3 rfl
  have q4 := HY3.out.c 4 rfl
  have fq0 := HY3.out.fz 0
  have fq1 := HY3.out.fz 1
  have fq2 := HY3.out.fz 2
  have fq3 := HY3.out.fz 3
  have fq4 := HY3.out.fz 4
  have lq := HY3.out.lt
  go_wp2_with fail
  rw [jump_ret]
  have Z := HX3.out.put [.int .i64 1, .int .i64 iv, .float .f64 0, .complex .f64 0 0, .string ⟨#[]⟩] rfl
  simp only [putL, Nat.reduceAdd] at Z
  have z0 := Z.c 0 rfl
  have z1 := Z.c 1 rfl
  have z2 := Z.c 2 rfl
  have z3 := Z.c 3 rfl
  have z4 := Z.c 4 rfl
  exact bodyPost_ret (v := .tuple #[valV 1 iv 0 0 0 ⟨#[]⟩, .int .i64 9, .int .i64 0]) (by simp [results, Try.results7, go_sem, z0, z1, z2, z3, z4, valV]) rfl ⟨rfl, below_putL (g := w.heap.size) (Nat.le_refl _) [.int .i64 1, .int .i64 iv, .float .f64 0, .complex .f64 0 0, .string ⟨#[]⟩] 0 HB3.out⟩
end Go.Proofs.Ytloofajopgbfmaa
