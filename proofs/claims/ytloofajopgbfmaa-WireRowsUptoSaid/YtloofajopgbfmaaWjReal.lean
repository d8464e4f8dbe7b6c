/- Wire: reals as bytes, and back: realBytes, realOf, compOf. -/
import Derived.Test.YtloofajopgbfmaaWjNum
import Derived.Deep.Cut
import Derived.Deep.DeepCutAuto
import Derived.Deep.RegionHeld3
import Derived.Deep.RegionWith
import Derived.Laws.StructEq
namespace Go.Proofs.Ytloofajopgbfmaa
set_option linter.all false
open Go.RowKit
set_option maxRecDepth 100000
theorem beW8 (n : Nat) : ∃ b0 b1 b2 b3 b4 b5 b6 b7, beW 8 n = [b0, b1, b2, b3, b4, b5, b6, b7] := ⟨_, _, _, _, _, _, _, _, rfl⟩
set_option maxHeartbeats 1000000 in
theorem realBytes_any (f : Nat) (hf : f < 18446744073709551616) (w : World) : Calls Try.prog 48 #[.float .f64 f] w fun e w' => e = .returned (agB (beW 8 (bitsW f))) ∧ Below w.heap.size w w' := by
  have hB0 : Below w.heap.size w (w.alloc (.cells (u8s [0, 0, 0, 0, 0, 0, 0, 0]).toArray 69)) := (Below.refl _ w).alloc (Nat.le_refl _) _
  have HB0 := Lib.hid hB0
  have hX0 : Bk (w.alloc (.cells (u8s [0, 0, 0, 0, 0, 0, 0, 0]).toArray 69)) w.heap.size 69 (u8s [0, 0, 0, 0, 0, 0, 0, 0]) := Bk.new w _ _
  have HX0 := Lib.hid hX0
  obtain ⟨m, hm, hmb⟩ : ∃ m, m = bitsW f ∧ m < 18446744073709551616 := ⟨_, rfl, by unfold bitsW noneW; split <;> omega⟩
  obtain ⟨b0, b1, b2, b3, b4, b5, b6, b7, hbe⟩ := beW8 m
  have hcall := fun W => bytesOf_any m hmb W
  rw [hbe] at hcall
  rw [← hm, hbe]
  simp only [agB, u8s, List.map_cons, List.map_nil] at hcall ⊢
  unfold bitsW at hm
  have h1 := f64bits f
  have HC := Lib.hid hcall
  obtain ⟨W0, hW0⟩ : ∃ W0, W0 = w.alloc (.cells (u8s [0, 0, 0, 0, 0, 0, 0, 0]).toArray 69) := ⟨_, rfl⟩
  rw [← hW0] at HB0 HX0
  have HW0 := Lib.hid hW0
  have HN : Hid (∀ W, Calls Try.prog 54 #[.float .f64 f] W fun e w' => e = .returned (.bool (nanB f)) ∧ W = w') := Lib.hid (fun W => isNaN_any f W)
  clear hW0 hcall hbe hB0 hX0
  cases hn : nanB f
  all_goals
    rw [hn] at hm HN
    simp only [if_true, Bool.false_eq_true, if_false, noneW] at hm
    subst hm
    go_enter Try.func48, Try.ntmps48
    go_upto_region 1 with (fail)
    have e0 : W0 = w.alloc (.cells #[.int .u8 0, .int .u8 0, .int .u8 0, .int .u8 0, .int .u8 0, .int .u8 0, .int .u8 0, .int .u8 0] 69) := HW0.out
    rw [← e0]
    clear e0
    go_wp2_with (first | (go_at_call 54; refine (HN.out _).mono ?_; rintro e w' ⟨rfl, rfl⟩) | (go_at_call 57; (refine (HC.out _).mono ?_); rintro e w1 ⟨rfl, hb⟩; have HB1 := Lib.hid hb; clear hb; have hx := HX0.out.keep HB1.out HX0.out.lt; have d0 := hx.c 0 rfl; have d1 := hx.c 1 rfl; have d2 := hx.c 2 rfl; have d3 := hx.c 3 rfl; have d4 := hx.c 4 rfl; have d5 := hx.c 5 rfl; have d6 := hx.c 6 rfl; have d7 := hx.c 7 rfl; have f0 := hx.fz 0; have f1 := hx.fz 1; have f2 := hx.fz 2; have f3 := hx.fz 3; have f4 := hx.fz 4; have f5 := hx.fz 5; have f6 := hx.fz 6; have f7 := hx.fz 7; have hl := hx.lt; have HX := Lib.hid hx; clear hx))
    have Z : Bk ((((((((w1.setCell ⟨w.heap.size, 0, none⟩ (.int .u8 b0.toNat)).setCell ⟨w.heap.size, 1, none⟩ (.int .u8 b1.toNat)).setCell ⟨w.heap.size, 2, none⟩ (.int .u8 b2.toNat)).setCell ⟨w.heap.size, 3, none⟩ (.int .u8 b3.toNat)).setCell ⟨w.heap.size, 4, none⟩ (.int .u8 b4.toNat)).setCell ⟨w.heap.size, 5, none⟩ (.int .u8 b5.toNat)).setCell ⟨w.heap.size, 6, none⟩ (.int .u8 b6.toNat)).setCell ⟨w.heap.size, 7, none⟩ (.int .u8 b7.toNat)) w.heap.size 69 (u8s [b0, b1, b2, b3, b4, b5, b6, b7]) := HX.out.put (u8s [b0, b1, b2, b3, b4, b5, b6, b7]) rfl
    have z0 := Z.c 0 rfl
    have z1 := Z.c 1 rfl
    have z2 := Z.c 2 rfl
    have z3 := Z.c 3 rfl
    have z4 := Z.c 4 rfl
    have z5 := Z.c 5 rfl
    have z6 := Z.c 6 rfl
    have z7 := Z.c 7 rfl
    exact bodyPost_ret (v := agB [b0, b1, b2, b3, b4, b5, b6, b7]) (by simp [results, Try.results48, go_sem, z0, z1, z2, z3, z4, z5, z6, z7, agB, u8s]) rfl ⟨rfl, below_putL (g := w.heap.size) (Nat.le_refl _) (u8s [b0, b1, b2, b3, b4, b5, b6, b7]) 0 (HB0.out.trans (HB1.out.mono HB0.out.size))⟩
/-- eight bytes as an array -/
def ag8 (b0 b1 b2 b3 b4 b5 b6 b7 : UInt8) : Value := .agg #[.int .u8 b0.toNat, .int .u8 b1.toNat, .int .u8 b2.toNat, .int .u8 b3.toNat, .int .u8 b4.toNat, .int .u8 b5.toNat, .int .u8 b6.toNat, .int .u8 b7.toNat]
set_option maxHeartbeats 2000000 in
theorem eq8 (a0 a1 a2 a3 a4 a5 a6 a7 c0 c1 c2 c3 c4 c5 c6 c7 : Int) (w : World) : (binOp .eql 69 (.agg #[.int .u8 a0, .int .u8 a1, .int .u8 a2, .int .u8 a3, .int .u8 a4, .int .u8 a5, .int .u8 a6, .int .u8 a7]) (.agg #[.int .u8 c0, .int .u8 c1, .int .u8 c2, .int .u8 c3, .int .u8 c4, .int .u8 c5, .int .u8 c6, .int .u8 c7])).run Try.prog w =
    .ok (.bool (a0 == c0 && (a1 == c1 && (a2 == c2 && (a3 == c3 && (a4 == c4 && (a5 == c5 && (a6 == c6 && a7 == c7)))))))) w := by
  have uu := Try.underlying5
  have ug := Try.isAgg5
  have uz := Try.sizeOf5
  rw [run_eql_struct, show (10000 : Nat) = 9999 + 1 from rfl, Op.equalIn]
  simp only [Sem.run_bind, run_underlying Try.underlying69, Result.andThen_ok]
  simp only [Std.Legacy.Range.forIn_eq_forIn_range', Std.Legacy.Range.size, Nat.sub_zero, Nat.add_sub_cancel, Nat.div_one, List.range'_succ, List.range'_zero, List.forIn_cons, List.forIn_nil]
  go_simp
  by_cases h0 : a0 = c0
  rotate_left
  · simp [h0]
  by_cases h1 : a1 = c1
  rotate_left
  · simp [h0, h1]
  by_cases h2 : a2 = c2
  rotate_left
  · simp [h0, h1, h2]
  by_cases h3 : a3 = c3
  rotate_left
  · simp [h0, h1, h2, h3]
  by_cases h4 : a4 = c4
  rotate_left
  · simp [h0, h1, h2, h3, h4]
  by_cases h5 : a5 = c5
  rotate_left
  · simp [h0, h1, h2, h3, h4, h5]
  by_cases h6 : a6 = c6
  rotate_left
  · simp [h0, h1, h2, h3, h4, h5, h6]
  by_cases h7 : a7 = c7
  rotate_left
  · simp [h0, h1, h2, h3, h4, h5, h6, h7]
  simp [h0, h1, h2, h3, h4, h5, h6, h7]
theorem u8_of {a b : UInt8} (h : (a.toNat : Int) = b.toNat) : a = b := UInt8.toNat_inj.1 (by omega)
theorem eq8_ok (b0 b1 b2 b3 b4 b5 b6 b7 c0 c1 c2 c3 c4 c5 c6 c7 : UInt8) (h : beW 8 (bitsW (numW [b0, b1, b2, b3, b4, b5, b6, b7])) = [c0, c1, c2, c3, c4, c5, c6, c7]) :
    ((c0.toNat : Int) == b0.toNat && ((c1.toNat : Int) == b1.toNat && ((c2.toNat : Int) == b2.toNat && ((c3.toNat : Int) == b3.toNat && ((c4.toNat : Int) == b4.toNat && ((c5.toNat : Int) == b5.toNat && ((c6.toNat : Int) == b6.toNat && (c7.toNat : Int) == b7.toNat))))))) = okR (numW [b0, b1, b2, b3, b4, b5, b6, b7]) := by
  cases ho : okR (numW [b0, b1, b2, b3, b4, b5, b6, b7])
  · rw [Bool.eq_false_iff]
    intro hx
    simp only [Bool.and_eq_true, beq_iff_eq] at hx
    obtain ⟨e0, e1, e2, e3, e4, e5, e6, e7⟩ := hx
    rw [← u8_of e0, ← u8_of e1, ← u8_of e2, ← u8_of e3, ← u8_of e4, ← u8_of e5, ← u8_of e6, ← u8_of e7] at h ho
    have h2 := numW_be 8 (bitsW (numW [c0, c1, c2, c3, c4, c5, c6, c7]))
    rw [h] at h2
    unfold okR at ho
    unfold bitsW at h2
    cases hn : nanB (numW [c0, c1, c2, c3, c4, c5, c6, c7])
    · rw [hn] at ho; simp at ho
    · rw [hn] at ho h2
      simp only [if_true, Bool.not_true, Bool.false_or] at h2 ho
      rw [h2] at ho
      exact absurd ho (by decide)
  · rw [okR_bits ho] at h
    have h2 := beW_num [b0, b1, b2, b3, b4, b5, b6, b7]
    have h3 : beW 8 (numW [b0, b1, b2, b3, b4, b5, b6, b7]) = [b0, b1, b2, b3, b4, b5, b6, b7] := h2
    rw [h3] at h
    simp only [List.cons.injEq, and_true] at h
    obtain ⟨rfl, rfl, rfl, rfl, rfl, rfl, rfl, rfl⟩ := h
    simp
set_option maxHeartbeats 1000000 in
theorem realOf_any (b0 b1 b2 b3 b4 b5 b6 b7 : UInt8) (w : World) : Calls Try.prog 27 #[ag8 b0 b1 b2 b3 b4 b5 b6 b7] w fun e w' => e = .returned (.tuple #[.float .f64 (numW [b0, b1, b2, b3, b4, b5, b6, b7]), .bool (okR (numW [b0, b1, b2, b3, b4, b5, b6, b7]))]) ∧ Below w.heap.size w w' := by
  have hlt : numW [b0, b1, b2, b3, b4, b5, b6, b7] < 18446744073709551616 := numW_lt8 rfl
  have hB0 : Below w.heap.size w (w.alloc (.cells (u8s [b0, b1, b2, b3, b4, b5, b6, b7]).toArray 69)) := (Below.refl _ w).alloc (Nat.le_refl _) _
  have hX0 : Bk (w.alloc (.cells (u8s [b0, b1, b2, b3, b4, b5, b6, b7]).toArray 69)) w.heap.size 69 (u8s [b0, b1, b2, b3, b4, b5, b6, b7]) := Bk.new w _ _
  obtain ⟨W0, hW0⟩ : ∃ W0, W0 = w.alloc (.cells (u8s [b0, b1, b2, b3, b4, b5, b6, b7]).toArray 69) := ⟨_, rfl⟩
  rw [← hW0] at hB0 hX0
  have HW0 : Hid (W0 = w.alloc (.cells #[.int .u8 b0.toNat, .int .u8 b1.toNat, .int .u8 b2.toNat, .int .u8 b3.toNat, .int .u8 b4.toNat, .int .u8 b5.toNat, .int .u8 b6.toNat, .int .u8 b7.toNat] 69)) := Lib.hid hW0
  have hnum := number_any (some ⟨w.heap.size, 0, none⟩) 8 8 [b0, b1, b2, b3, b4, b5, b6, b7] W0 (hX0.txt (by simp)) (by omega)
  have HB0 := Lib.hid hB0
  have HX0 := Lib.hid hX0
  have hal : Try.prog.arrayLen 69 = 8 := by simp [Program.arrayLen, Try.underlying69]
  have hsl : ∀ W, (Instr.sliceAt 69 (.pointer (some ⟨w.heap.size, 0, none⟩)) none none none).run Try.prog W = .ok (.slice (some ⟨w.heap.size, 0, none⟩) 8 8) W := fun W => by
    rw [run_sliceAt_array_all W 69 ⟨w.heap.size, 0, none⟩ (by simp [Program.arrayLen, Program.elem, Try.underlying69])]
    rw [hal]
    go_simp
  have hq8 := eq8_ok b0 b1 b2 b3 b4 b5 b6 b7
  generalize hn : numW [b0, b1, b2, b3, b4, b5, b6, b7] = n at *
  have hf := f64from n
  obtain ⟨c0, c1, c2, c3, c4, c5, c6, c7, hbe⟩ := beW8 (bitsW n)
  have hrb := fun W => realBytes_any n hlt W
  rw [hbe] at hrb
  simp only [agB, u8s, List.map_cons, List.map_nil] at hrb
  have hq := eq8 c0.toNat c1.toNat c2.toNat c3.toNat c4.toNat c5.toNat c6.toNat c7.toNat b0.toNat b1.toNat b2.toNat b3.toNat b4.toNat b5.toNat b6.toNat b7.toNat
  rw [hq8 c0 c1 c2 c3 c4 c5 c6 c7 hbe] at hq
  clear hq8
  have HN := Lib.hid hnum
  have HR := Lib.hid hrb
  have HBE := Lib.hid hbe
  clear hW0 hB0 hX0 hnum hal hrb hbe hlt
  have e0 := HX0.out.c 0 rfl
  have e1 := HX0.out.c 1 rfl
  have e2 := HX0.out.c 2 rfl
  have e3 := HX0.out.c 3 rfl
  have e4 := HX0.out.c 4 rfl
  have e5 := HX0.out.c 5 rfl
  have e6 := HX0.out.c 6 rfl
  have e7 := HX0.out.c 7 rfl
  unfold ag8
  go_enter Try.func27, Try.ntmps27
  go_upto_region 1 with (fail)
  rw [← HW0.out]
  go_upto_region 2 with (first | (go_at_call 26; (with_reducible refine HN.out.mono ?_); rintro e w' ⟨rfl, rfl⟩))
  have HKK : Hid (∀ W, Below W0.heap.size W0 W → W.cell? ⟨w.heap.size, 0, none⟩ = some (.int .u8 b0.toNat) ∧ W.cell? ⟨w.heap.size, 1, none⟩ = some (.int .u8 b1.toNat) ∧ W.cell? ⟨w.heap.size, 2, none⟩ = some (.int .u8 b2.toNat) ∧ W.cell? ⟨w.heap.size, 3, none⟩ = some (.int .u8 b3.toNat) ∧ W.cell? ⟨w.heap.size, 4, none⟩ = some (.int .u8 b4.toNat) ∧ W.cell? ⟨w.heap.size, 5, none⟩ = some (.int .u8 b5.toNat) ∧ W.cell? ⟨w.heap.size, 6, none⟩ = some (.int .u8 b6.toNat) ∧ W.cell? ⟨w.heap.size, 7, none⟩ = some (.int .u8 b7.toNat)) := Lib.hid (fun W hW => have h := HX0.out.keep hW HX0.out.lt; ⟨h.c 0 rfl, h.c 1 rfl, h.c 2 rfl, h.c 3 rfl, h.c 4 rfl, h.c 5 rfl, h.c 6 rfl, h.c 7 rfl⟩)
  go_region_held3 (fun W => W.cell? ⟨w.heap.size, 0, none⟩ = some (.int .u8 b0.toNat) ∧ W.cell? ⟨w.heap.size, 1, none⟩ = some (.int .u8 b1.toNat) ∧ W.cell? ⟨w.heap.size, 2, none⟩ = some (.int .u8 b2.toNat) ∧ W.cell? ⟨w.heap.size, 3, none⟩ = some (.int .u8 b3.toNat) ∧ W.cell? ⟨w.heap.size, 4, none⟩ = some (.int .u8 b4.toNat) ∧ W.cell? ⟨w.heap.size, 5, none⟩ = some (.int .u8 b5.toNat) ∧ W.cell? ⟨w.heap.size, 6, none⟩ = some (.int .u8 b6.toNat) ∧ W.cell? ⟨w.heap.size, 7, none⟩ = some (.int .u8 b7.toNat))
    (first | exact HKK.out _ (drew_below W0) | exact HKK.out _ HBR.out)
    (first | (go_at_call 48; (with_reducible refine (HR.out _).mono ?_); rintro e w1 ⟨rfl, hb⟩; have HBR := Lib.hid ((drew_below W0).trans hb); clear hb))
  all_goals
    rename_i hHeld
    clear hHeld
    go_wp2
    go_ret2
    exact ⟨rfl, HB0.out.trans (HBR.out.mono HB0.out.size)⟩
end Go.Proofs.Ytloofajopgbfmaa
