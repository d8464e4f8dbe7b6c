/- Wire: complex numbers out of bytes: compOf. -/
import Derived.Test.YtloofajopgbfmaaWjReal
namespace Go.Proofs.Ytloofajopgbfmaa
set_option linter.all false
open Go.RowKit
set_option maxRecDepth 100000
theorem run_array8 (a : Option Addr) (n cap : Nat) (h : 8 ≤ n) (W : World) : (Instr.arrayAt 69 (.slice a n cap)).run Try.prog W = .ok (.pointer a) W := by
  unfold Instr.arrayAt
  simp only [Sem.run_bind, run_underlying Try.underlying69, Result.andThen_ok]
  rw [if_neg (by omega)]
  rfl
theorem run_array16 (a : Option Addr) (n cap : Nat) (h : 16 ≤ n) (W : World) : (Instr.arrayAt 72 (.slice a n cap)).run Try.prog W = .ok (.pointer a) W := by
  unfold Instr.arrayAt
  simp only [Sem.run_bind, run_underlying Try.underlying72, Result.andThen_ok]
  rw [if_neg (by omega)]
  rfl
/-- sixteen bytes as an array -/
def ag16 (b0 b1 b2 b3 b4 b5 b6 b7 c0 c1 c2 c3 c4 c5 c6 c7 : UInt8) : Value := .agg #[.int .u8 b0.toNat, .int .u8 b1.toNat, .int .u8 b2.toNat, .int .u8 b3.toNat, .int .u8 b4.toNat, .int .u8 b5.toNat, .int .u8 b6.toNat, .int .u8 b7.toNat, .int .u8 c0.toNat, .int .u8 c1.toNat, .int .u8 c2.toNat, .int .u8 c3.toNat, .int .u8 c4.toNat, .int .u8 c5.toNat, .int .u8 c6.toNat, .int .u8 c7.toNat]
set_option maxHeartbeats 2000000 in
theorem compOf_any (b0 b1 b2 b3 b4 b5 b6 b7 c0 c1 c2 c3 c4 c5 c6 c7 : UInt8) (w : World) : Calls Try.prog 28 #[ag16 b0 b1 b2 b3 b4 b5 b6 b7 c0 c1 c2 c3 c4 c5 c6 c7] w fun e w' => e = .returned (.tuple #[.complex .f64 (numW [b0, b1, b2, b3, b4, b5, b6, b7]) (numW [c0, c1, c2, c3, c4, c5, c6, c7]), .bool (okR (numW [b0, b1, b2, b3, b4, b5, b6, b7]) && okR (numW [c0, c1, c2, c3, c4, c5, c6, c7]))]) ∧ Below w.heap.size w w' := by
  obtain ⟨W0, hW0⟩ : ∃ W0, W0 = w.alloc (.cells (u8s [b0, b1, b2, b3, b4, b5, b6, b7, c0, c1, c2, c3, c4, c5, c6, c7]).toArray 72) := ⟨_, rfl⟩
  have hB0 : Below w.heap.size w W0 := by rw [hW0]; exact (Below.refl _ w).alloc (Nat.le_refl _) _
  have hX0 : Bk W0 w.heap.size 72 (u8s [b0, b1, b2, b3, b4, b5, b6, b7, c0, c1, c2, c3, c4, c5, c6, c7]) := by rw [hW0]; exact Bk.new w _ _
  have HW0 : Hid (W0 = w.alloc (.cells #[.int .u8 b0.toNat, .int .u8 b1.toNat, .int .u8 b2.toNat, .int .u8 b3.toNat, .int .u8 b4.toNat, .int .u8 b5.toNat, .int .u8 b6.toNat, .int .u8 b7.toNat, .int .u8 c0.toNat, .int .u8 c1.toNat, .int .u8 c2.toNat, .int .u8 c3.toNat, .int .u8 c4.toNat, .int .u8 c5.toNat, .int .u8 c6.toNat, .int .u8 c7.toNat] 72)) := Lib.hid hW0
  have HB0 := Lib.hid hB0
  have HX0 := Lib.hid hX0
  have hal : Try.prog.arrayLen 72 = 16 := by simp [Program.arrayLen, Try.underlying72]
  have hs1 : ∀ W, (Instr.sliceAt 72 (.pointer (some ⟨w.heap.size, 0, none⟩)) none (some (.int .i64 8)) none).run Try.prog W = .ok (.slice (some ⟨w.heap.size, 0, none⟩) 8 16) W := fun W => by
    rw [run_sliceAt_array_h W 72 ⟨w.heap.size, 0, none⟩ (by simp [Program.arrayLen, Program.elem, Try.underlying72]) .i64 8 (by omega) (by rw [hal]; omega)]
    rw [hal]
    go_simp
  have hs2 : ∀ W, (Instr.sliceAt 72 (.pointer (some ⟨w.heap.size, 0, none⟩)) (some (.int .i64 8)) none none).run Try.prog W = .ok (.slice (some ⟨w.heap.size, 8, none⟩) 8 8) W := fun W => by
    rw [run_sliceAt_array_l W 72 ⟨w.heap.size, 0, none⟩ (by simp [Program.arrayLen, Program.elem, Try.underlying72]) .i64 8 (by omega) (by rw [hal]; omega)]
    rw [hal]
    go_simp
  have ha1 := run_array8 (some ⟨w.heap.size, 0, none⟩) 8 16 (by omega)
  have ha2 := run_array8 (some ⟨w.heap.size, 8, none⟩) 8 8 (by omega)
  have hr1 := fun W => realOf_any b0 b1 b2 b3 b4 b5 b6 b7 W
  have hr2 := fun W => realOf_any c0 c1 c2 c3 c4 c5 c6 c7 W
  unfold ag8 at hr1 hr2
  have HR1 := Lib.hid hr1
  have HR2 := Lib.hid hr2
  clear hW0 hB0 hX0 hr1 hr2 hal
  have e0 := HX0.out.c 0 rfl
  have e1 := HX0.out.c 1 rfl
  have e2 := HX0.out.c 2 rfl
  have e3 := HX0.out.c 3 rfl
  have e4 := HX0.out.c 4 rfl
  have e5 := HX0.out.c 5 rfl
  have e6 := HX0.out.c 6 rfl
  have e7 := HX0.out.c 7 rfl
  unfold ag16
  go_enter Try.func28, Try.ntmps28
  go_upto_region 1 with (fail)
  rw [← HW0.out]
  go_upto_region 2 with (first | (go_at_call 27; (with_reducible refine (HR1.out _).mono ?_); rintro e w1 ⟨rfl, hb⟩; have HB1 := Lib.hid hb; clear hb))
  clear e0 e1 e2 e3 e4 e5 e6 e7
  have hx1 := HX0.out.keep HB1.out HX0.out.lt
  have e8 := hx1.c 8 rfl
  have e9 := hx1.c 9 rfl
  have e10 := hx1.c 10 rfl
  have e11 := hx1.c 11 rfl
  have e12 := hx1.c 12 rfl
  have e13 := hx1.c 13 rfl
  have e14 := hx1.c 14 rfl
  have e15 := hx1.c 15 rfl
  clear hx1
  cases ho1 : okR (numW [b0, b1, b2, b3, b4, b5, b6, b7]) <;> cases ho2 : okR (numW [c0, c1, c2, c3, c4, c5, c6, c7])
  all_goals
    go_wp2_with (first | (go_at_call 27; (with_reducible refine (HR2.out _).mono ?_); rintro e w2 ⟨rfl, hb⟩; have HB2 := Lib.hid (HB0.out.trans ((HB1.out.trans (hb.mono HB1.out.size)).mono HB0.out.size)); clear hb))
    go_ret2
    exact ⟨by rw [ho1, ho2]; rfl, HB2.out⟩
end Go.Proofs.Ytloofajopgbfmaa
