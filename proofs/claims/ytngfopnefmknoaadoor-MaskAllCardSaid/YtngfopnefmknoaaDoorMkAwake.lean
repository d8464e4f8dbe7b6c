/- Masks: awake: a mask of three numbers. -/
import Derived.Test.YtngfopnefmknoaaDoorMkOfs
set_option linter.all false
namespace Go.Proofs.YtngfopnefmknoaaDoor
open Go.RowKit Go.Shelf
set_option maxRecDepth 100000
set_option maxHeartbeats 4000000 in
theorem awake_any (w : World) (hG : GlobM w) : Calls Tryd.prog 30 #[] w fun e w' => e = .returned (.bool true) ∧ Below w.heap.size w w' := by
  have p1 : ofW [63, 3, 0] = 9223372036854775817 := by decide +kernel
  have p2 : ofE [63, 3, 0] = 0 := by decide +kernel
  have p3 : ofE [64] = 2 := by decide +kernel
  have p4 : ofW [64] = 0 := by decide +kernel
  have p5 : nextF (9223372036854775817 : Nat).testBit 3 = some 63 := by decide +kernel
  have p6 : natI (numsF (9223372036854775817 : Nat).testBit 64) = [0, 3, 63] := by decide +kernel
  have p7 : lessM (belowM 5) 9223372036854775817 = 22 := by decide +kernel
  have hw : Wd 9223372036854775817 := by decide
  obtain ⟨w1, hw1⟩ : ∃ w1, w1 = w.alloc (.cells #[.int .i64 63, .int .i64 3, .int .i64 0] 3) := ⟨_, rfl⟩
  have h1 : Below w.heap.size w w1 := by rw [hw1]; exact (Below.refl _ w).alloc (Nat.le_refl _) _
  have s1 : Sl w1 (some ⟨w.heap.size, 0, none⟩) [63, 3, 0] := by rw [hw1]; exact Sl.new w [63, 3, 0] (by intro x hx; simp at hx; unfold In; omega) (by simp)
  obtain ⟨w2, hw2⟩ : ∃ w2, w2 = w1.alloc (.cells #[.int .i64 64] 3) := ⟨_, rfl⟩
  have h2 : Below w1.heap.size w1 w2 := by rw [hw2]; exact (Below.refl _ w1).alloc (Nat.le_refl _) _
  have s2 : Sl w2 (some ⟨w1.heap.size, 0, none⟩) [64] := by rw [hw2]; exact Sl.new w1 [64] (by intro x hx; simp at hx; unfold In; omega) (by simp)
  have H1 := Lib.hid (of_any s1 3)
  have H2 := Lib.hid (of_any s2 1)
  rw [p1, p2] at H1
  rw [p3, p4] at H2
  have hb2 := h1.trans (h2.mono h1.size)
  have hG2 := globM_below hG hb2 (Nat.le_refl _)
  have H3 := Lib.hid (next_any hw 3 (by unfold In; omega) w2 hG2)
  rw [p5] at H3
  have H4 := Lib.hid (numbers_any hw w2 hG2)
  unfold NumP at H4
  rw [p6] at H4
  have H5 := Lib.hid (fun W => not_any hw 5 (by unfold In; omega) W)
  rw [p7] at H5
  have HB2 := Lib.hid hb2
  have E1 := Lib.hid hw1.symm
  have E2 := Lib.hid hw2.symm
  clear h1 s1 h2 s2 hb2 hG2 p1 p2 p3 p4 p5 p6 p7 hw1 hw2 hw hG
  go_enter Tryd.func30, Tryd.ntmps30
  go_wp2_with fail
  rw [E1.out]
  refine H1.out.mono ?_
  rintro e w' ⟨rfl, rfl⟩
  go_wp2_with fail
  rw [E2.out]
  refine H2.out.mono ?_
  rintro e w' ⟨rfl, rfl⟩
  go_wp2_with fail
  refine H3.out.mono ?_
  rintro e w' ⟨rfl, rfl⟩
  simp only [Option.getD_some, Option.isSome_some]
  go_wp2_with fail
  refine H4.out.mono ?_
  rintro e w3 ⟨v, F, rfl, hir, hb3⟩
  obtain ⟨a, c, rfl⟩ := hir.slice
  obtain ⟨w4, hw4⟩ : ∃ w4, w4 = w3.alloc (.cells #[.int .i64 0, .int .i64 3, .int .i64 63] 3) := ⟨_, rfl⟩
  have h4 : Below w3.heap.size w3 w4 := by rw [hw4]; exact (Below.refl _ w3).alloc (Nat.le_refl _) _
  have s4 : Sl w4 (some ⟨w3.heap.size, 0, none⟩) [0, 3, 63] := by rw [hw4]; exact Sl.new w3 [0, 3, 63] (by intro x hx; simp at hx; unfold In; omega) (by simp)
  have s3 : Sl w4 a [0, 3, 63] := ir_in (hir.below h4) (by intro x hx; simp at hx; unfold In; omega) (by simp)
  have H6 := Lib.hid (ints_any s3 s4 c 3)
  have HB4 := Lib.hid ((HB2.out.trans (hb3.mono HB2.out.size)).trans (h4.mono (Nat.le_trans HB2.out.size hb3.size)))
  have E4 := Lib.hid hw4.symm
  clear hir hb3 h4 s4 s3 hw4
  go_wp2_with fail
  rw [E4.out]
  refine H6.out.mono ?_
  rintro e w' ⟨rfl, q, rfl⟩
  have HB5 := Lib.hid (below_drewN HB4.out q)
  simp only [decide_true]
  go_wp2_with fail
  refine (H5.out _).mono ?_
  rintro e w' ⟨rfl, rfl⟩
  go_wp2_with fail
  go_ret
  exact ⟨rfl, HB5.out⟩
end Go.Proofs.YtngfopnefmknoaaDoor
