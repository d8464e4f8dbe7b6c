/- Two values that are the same, by the reference. -/
import Derived.Test.YtofjbakepneilaaGreatDoorRPrint
import Derived.Test.YtofjbakepneilaaGreatDoorMVRead2
import Derived.Deep.RegionHeld3
import Derived.Deep.RegionWith
import Derived.Test.YtofjbakepneilaaGreatDoorMRAll
namespace Go.Proofs.YtofjbakepneilaaGreatDoor
open Go.RowKit Go.Shelf
set_option maxRecDepth 100000

/-- the same real -/
def SameR (a b : Nat) : Prop := (nanB a = true ∧ nanB b = true) ∨ (a = b ∧ nanB a = false ∧ a < 18446744073709551616)
set_option maxHeartbeats 1000000 in
theorem reals_same (a b : Nat) (h : SameR a b) (w : World) : Calls Tryz.prog 81 #[.float .f64 a, .float .f64 b] w fun e w' => e = .returned (.int .i64 0) ∧ w = w' := by
  rcases h with ⟨h1, h2⟩ | ⟨rfl, h1, h2⟩
  · have q1 : (FloatKind.f64.format.order a a == some Ordering.eq) = false := by have := eqB_self a; rw [h1] at this; exact this
    have q2 : (FloatKind.f64.format.order b b == some Ordering.eq) = false := by have := eqB_self b; rw [h2] at this; exact this
    have q3 : (FloatKind.f64.format.order a a != some Ordering.eq) = true := by rw [bne, q1]; rfl
    have q4 : (FloatKind.f64.format.order b b != some Ordering.eq) = true := by rw [bne, q2]; rfl
    clear h1 h2
    go_enter Tryz.func81, Tryz.ntmps81
    go_wp2
    go_ret
    exact ⟨rfl, rfl⟩
  · have q1 : (FloatKind.f64.format.order a a == some Ordering.eq) = true := by have := eqB_self a; rw [h1] at this; exact this
    have q3 : (FloatKind.f64.format.order a a != some Ordering.eq) = false := by rw [bne, q1]; rfl
    have ho : FloatKind.f64.format.order a a = some Ordering.eq := eq_of_beq q1
    have q5 : (FloatKind.f64.format.order a a == some Ordering.lt) = false := by rw [ho]; rfl
    have q6 : (FloatKind.f64.format.order a a == some Ordering.gt) = false := by rw [ho]; rfl
    have hr : a % 9223372036854775808 ≤ 9218868437227405312 := by
      have h := h1
      unfold nanB rungB at h
      have := of_decide_eq_false h
      omega
    have hb : ∃ x, ∀ W, Calls Tryz.prog 79 #[.float .f64 a] W fun e w' => e = .returned (.bool x) ∧ W = w' := by
      by_cases h2' : 9223372036854775808 ≤ a
      · obtain ⟨c, rfl⟩ : ∃ c, a = 9223372036854775808 + c := ⟨a - 9223372036854775808, by omega⟩
        exact ⟨true, fun W => below_neg c (by omega) W⟩
      · exact ⟨false, fun W => below_pos a (by omega) W⟩
    obtain ⟨x, hx⟩ := hb
    have HX := Lib.hid hx
    clear h1 h2 hr hx ho
    cases x
    · go_enter Tryz.func81, Tryz.ntmps81
      go_wp2_with (go_at_call 79; refine (HX.out _).mono ?_; rintro e w' ⟨rfl, rfl⟩)
      go_ret
      exact ⟨rfl, rfl⟩
    · go_enter Tryz.func81, Tryz.ntmps81
      go_wp2_with (go_at_call 79; refine (HX.out _).mono ?_; rintro e w' ⟨rfl, rfl⟩)
      go_ret
      exact ⟨rfl, rfl⟩
set_option maxHeartbeats 8000000 in
theorem compare_real (r1 r2 : Nat) (h : SameR r1 r2) (w : World) : Calls Tryz.prog 49 #[valV 2 0 r1 0 0 ⟨#[]⟩, valV 2 0 r2 0 0 ⟨#[]⟩] w fun e w' => e = .returned (.int .i64 0) ∧ Below w.heap.size w w' := by
  unfold valV
  obtain ⟨W0, hW0⟩ : ∃ W0, W0 = (w.alloc (.cells #[.int .i64 2, .int .i64 0, .float .f64 r1, .complex .f64 0 0, .string ⟨#[]⟩] 25)).alloc (.cells #[.int .i64 2, .int .i64 0, .float .f64 r2, .complex .f64 0 0, .string ⟨#[]⟩] 25) := ⟨_, rfl⟩
  have hB0 : Below w.heap.size w W0 := by rw [hW0]; exact ((Below.refl w.heap.size w).alloc (Nat.le_refl _) _).alloc (by simp) _
  have hb0 : Box5 W0 w.heap.size (.int .i64 2) (.int .i64 0) (.float .f64 r1) (.complex .f64 0 0) (.string ⟨#[]⟩) := by rw [hW0]; exact heap_alloc2_old _ _ _
  have hb1 : Box5 W0 (w.heap.size + 1) (.int .i64 2) (.int .i64 0) (.float .f64 r2) (.complex .f64 0 0) (.string ⟨#[]⟩) := by rw [hW0]; exact heap_alloc2_new _ _ _
  have HW0 := Lib.hid hW0
  have HB0 := Lib.hid hB0
  have HX0 := Lib.hid hb0
  have HY0 := Lib.hid hb1
  clear hW0 hB0 hb0 hb1
  have hm1 := fun W => rmay_any 2 0 r1 0 0 ⟨#[]⟩ W
  have hm2 := fun W => rmay_any 2 0 r2 0 0 ⟨#[]⟩ W
  have hmb : mayB 2 0 ⟨#[]⟩ = true := rfl
  rw [hmb] at hm1 hm2
  unfold valV at hm1 hm2
  have HM1 := Lib.hid hm1
  have HM2 := Lib.hid hm2
  have HR := Lib.hid (fun W => reals_same r1 r2 h W)
  clear hm1 hm2 hmb
  have pc0 := HX0.out.c0
  have pc1 := HX0.out.c1
  have pc2 := HX0.out.c2
  have pc3 := HX0.out.c3
  have pc4 := HX0.out.c4
  have plt := HX0.out.lt
  have qc0 := HY0.out.c0
  have qc1 := HY0.out.c1
  have qc2 := HY0.out.c2
  have qc3 := HY0.out.c3
  have qc4 := HY0.out.c4
  have qlt := HY0.out.lt
  go_enter Tryz.func49, Tryz.ntmps49
  go_upto_region 1 with (fail)
  rw [← HW0.out]
  go_region_held3 (fun W => W.cell? ⟨w.heap.size, 0, none⟩ = some (.int .i64 2) ∧ W.cell? ⟨w.heap.size, 1, none⟩ = some (.int .i64 0) ∧ W.cell? ⟨w.heap.size, 2, none⟩ = some (.float .f64 r1) ∧ W.cell? ⟨w.heap.size, 3, none⟩ = some (.complex .f64 0 0) ∧ W.cell? ⟨w.heap.size, 4, none⟩ = some (.string ⟨#[]⟩) ∧ W.cell? ⟨w.heap.size + 1, 0, none⟩ = some (.int .i64 2) ∧ W.cell? ⟨w.heap.size + 1, 1, none⟩ = some (.int .i64 0) ∧ W.cell? ⟨w.heap.size + 1, 2, none⟩ = some (.float .f64 r2) ∧ W.cell? ⟨w.heap.size + 1, 3, none⟩ = some (.complex .f64 0 0) ∧ W.cell? ⟨w.heap.size + 1, 4, none⟩ = some (.string ⟨#[]⟩))
    (first | (refine ⟨?_, ?_, ?_, ?_, ?_, ?_, ?_, ?_, ?_, ?_⟩ <;> assumption) | go_keep)
    (first
      | (go_at_call 22; with_reducible refine (HM1.out _).mono ?_; rintro e w1 ⟨rfl, hb1⟩; have hb1 : Below W0.heap.size W0 w1 := (by first | exact hb1 | exact ((Below.refl W0.heap.size W0).drew).trans (hb1.mono (Below.refl W0.heap.size W0).drew.size)); have HB1 := Lib.hid (HB0.out.trans (hb1.mono HB0.out.size)); have HX1 := Lib.hid (HX0.out.keep hb1 plt); have HY1 := Lib.hid (HY0.out.keep hb1 qlt); clear hb1; have rc0 := HX1.out.c0; have rc1 := HX1.out.c1; have rc2 := HX1.out.c2; have rc3 := HX1.out.c3; have rc4 := HX1.out.c4; have rlt := HX1.out.lt; have sc0 := HY1.out.c0; have sc1 := HY1.out.c1; have sc2 := HY1.out.c2; have sc3 := HY1.out.c3; have sc4 := HY1.out.c4; have slt := HY1.out.lt)
      | (go_at_call 22; with_reducible refine (HM2.out _).mono ?_; rintro e w2 ⟨rfl, hb2⟩; have HB2 := Lib.hid (HB1.out.trans (hb2.mono HB1.out.size)); have HX2 := Lib.hid (HX1.out.keep hb2 rlt); have HY2 := Lib.hid (HY1.out.keep hb2 slt); clear hb2; have tc0 := HX2.out.c0; have tc1 := HX2.out.c1; have tc2 := HX2.out.c2; have tc3 := HX2.out.c3; have tc4 := HX2.out.c4; have tlt := HX2.out.lt; have uc0 := HY2.out.c0; have uc1 := HY2.out.c1; have uc2 := HY2.out.c2; have uc3 := HY2.out.c3; have uc4 := HY2.out.c4; have ult := HY2.out.lt))
  all_goals
    go_wp2_with (go_at_call 81; with_reducible refine (HR.out _).mono ?_; rintro e w' ⟨rfl, rfl⟩)
    go_ret
    exact ⟨rfl, HB2.out⟩
set_option maxHeartbeats 8000000 in
theorem compare_comp (im1 im2 re1 re2 : Nat) (h1 : SameR re1 re2) (h2 : SameR im1 im2) (w : World) : Calls Tryz.prog 49 #[valV 3 0 0 re1 im1 ⟨#[]⟩, valV 3 0 0 re2 im2 ⟨#[]⟩] w fun e w' => e = .returned (.int .i64 0) ∧ Below w.heap.size w w' := by
  unfold valV
  obtain ⟨W0, hW0⟩ : ∃ W0, W0 = (w.alloc (.cells #[.int .i64 3, .int .i64 0, .float .f64 0, .complex .f64 re1 im1, .string ⟨#[]⟩] 25)).alloc (.cells #[.int .i64 3, .int .i64 0, .float .f64 0, .complex .f64 re2 im2, .string ⟨#[]⟩] 25) := ⟨_, rfl⟩
  have hB0 : Below w.heap.size w W0 := by rw [hW0]; exact ((Below.refl w.heap.size w).alloc (Nat.le_refl _) _).alloc (by simp) _
  have hb0 : Box5 W0 w.heap.size (.int .i64 3) (.int .i64 0) (.float .f64 0) (.complex .f64 re1 im1) (.string ⟨#[]⟩) := by rw [hW0]; exact heap_alloc2_old _ _ _
  have hb1 : Box5 W0 (w.heap.size + 1) (.int .i64 3) (.int .i64 0) (.float .f64 0) (.complex .f64 re2 im2) (.string ⟨#[]⟩) := by rw [hW0]; exact heap_alloc2_new _ _ _
  have HW0 := Lib.hid hW0
  have HB0 := Lib.hid hB0
  have HX0 := Lib.hid hb0
  have HY0 := Lib.hid hb1
  clear hW0 hB0 hb0 hb1
  have hm1 := fun W => rmay_any 3 0 0 re1 im1 ⟨#[]⟩ W
  have hm2 := fun W => rmay_any 3 0 0 re2 im2 ⟨#[]⟩ W
  have hmb : mayB 3 0 ⟨#[]⟩ = true := rfl
  rw [hmb] at hm1 hm2
  unfold valV at hm1 hm2
  have HM1 := Lib.hid hm1
  have HM2 := Lib.hid hm2
  have HR := Lib.hid (fun W => reals_same re1 re2 h1 W)
  have HI := Lib.hid (fun W => reals_same im1 im2 h2 W)
  clear hm1 hm2 hmb
  have pc0 := HX0.out.c0
  have pc1 := HX0.out.c1
  have pc2 := HX0.out.c2
  have pc3 := HX0.out.c3
  have pc4 := HX0.out.c4
  have plt := HX0.out.lt
  have qc0 := HY0.out.c0
  have qc1 := HY0.out.c1
  have qc2 := HY0.out.c2
  have qc3 := HY0.out.c3
  have qc4 := HY0.out.c4
  have qlt := HY0.out.lt
  go_enter Tryz.func49, Tryz.ntmps49
  go_upto_region 1 with (fail)
  rw [← HW0.out]
  go_region_held3 (fun W => W.cell? ⟨w.heap.size, 0, none⟩ = some (.int .i64 3) ∧ W.cell? ⟨w.heap.size, 1, none⟩ = some (.int .i64 0) ∧ W.cell? ⟨w.heap.size, 2, none⟩ = some (.float .f64 0) ∧ W.cell? ⟨w.heap.size, 3, none⟩ = some (.complex .f64 re1 im1) ∧ W.cell? ⟨w.heap.size, 4, none⟩ = some (.string ⟨#[]⟩) ∧ W.cell? ⟨w.heap.size + 1, 0, none⟩ = some (.int .i64 3) ∧ W.cell? ⟨w.heap.size + 1, 1, none⟩ = some (.int .i64 0) ∧ W.cell? ⟨w.heap.size + 1, 2, none⟩ = some (.float .f64 0) ∧ W.cell? ⟨w.heap.size + 1, 3, none⟩ = some (.complex .f64 re2 im2) ∧ W.cell? ⟨w.heap.size + 1, 4, none⟩ = some (.string ⟨#[]⟩))
    (first | (refine ⟨?_, ?_, ?_, ?_, ?_, ?_, ?_, ?_, ?_, ?_⟩ <;> assumption) | go_keep)
    (first
      | (go_at_call 22; with_reducible refine (HM1.out _).mono ?_; rintro e w1 ⟨rfl, hb1⟩; have hb1 : Below W0.heap.size W0 w1 := (by first | exact hb1 | exact ((Below.refl W0.heap.size W0).drew).trans (hb1.mono (Below.refl W0.heap.size W0).drew.size)); have HB1 := Lib.hid (HB0.out.trans (hb1.mono HB0.out.size)); have HX1 := Lib.hid (HX0.out.keep hb1 plt); have HY1 := Lib.hid (HY0.out.keep hb1 qlt); clear hb1; have rc0 := HX1.out.c0; have rc1 := HX1.out.c1; have rc2 := HX1.out.c2; have rc3 := HX1.out.c3; have rc4 := HX1.out.c4; have rlt := HX1.out.lt; have sc0 := HY1.out.c0; have sc1 := HY1.out.c1; have sc2 := HY1.out.c2; have sc3 := HY1.out.c3; have sc4 := HY1.out.c4; have slt := HY1.out.lt)
      | (go_at_call 22; with_reducible refine (HM2.out _).mono ?_; rintro e w2 ⟨rfl, hb2⟩; have HB2 := Lib.hid (HB1.out.trans (hb2.mono HB1.out.size)); have HX2 := Lib.hid (HX1.out.keep hb2 rlt); have HY2 := Lib.hid (HY1.out.keep hb2 slt); clear hb2; have tc0 := HX2.out.c0; have tc1 := HX2.out.c1; have tc2 := HX2.out.c2; have tc3 := HX2.out.c3; have tc4 := HX2.out.c4; have tlt := HX2.out.lt; have uc0 := HY2.out.c0; have uc1 := HY2.out.c1; have uc2 := HY2.out.c2; have uc3 := HY2.out.c3; have uc4 := HY2.out.c4; have ult := HY2.out.lt))
  all_goals
    go_wp2_with (first | (go_at_call 81; with_reducible refine (HR.out _).mono ?_; rintro e w' ⟨rfl, rfl⟩) | (go_at_call 81; with_reducible refine (HI.out _).mono ?_; rintro e w' ⟨rfl, rfl⟩))
    go_ret
    exact ⟨rfl, HB2.out⟩
set_option maxHeartbeats 1000000 in
theorem same_real (r1 r2 : Nat) (h : SameR r1 r2) (w : World) : Calls Tryz.prog 24 #[valV 2 0 r1 0 0 ⟨#[]⟩, valV 2 0 r2 0 0 ⟨#[]⟩] w fun e w' => e = .returned (.bool true) ∧ Below w.heap.size w w' := by
  have hc := fun W => compare_real r1 r2 h W
  unfold valV at hc ⊢
  have HC := Lib.hid hc
  have HB : Hid (Below w.heap.size w ((w.alloc (.cells #[.int .i64 2, .int .i64 0, .float .f64 r1, .complex .f64 0 0, .string ⟨#[]⟩] 25)).alloc (.cells #[.int .i64 2, .int .i64 0, .float .f64 r2, .complex .f64 0 0, .string ⟨#[]⟩] 25))) := Lib.hid (((Below.refl w.heap.size w).alloc (Nat.le_refl _) _).alloc (by simp) _)
  clear hc
  go_enter Tryz.func24, Tryz.ntmps24
  go_wp2_with (go_at_call 49; with_reducible refine (HC.out _).mono ?_; rintro e w1 ⟨rfl, hb1⟩; have HB1 := Lib.hid (HB.out.trans (hb1.mono HB.out.size)); clear hb1)
  go_ret
  exact ⟨rfl, HB1.out⟩
set_option maxHeartbeats 1000000 in
theorem same_comp (im1 im2 re1 re2 : Nat) (h1 : SameR re1 re2) (h2 : SameR im1 im2) (w : World) : Calls Tryz.prog 24 #[valV 3 0 0 re1 im1 ⟨#[]⟩, valV 3 0 0 re2 im2 ⟨#[]⟩] w fun e w' => e = .returned (.bool true) ∧ Below w.heap.size w w' := by
  have hc := fun W => compare_comp im1 im2 re1 re2 h1 h2 W
  unfold valV at hc ⊢
  have HC := Lib.hid hc
  have HB : Hid (Below w.heap.size w ((w.alloc (.cells #[.int .i64 3, .int .i64 0, .float .f64 0, .complex .f64 re1 im1, .string ⟨#[]⟩] 25)).alloc (.cells #[.int .i64 3, .int .i64 0, .float .f64 0, .complex .f64 re2 im2, .string ⟨#[]⟩] 25))) := Lib.hid (((Below.refl w.heap.size w).alloc (Nat.le_refl _) _).alloc (by simp) _)
  clear hc
  go_enter Tryz.func24, Tryz.ntmps24
  go_wp2_with (go_at_call 49; with_reducible refine (HC.out _).mono ?_; rintro e w1 ⟨rfl, hb1⟩; have HB1 := Lib.hid (HB.out.trans (hb1.mono HB.out.size)); clear hb1)
  go_ret
  exact ⟨rfl, HB1.out⟩
end Go.Proofs.YtofjbakepneilaaGreatDoor
/- Two values that are like are the same in all fields. -/
namespace Go.Proofs.YtofjbakepneilaaGreatDoor
open Go.RowKit Go.Shelf
set_option maxRecDepth 100000

set_option maxHeartbeats 8000000 in
theorem fields_any (kd iv : Int) (rl1 rl2 re1 re2 im1 im2 : Nat) (tx : ByteArray) (h1 : SameR rl1 rl2) (h2 : SameR re1 re2) (h3 : SameR im1 im2) (w : World) :
    Calls Tryz.prog 10 #[valV kd iv rl1 re1 im1 tx, valV kd iv rl2 re2 im2 tx] w fun e w' => e = .returned (.bool true) ∧ Below w.heap.size w w' := by
  have sf : ∀ (p : Addr) (b : Nat) (mo : Mode) (w' : World), (store p (.float .f64 b) mo).run Tryz.prog w' = stored Tryz.prog w' p (.float .f64 b) mo := fun p b mo w' => run_store _ w' p _ mo rfl
  have sc : ∀ (p : Addr) (b c : Nat) (mo : Mode) (w' : World), (store p (.complex .f64 b c) mo).run Tryz.prog w' = stored Tryz.prog w' p (.complex .f64 b c) mo := fun p b c mo w' => run_store _ w' p _ mo rfl
  have hs1 := fun W => same_real rl1 rl2 h1 W
  have hs2 := fun W => same_comp im1 im2 re1 re2 h2 h3 W
  unfold valV at hs1 hs2 ⊢
  have HS1 := Lib.hid hs1
  have HS2 := Lib.hid hs2
  clear hs1 hs2 h1 h2 h3
  obtain ⟨W0, hW0⟩ : ∃ W0, W0 = (w.alloc (.cells #[.int .i64 kd, .int .i64 iv, .float .f64 rl1, .complex .f64 re1 im1, .string tx] 25)).alloc (.cells #[.int .i64 kd, .int .i64 iv, .float .f64 rl2, .complex .f64 re2 im2, .string tx] 25) := ⟨_, rfl⟩
  have hB0 : Below w.heap.size w W0 := by rw [hW0]; exact ((Below.refl w.heap.size w).alloc (Nat.le_refl _) _).alloc (by simp) _
  have hb0 : Box5 W0 w.heap.size (.int .i64 kd) (.int .i64 iv) (.float .f64 rl1) (.complex .f64 re1 im1) (.string tx) := by rw [hW0]; exact heap_alloc2_old _ _ _
  have hb1 : Box5 W0 (w.heap.size + 1) (.int .i64 kd) (.int .i64 iv) (.float .f64 rl2) (.complex .f64 re2 im2) (.string tx) := by rw [hW0]; exact heap_alloc2_new _ _ _
  have hz0 : W0.heap.size = w.heap.size + 2 := by rw [hW0]; simp
  have HW0 := Lib.hid hW0
  have HB0 := Lib.hid hB0
  have HX0 := Lib.hid hb0
  have HY0 := Lib.hid hb1
  have HZ0 := Lib.hid hz0
  clear hW0 hB0 hb0 hb1 hz0
  have pc2 := HX0.out.c2
  have pc3 := HX0.out.c3
  have plt := HX0.out.lt
  have qc2 := HY0.out.c2
  have qc3 := HY0.out.c3
  have qlt := HY0.out.lt
  go_enter Tryz.func10, Tryz.ntmps10
  go_upto_region 1 with (fail)
  rw [← HW0.out]
  go_region_held3 (fun W => W.cell? ⟨w.heap.size, 2, none⟩ = some (.float .f64 rl1) ∧ W.cell? ⟨w.heap.size + 1, 2, none⟩ = some (.float .f64 rl2))
    (first | (refine ⟨?_, ?_⟩ <;> assumption) | go_keep)
    (fail)
  · skip
    obtain ⟨W1, hW1⟩ : ∃ W1, W1 = ((W0.alloc (.cells #[.int .i64 2, .int .i64 0, .float .f64 rl1, .complex .f64 0 0, .string ⟨#[]⟩] 25)).alloc (.cells #[.int .i64 2, .int .i64 0, .float .f64 rl2, .complex .f64 0 0, .string ⟨#[]⟩] 25)).drew := ⟨_, rfl⟩
    have hbb : Below W0.heap.size W0 W1 := by rw [hW1]; exact (((Below.refl _ _).alloc (Nat.le_refl _) _).alloc (by simp) _).drew
    have hn1 : Box5 W1 W0.heap.size (.int .i64 2) (.int .i64 0) (.float .f64 rl1) (.complex .f64 0 0) (.string ⟨#[]⟩) := by rw [hW1]; exact heap_alloc2_old _ _ _
    have hn2 : Box5 W1 (W0.heap.size + 1) (.int .i64 2) (.int .i64 0) (.float .f64 rl2) (.complex .f64 0 0) (.string ⟨#[]⟩) := by rw [hW1]; exact heap_alloc2_new _ _ _
    rw [← hW1]
    clear hW1
    have Hx1 := Lib.hid hn1
    have Hy1 := Lib.hid hn2
    have HX1 := Lib.hid (HX0.out.keep hbb plt)
    have HY1 := Lib.hid (HY0.out.keep hbb qlt)
    have HB1 := Lib.hid (HB0.out.trans (hbb.mono HB0.out.size))
    clear hbb hn1 hn2 pc2 pc3 qc2 qc3
    have rc3 := HX1.out.c3
    have sc3 := HY1.out.c3
    have rlt := HX1.out.lt
    have slt := HY1.out.lt
    have xlt := Hx1.out.lt
    have ylt := Hy1.out.lt
    go_upto_region 2 with (fail)
    go_region_held3 (fun W => W.cell? ⟨w.heap.size, 3, none⟩ = some (.complex .f64 re1 im1) ∧ W.cell? ⟨w.heap.size + 1, 3, none⟩ = some (.complex .f64 re2 im2))
      (first | (refine ⟨?_, ?_⟩ <;> assumption) | go_keep)
      (fail)
    · skip
      obtain ⟨W2, hW2⟩ : ∃ W2, W2 = ((W1.alloc (.cells #[.int .i64 3, .int .i64 0, .float .f64 0, .complex .f64 re1 im1, .string ⟨#[]⟩] 25)).alloc (.cells #[.int .i64 3, .int .i64 0, .float .f64 0, .complex .f64 re2 im2, .string ⟨#[]⟩] 25)).drew := ⟨_, rfl⟩
      have hbb : Below W1.heap.size W1 W2 := by rw [hW2]; exact (((Below.refl _ _).alloc (Nat.le_refl _) _).alloc (by simp) _).drew
      have hn1 : Box5 W2 W1.heap.size (.int .i64 3) (.int .i64 0) (.float .f64 0) (.complex .f64 re1 im1) (.string ⟨#[]⟩) := by rw [hW2]; exact heap_alloc2_old _ _ _
      have hn2 : Box5 W2 (W1.heap.size + 1) (.int .i64 3) (.int .i64 0) (.float .f64 0) (.complex .f64 re2 im2) (.string ⟨#[]⟩) := by rw [hW2]; exact heap_alloc2_new _ _ _
      rw [← hW2]
      clear hW2
      have Hp2 := Lib.hid hn1
      have Hq2 := Lib.hid hn2
      have HX2 := Lib.hid (HX1.out.keep hbb rlt)
      have HY2 := Lib.hid (HY1.out.keep hbb slt)
      have Hx2 := Lib.hid (Hx1.out.keep hbb xlt)
      have Hy2 := Lib.hid (Hy1.out.keep hbb ylt)
      have HB2 := Lib.hid (HB1.out.trans (hbb.mono HB1.out.size))
      clear hbb hn1 hn2 rc3 sc3
      have ac0 := HX2.out.c0
      have ac1 := HX2.out.c1
      have ac2 := HX2.out.c2
      have ac3 := HX2.out.c3
      have ac4 := HX2.out.c4
      have bc0 := HY2.out.c0
      have bc1 := HY2.out.c1
      have bc2 := HY2.out.c2
      have bc3 := HY2.out.c3
      have bc4 := HY2.out.c4
      have cc0 := Hx2.out.c0
      have cc1 := Hx2.out.c1
      have cc2 := Hx2.out.c2
      have cc3 := Hx2.out.c3
      have cc4 := Hx2.out.c4
      have dc0 := Hy2.out.c0
      have dc1 := Hy2.out.c1
      have dc2 := Hy2.out.c2
      have dc3 := Hy2.out.c3
      have dc4 := Hy2.out.c4
      have ec0 := Hp2.out.c0
      have ec1 := Hp2.out.c1
      have ec2 := Hp2.out.c2
      have ec3 := Hp2.out.c3
      have ec4 := Hp2.out.c4
      have fc0 := Hq2.out.c0
      have fc1 := Hq2.out.c1
      have fc2 := Hq2.out.c2
      have fc3 := Hq2.out.c3
      have fc4 := Hq2.out.c4
      have plt2 := Hp2.out.lt
      have qlt2 := Hq2.out.lt
      go_wp2_with (first | (go_at_call 24; with_reducible refine (HS1.out _).mono ?_; rintro e w3 ⟨rfl, hb3⟩; have HB3 := Lib.hid (HB2.out.trans (hb3.mono HB2.out.size)); have Hp3 := Lib.hid (Hp2.out.keep hb3 plt2); have Hq3 := Lib.hid (Hq2.out.keep hb3 qlt2); clear hb3; have gc0 := Hp3.out.c0; have gc1 := Hp3.out.c1; have gc2 := Hp3.out.c2; have gc3 := Hp3.out.c3; have gc4 := Hp3.out.c4; have hc0 := Hq3.out.c0; have hc1 := Hq3.out.c1; have hc2 := Hq3.out.c2; have hc3 := Hq3.out.c3; have hc4 := Hq3.out.c4) | (go_at_call 24; with_reducible refine (HS2.out _).mono ?_; rintro e w4 ⟨rfl, hb4⟩; have HB4 := Lib.hid (HB3.out.trans (hb4.mono HB3.out.size)); clear hb4))
      go_ret
      exact ⟨rfl, HB4.out⟩
    · skip
      obtain ⟨W2, hW2⟩ : ∃ W2, W2 = ((W1.alloc (.cells #[.int .i64 3, .int .i64 0, .float .f64 0, .complex .f64 re2 im2, .string ⟨#[]⟩] 25)).alloc (.cells #[.int .i64 3, .int .i64 0, .float .f64 0, .complex .f64 re1 im1, .string ⟨#[]⟩] 25)).drew := ⟨_, rfl⟩
      have hbb : Below W1.heap.size W1 W2 := by rw [hW2]; exact (((Below.refl _ _).alloc (Nat.le_refl _) _).alloc (by simp) _).drew
      have hn1 : Box5 W2 W1.heap.size (.int .i64 3) (.int .i64 0) (.float .f64 0) (.complex .f64 re2 im2) (.string ⟨#[]⟩) := by rw [hW2]; exact heap_alloc2_old _ _ _
      have hn2 : Box5 W2 (W1.heap.size + 1) (.int .i64 3) (.int .i64 0) (.float .f64 0) (.complex .f64 re1 im1) (.string ⟨#[]⟩) := by rw [hW2]; exact heap_alloc2_new _ _ _
      rw [← hW2]
      clear hW2
      have Hq2 := Lib.hid hn1
      have Hp2 := Lib.hid hn2
      have HX2 := Lib.hid (HX1.out.keep hbb rlt)
      have HY2 := Lib.hid (HY1.out.keep hbb slt)
      have Hx2 := Lib.hid (Hx1.out.keep hbb xlt)
      have Hy2 := Lib.hid (Hy1.out.keep hbb ylt)
      have HB2 := Lib.hid (HB1.out.trans (hbb.mono HB1.out.size))
      clear hbb hn1 hn2 rc3 sc3
      have ac0 := HX2.out.c0
      have ac1 := HX2.out.c1
      have ac2 := HX2.out.c2
      have ac3 := HX2.out.c3
      have ac4 := HX2.out.c4
      have bc0 := HY2.out.c0
      have bc1 := HY2.out.c1
      have bc2 := HY2.out.c2
      have bc3 := HY2.out.c3
      have bc4 := HY2.out.c4
      have cc0 := Hx2.out.c0
      have cc1 := Hx2.out.c1
      have cc2 := Hx2.out.c2
      have cc3 := Hx2.out.c3
      have cc4 := Hx2.out.c4
      have dc0 := Hy2.out.c0
      have dc1 := Hy2.out.c1
      have dc2 := Hy2.out.c2
      have dc3 := Hy2.out.c3
      have dc4 := Hy2.out.c4
      have ec0 := Hp2.out.c0
      have ec1 := Hp2.out.c1
      have ec2 := Hp2.out.c2
      have ec3 := Hp2.out.c3
      have ec4 := Hp2.out.c4
      have fc0 := Hq2.out.c0
      have fc1 := Hq2.out.c1
      have fc2 := Hq2.out.c2
      have fc3 := Hq2.out.c3
      have fc4 := Hq2.out.c4
      have plt2 := Hp2.out.lt
      have qlt2 := Hq2.out.lt
      go_wp2_with (first | (go_at_call 24; with_reducible refine (HS1.out _).mono ?_; rintro e w3 ⟨rfl, hb3⟩; have HB3 := Lib.hid (HB2.out.trans (hb3.mono HB2.out.size)); have Hp3 := Lib.hid (Hp2.out.keep hb3 plt2); have Hq3 := Lib.hid (Hq2.out.keep hb3 qlt2); clear hb3; have gc0 := Hp3.out.c0; have gc1 := Hp3.out.c1; have gc2 := Hp3.out.c2; have gc3 := Hp3.out.c3; have gc4 := Hp3.out.c4; have hc0 := Hq3.out.c0; have hc1 := Hq3.out.c1; have hc2 := Hq3.out.c2; have hc3 := Hq3.out.c3; have hc4 := Hq3.out.c4) | (go_at_call 24; with_reducible refine (HS2.out _).mono ?_; rintro e w4 ⟨rfl, hb4⟩; have HB4 := Lib.hid (HB3.out.trans (hb4.mono HB3.out.size)); clear hb4))
      go_ret
      exact ⟨rfl, HB4.out⟩
  · skip
    obtain ⟨W1, hW1⟩ : ∃ W1, W1 = ((W0.alloc (.cells #[.int .i64 2, .int .i64 0, .float .f64 rl2, .complex .f64 0 0, .string ⟨#[]⟩] 25)).alloc (.cells #[.int .i64 2, .int .i64 0, .float .f64 rl1, .complex .f64 0 0, .string ⟨#[]⟩] 25)).drew := ⟨_, rfl⟩
    have hbb : Below W0.heap.size W0 W1 := by rw [hW1]; exact (((Below.refl _ _).alloc (Nat.le_refl _) _).alloc (by simp) _).drew
    have hn1 : Box5 W1 W0.heap.size (.int .i64 2) (.int .i64 0) (.float .f64 rl2) (.complex .f64 0 0) (.string ⟨#[]⟩) := by rw [hW1]; exact heap_alloc2_old _ _ _
    have hn2 : Box5 W1 (W0.heap.size + 1) (.int .i64 2) (.int .i64 0) (.float .f64 rl1) (.complex .f64 0 0) (.string ⟨#[]⟩) := by rw [hW1]; exact heap_alloc2_new _ _ _
    rw [← hW1]
    clear hW1
    have Hy1 := Lib.hid hn1
    have Hx1 := Lib.hid hn2
    have HX1 := Lib.hid (HX0.out.keep hbb plt)
    have HY1 := Lib.hid (HY0.out.keep hbb qlt)
    have HB1 := Lib.hid (HB0.out.trans (hbb.mono HB0.out.size))
    clear hbb hn1 hn2 pc2 pc3 qc2 qc3
    have rc3 := HX1.out.c3
    have sc3 := HY1.out.c3
    have rlt := HX1.out.lt
    have slt := HY1.out.lt
    have xlt := Hx1.out.lt
    have ylt := Hy1.out.lt
    go_upto_region 2 with (fail)
    go_region_held3 (fun W => W.cell? ⟨w.heap.size, 3, none⟩ = some (.complex .f64 re1 im1) ∧ W.cell? ⟨w.heap.size + 1, 3, none⟩ = some (.complex .f64 re2 im2))
      (first | (refine ⟨?_, ?_⟩ <;> assumption) | go_keep)
      (fail)
    · skip
      obtain ⟨W2, hW2⟩ : ∃ W2, W2 = ((W1.alloc (.cells #[.int .i64 3, .int .i64 0, .float .f64 0, .complex .f64 re1 im1, .string ⟨#[]⟩] 25)).alloc (.cells #[.int .i64 3, .int .i64 0, .float .f64 0, .complex .f64 re2 im2, .string ⟨#[]⟩] 25)).drew := ⟨_, rfl⟩
      have hbb : Below W1.heap.size W1 W2 := by rw [hW2]; exact (((Below.refl _ _).alloc (Nat.le_refl _) _).alloc (by simp) _).drew
      have hn1 : Box5 W2 W1.heap.size (.int .i64 3) (.int .i64 0) (.float .f64 0) (.complex .f64 re1 im1) (.string ⟨#[]⟩) := by rw [hW2]; exact heap_alloc2_old _ _ _
      have hn2 : Box5 W2 (W1.heap.size + 1) (.int .i64 3) (.int .i64 0) (.float .f64 0) (.complex .f64 re2 im2) (.string ⟨#[]⟩) := by rw [hW2]; exact heap_alloc2_new _ _ _
      rw [← hW2]
      clear hW2
      have Hp2 := Lib.hid hn1
      have Hq2 := Lib.hid hn2
      have HX2 := Lib.hid (HX1.out.keep hbb rlt)
      have HY2 := Lib.hid (HY1.out.keep hbb slt)
      have Hx2 := Lib.hid (Hx1.out.keep hbb xlt)
      have Hy2 := Lib.hid (Hy1.out.keep hbb ylt)
      have HB2 := Lib.hid (HB1.out.trans (hbb.mono HB1.out.size))
      clear hbb hn1 hn2 rc3 sc3
      have ac0 := HX2.out.c0
      have ac1 := HX2.out.c1
      have ac2 := HX2.out.c2
      have ac3 := HX2.out.c3
      have ac4 := HX2.out.c4
      have bc0 := HY2.out.c0
      have bc1 := HY2.out.c1
      have bc2 := HY2.out.c2
      have bc3 := HY2.out.c3
      have bc4 := HY2.out.c4
      have cc0 := Hx2.out.c0
      have cc1 := Hx2.out.c1
      have cc2 := Hx2.out.c2
      have cc3 := Hx2.out.c3
      have cc4 := Hx2.out.c4
      have dc0 := Hy2.out.c0
      have dc1 := Hy2.out.c1
      have dc2 := Hy2.out.c2
      have dc3 := Hy2.out.c3
      have dc4 := Hy2.out.c4
      have ec0 := Hp2.out.c0
      have ec1 := Hp2.out.c1
      have ec2 := Hp2.out.c2
      have ec3 := Hp2.out.c3
      have ec4 := Hp2.out.c4
      have fc0 := Hq2.out.c0
      have fc1 := Hq2.out.c1
      have fc2 := Hq2.out.c2
      have fc3 := Hq2.out.c3
      have fc4 := Hq2.out.c4
      have plt2 := Hp2.out.lt
      have qlt2 := Hq2.out.lt
      go_wp2_with (first | (go_at_call 24; with_reducible refine (HS1.out _).mono ?_; rintro e w3 ⟨rfl, hb3⟩; have HB3 := Lib.hid (HB2.out.trans (hb3.mono HB2.out.size)); have Hp3 := Lib.hid (Hp2.out.keep hb3 plt2); have Hq3 := Lib.hid (Hq2.out.keep hb3 qlt2); clear hb3; have gc0 := Hp3.out.c0; have gc1 := Hp3.out.c1; have gc2 := Hp3.out.c2; have gc3 := Hp3.out.c3; have gc4 := Hp3.out.c4; have hc0 := Hq3.out.c0; have hc1 := Hq3.out.c1; have hc2 := Hq3.out.c2; have hc3 := Hq3.out.c3; have hc4 := Hq3.out.c4) | (go_at_call 24; with_reducible refine (HS2.out _).mono ?_; rintro e w4 ⟨rfl, hb4⟩; have HB4 := Lib.hid (HB3.out.trans (hb4.mono HB3.out.size)); clear hb4))
      go_ret
      exact ⟨rfl, HB4.out⟩
    · skip
      obtain ⟨W2, hW2⟩ : ∃ W2, W2 = ((W1.alloc (.cells #[.int .i64 3, .int .i64 0, .float .f64 0, .complex .f64 re2 im2, .string ⟨#[]⟩] 25)).alloc (.cells #[.int .i64 3, .int .i64 0, .float .f64 0, .complex .f64 re1 im1, .string ⟨#[]⟩] 25)).drew := ⟨_, rfl⟩
      have hbb : Below W1.heap.size W1 W2 := by rw [hW2]; exact (((Below.refl _ _).alloc (Nat.le_refl _) _).alloc (by simp) _).drew
      have hn1 : Box5 W2 W1.heap.size (.int .i64 3) (.int .i64 0) (.float .f64 0) (.complex .f64 re2 im2) (.string ⟨#[]⟩) := by rw [hW2]; exact heap_alloc2_old _ _ _
      have hn2 : Box5 W2 (W1.heap.size + 1) (.int .i64 3) (.int .i64 0) (.float .f64 0) (.complex .f64 re1 im1) (.string ⟨#[]⟩) := by rw [hW2]; exact heap_alloc2_new _ _ _
      rw [← hW2]
      clear hW2
      have Hq2 := Lib.hid hn1
      have Hp2 := Lib.hid hn2
      have HX2 := Lib.hid (HX1.out.keep hbb rlt)
      have HY2 := Lib.hid (HY1.out.keep hbb slt)
      have Hx2 := Lib.hid (Hx1.out.keep hbb xlt)
      have Hy2 := Lib.hid (Hy1.out.keep hbb ylt)
      have HB2 := Lib.hid (HB1.out.trans (hbb.mono HB1.out.size))
      clear hbb hn1 hn2 rc3 sc3
      have ac0 := HX2.out.c0
      have ac1 := HX2.out.c1
      have ac2 := HX2.out.c2
      have ac3 := HX2.out.c3
      have ac4 := HX2.out.c4
      have bc0 := HY2.out.c0
      have bc1 := HY2.out.c1
      have bc2 := HY2.out.c2
      have bc3 := HY2.out.c3
      have bc4 := HY2.out.c4
      have cc0 := Hx2.out.c0
      have cc1 := Hx2.out.c1
      have cc2 := Hx2.out.c2
      have cc3 := Hx2.out.c3
      have cc4 := Hx2.out.c4
      have dc0 := Hy2.out.c0
      have dc1 := Hy2.out.c1
      have dc2 := Hy2.out.c2
      have dc3 := Hy2.out.c3
      have dc4 := Hy2.out.c4
      have ec0 := Hp2.out.c0
      have ec1 := Hp2.out.c1
      have ec2 := Hp2.out.c2
      have ec3 := Hp2.out.c3
      have ec4 := Hp2.out.c4
      have fc0 := Hq2.out.c0
      have fc1 := Hq2.out.c1
      have fc2 := Hq2.out.c2
      have fc3 := Hq2.out.c3
      have fc4 := Hq2.out.c4
      have plt2 := Hp2.out.lt
      have qlt2 := Hq2.out.lt
      go_wp2_with (first | (go_at_call 24; with_reducible refine (HS1.out _).mono ?_; rintro e w3 ⟨rfl, hb3⟩; have HB3 := Lib.hid (HB2.out.trans (hb3.mono HB2.out.size)); have Hp3 := Lib.hid (Hp2.out.keep hb3 plt2); have Hq3 := Lib.hid (Hq2.out.keep hb3 qlt2); clear hb3; have gc0 := Hp3.out.c0; have gc1 := Hp3.out.c1; have gc2 := Hp3.out.c2; have gc3 := Hp3.out.c3; have gc4 := Hp3.out.c4; have hc0 := Hq3.out.c0; have hc1 := Hq3.out.c1; have hc2 := Hq3.out.c2; have hc3 := Hq3.out.c3; have hc4 := Hq3.out.c4) | (go_at_call 24; with_reducible refine (HS2.out _).mono ?_; rintro e w4 ⟨rfl, hb4⟩; have HB4 := Lib.hid (HB3.out.trans (hb4.mono HB3.out.size)); clear hb4))
      go_ret
      exact ⟨rfl, HB4.out⟩
end Go.Proofs.YtofjbakepneilaaGreatDoor
/- The names of the kinds, told by both. -/
namespace Go.Proofs.YtofjbakepneilaaGreatDoor
open Go.RowKit Go.Shelf
set_option maxRecDepth 100000

def nameK (k : Int) : ByteArray := if k = 1 then ⟨#[105, 110, 116]⟩ else if k = 2 then ⟨#[114, 101, 97, 108]⟩ else if k = 3 then ⟨#[99, 111, 109, 112]⟩ else if k = 4 then ⟨#[116, 101, 120, 116]⟩ else if k = 5 then ⟨#[98, 111, 111, 108]⟩ else ⟨#[]⟩
def tyF (l : List UInt8) : Nat → Nat → Nat × Bool
  | 0, _ => (0, false)
  | f + 1, k => if (nameK k).toList == l then (k, true) else tyF l f (k + 1)
set_option maxHeartbeats 1000000 in
theorem vname_any (k : Int) (w : World) : Calls Tryz.prog 11 #[.int .i64 k] w fun e w' => e = .returned (.string (nameK k)) ∧ w = w' := by
  by_cases h1 : k = 1
  · subst h1
    go_enter Tryz.func11, Tryz.ntmps11
    go_wp2
    go_ret
    exact ⟨rfl, rfl⟩
  by_cases h2 : k = 2
  · subst h2
    go_enter Tryz.func11, Tryz.ntmps11
    go_wp2
    go_ret
    exact ⟨rfl, rfl⟩
  by_cases h3 : k = 3
  · subst h3
    go_enter Tryz.func11, Tryz.ntmps11
    go_wp2
    go_ret
    exact ⟨rfl, rfl⟩
  by_cases h4 : k = 4
  · subst h4
    go_enter Tryz.func11, Tryz.ntmps11
    go_wp2
    go_ret
    exact ⟨rfl, rfl⟩
  by_cases h5 : k = 5
  · subst h5
    go_enter Tryz.func11, Tryz.ntmps11
    go_wp2
    go_ret
    exact ⟨rfl, rfl⟩
  have e : nameK k = ⟨#[]⟩ := by unfold nameK; rw [if_neg h1, if_neg h2, if_neg h3, if_neg h4, if_neg h5]
  rw [e]
  have t1 : (k == 1) = false := beq_eq_false_iff_ne.2 h1
  have t2 : (k == 2) = false := beq_eq_false_iff_ne.2 h2
  have t3 : (k == 3) = false := beq_eq_false_iff_ne.2 h3
  have t4 : (k == 4) = false := beq_eq_false_iff_ne.2 h4
  have t5 : (k == 5) = false := beq_eq_false_iff_ne.2 h5
  clear h1 h2 h3 h4 h5 e
  go_enter Tryz.func11, Tryz.ntmps11
  go_wp2
  go_ret
  exact ⟨rfl, rfl⟩
set_option maxHeartbeats 2000000 in
theorem vtype_any (s : ByteArray) (w : World) : Calls Tryz.prog 7 #[.string s] w fun e w' => e = .returned (.tuple #[.int .i64 ((tyF s.toList 5 1).1 : Nat), .bool (tyF s.toList 5 1).2]) ∧ w = w' := by
  obtain ⟨T, hT⟩ : ∃ T, T = tyF s.toList 5 1 := ⟨_, rfl⟩
  rw [← hT]
  have HT := Lib.hid hT
  clear hT
  go_enter Tryz.func7, Tryz.ntmps7
  go_wp2
  go_loop [4] (fun i => ∃ k f : Nat, k + f = 6 ∧ 1 ≤ k ∧ i = .int .i64 k ∧ Hid (tyF s.toList f k = T)) (fun i => 6 - (intOf i).toNat)
  case atStart => exact ⟨1, 5, rfl, Nat.le_refl _, rfl, Lib.hid HT.out.symm⟩
  case round =>
    obtain ⟨k, f, hkf, hk1, rfl, hx⟩ := hrel
    cases f with
    | zero =>
      have d1 : decide ((k : Int) ≤ 5) = false := decide_eq_false (by omega)
      have HX : Hid (T = (0, false)) := Lib.hid (by rw [← hx.out]; rfl)
      clear hx
      go_wp2
      go_ret2
      exact ⟨by rw [HX.out]; rfl, rfl⟩
    | succ f =>
      have d1 : decide ((k : Int) ≤ 5) = true := decide_eq_true (by omega)
      have HN := Lib.hid (fun W => vname_any (k : Int) W)
      obtain ⟨nm, hnm⟩ : ∃ nm, nm = nameK (k : Int) := ⟨_, rfl⟩
      have hy := hx.out
      unfold tyF at hy
      rw [← hnm] at HN hy
      cases hb : (nm.toList == s.toList) with
      | true =>
        rw [hb] at hy
        have HX : Hid (T = (k, true)) := Lib.hid (by rw [← hy]; rfl)
        clear hx hy hnm
        go_wp2_with (go_at_call 11; refine (HN.out _).mono ?_; rintro e w' ⟨rfl, rfl⟩)
        go_ret2
        exact ⟨by rw [HX.out]; rfl, rfl⟩
      | false =>
        rw [hb] at hy
        have HX : Hid (tyF s.toList f (k + 1) = T) := Lib.hid (by rw [← hy]; rfl)
        clear hx hy hnm
        go_wp2_with (go_at_call 11; refine (HN.out _).mono ?_; rintro e w' ⟨rfl, rfl⟩)
        go_round
        case rel => exact ⟨k + 1, f, by omega, by omega, by go_num, HX⟩
        case measure => simp [intOf]; omega
set_option maxHeartbeats 1000000 in
theorem rname_any (k : Int) (w : World) : Calls Tryz.prog 12 #[.int .i64 k] w fun e w' => e = .returned (.string (nameK k)) ∧ w = w' := by
  by_cases h1 : k = 1
  · subst h1
    go_enter Tryz.func12, Tryz.ntmps12
    go_wp2
    go_ret
    exact ⟨rfl, rfl⟩
  by_cases h2 : k = 2
  · subst h2
    go_enter Tryz.func12, Tryz.ntmps12
    go_wp2
    go_ret
    exact ⟨rfl, rfl⟩
  by_cases h3 : k = 3
  · subst h3
    go_enter Tryz.func12, Tryz.ntmps12
    go_wp2
    go_ret
    exact ⟨rfl, rfl⟩
  by_cases h4 : k = 4
  · subst h4
    go_enter Tryz.func12, Tryz.ntmps12
    go_wp2
    go_ret
    exact ⟨rfl, rfl⟩
  by_cases h5 : k = 5
  · subst h5
    go_enter Tryz.func12, Tryz.ntmps12
    go_wp2
    go_ret
    exact ⟨rfl, rfl⟩
  have e : nameK k = ⟨#[]⟩ := by unfold nameK; rw [if_neg h1, if_neg h2, if_neg h3, if_neg h4, if_neg h5]
  rw [e]
  have t1 : (k == 1) = false := beq_eq_false_iff_ne.2 h1
  have t2 : (k == 2) = false := beq_eq_false_iff_ne.2 h2
  have t3 : (k == 3) = false := beq_eq_false_iff_ne.2 h3
  have t4 : (k == 4) = false := beq_eq_false_iff_ne.2 h4
  have t5 : (k == 5) = false := beq_eq_false_iff_ne.2 h5
  clear h1 h2 h3 h4 h5 e
  go_enter Tryz.func12, Tryz.ntmps12
  go_wp2
  go_ret
  exact ⟨rfl, rfl⟩
set_option maxHeartbeats 2000000 in
theorem rtype_any (s : ByteArray) (w : World) : Calls Tryz.prog 8 #[.string s] w fun e w' => e = .returned (.tuple #[.int .i64 ((tyF s.toList 5 1).1 : Nat), .bool (tyF s.toList 5 1).2]) ∧ w = w' := by
  obtain ⟨T, hT⟩ : ∃ T, T = tyF s.toList 5 1 := ⟨_, rfl⟩
  rw [← hT]
  have HT := Lib.hid hT
  clear hT
  go_enter Tryz.func8, Tryz.ntmps8
  go_wp2
  go_loop [4] (fun i => ∃ k f : Nat, k + f = 6 ∧ 1 ≤ k ∧ i = .int .i64 k ∧ Hid (tyF s.toList f k = T)) (fun i => 6 - (intOf i).toNat)
  case atStart => exact ⟨1, 5, rfl, Nat.le_refl _, rfl, Lib.hid HT.out.symm⟩
  case round =>
    obtain ⟨k, f, hkf, hk1, rfl, hx⟩ := hrel
    cases f with
    | zero =>
      have d1 : decide ((k : Int) ≤ 5) = false := decide_eq_false (by omega)
      have HX : Hid (T = (0, false)) := Lib.hid (by rw [← hx.out]; rfl)
      clear hx
      go_wp2
      go_ret2
      exact ⟨by rw [HX.out]; rfl, rfl⟩
    | succ f =>
      have d1 : decide ((k : Int) ≤ 5) = true := decide_eq_true (by omega)
      have HN := Lib.hid (fun W => rname_any (k : Int) W)
      obtain ⟨nm, hnm⟩ : ∃ nm, nm = nameK (k : Int) := ⟨_, rfl⟩
      have hy := hx.out
      unfold tyF at hy
      rw [← hnm] at HN hy
      cases hb : (nm.toList == s.toList) with
      | true =>
        rw [hb] at hy
        have HX : Hid (T = (k, true)) := Lib.hid (by rw [← hy]; rfl)
        clear hx hy hnm
        go_wp2_with (go_at_call 12; refine (HN.out _).mono ?_; rintro e w' ⟨rfl, rfl⟩)
        go_ret2
        exact ⟨by rw [HX.out]; rfl, rfl⟩
      | false =>
        rw [hb] at hy
        have HX : Hid (tyF s.toList f (k + 1) = T) := Lib.hid (by rw [← hy]; rfl)
        clear hx hy hnm
        go_wp2_with (go_at_call 12; refine (HN.out _).mono ?_; rintro e w' ⟨rfl, rfl⟩)
        go_round
        case rel => exact ⟨k + 1, f, by omega, by omega, by go_num, HX⟩
        case measure => simp [intOf]; omega
end Go.Proofs.YtofjbakepneilaaGreatDoor
/- ValueReads: what both tell of any text is the same. -/
namespace Go.Proofs.YtofjbakepneilaaGreatDoor
open Go.RowKit Go.Shelf
set_option maxRecDepth 100000

/-- s is some value's own text -/
def Said (s : ByteArray) (kd iv : Int) (rl re im : Nat) (tx : ByteArray) : Prop := WfV iv rl re im ∧ mayB kd iv tx = true ∧ printT kd iv rl re im tx = s
theorem printT_len (kd iv : Int) (rl re im : Nat) (tx : ByteArray) (hv : WfV iv rl re im) (hmay : mayB kd iv tx = true) : (printT kd iv rl re im tx).size ≤ 1026 := by
  obtain ⟨⟨hi1, hi2⟩, hrl, hre, him⟩ := hv
  unfold printT
  rw [if_neg (by simp [hmay])]
  by_cases h1 : kd = 1
  · rw [if_pos h1, sz_mk]
    have := itoa_len iv hi1 hi2
    omega
  rw [if_neg h1]
  by_cases h2 : kd = 2
  · rw [if_pos h2]
    have := realT_len hrl
    omega
  rw [if_neg h2]
  by_cases h3 : kd = 3
  · rw [if_pos h3]
    have := compT_len hre him
    unfold compT at this
    omega
  rw [if_neg h3]
  by_cases h4 : kd = 4
  · rw [if_pos h4]
    subst h4
    have hsz : tx.size ≤ 256 := by simpa [mayB] using hmay
    have hlen : ∀ l : List UInt8, (l.flatMap qPart).length ≤ 4 * l.length := by
      intro l
      induction l with
      | nil => simp
      | cons c l ih =>
        have hpp : (qPart c).length ≤ 4 := by unfold qPart; split <;> (try split) <;> simp
        rw [List.flatMap_cons, List.length_append, List.length_cons]
        omega
    have hl := hlen tx.data.toList
    have hts : tx.data.toList.length = tx.size := rfl
    have e : (⟨(quoted tx.data.toList).toArray⟩ : ByteArray).data.toList = 34 :: (tx.data.toList.flatMap qPart ++ [34]) := by simp [quoted, qHead]
    have : (⟨(quoted tx.data.toList).toArray⟩ : ByteArray).data.toList.length = (⟨(quoted tx.data.toList).toArray⟩ : ByteArray).size := rfl
    rw [← this, e, List.length_cons, List.length_append, List.length_cons, List.length_nil]
    omega
  rw [if_neg h4]
  split <;> decide
/-- what the program's Parse tells of a value's own text -/
theorem parse_said (kd iv : Int) (rl re im : Nat) (tx : ByteArray) (hv : WfV iv rl re im) (hmay : mayB kd iv tx = true) (w : World) (hG : GlobV w) :
    Calls Tryz.prog 5 #[.string (printT kd iv rl re im tx)] w fun e w' => (∃ kd' iv' rl' re' im' tx', (WfV iv' rl' re' im' ∧ LikeV kd iv rl re im tx kd' iv' rl' re' im' tx') ∧ e = .returned (.tuple #[valV kd' iv' rl' re' im' tx', .int .i64 0])) ∧ Below w.heap.size w w' := by
  refine parse_of (fun kd' iv' rl' re' im' tx' => WfV iv' rl' re' im' ∧ LikeV kd iv rl re im tx kd' iv' rl' re' im' tx') _ w hG fun W hW => ?_
  refine (vread_said kd iv rl re im tx hv hmay W hW).mono ?_
  rintro e w' ⟨⟨kd', iv', rl', re', im', tx', ⟨hw', hl⟩, rfl⟩, hb⟩
  exact ⟨⟨_, _, _, _, _, _, ⟨hw', (like_may hl).trans hmay, like_print hl, hw', hl⟩, rfl⟩, hb⟩
/-- what the reference's Parse tells of a value's own text -/
theorem rparse_said (kd iv : Int) (rl re im : Nat) (tx : ByteArray) (hv : WfV iv rl re im) (hmay : mayB kd iv tx = true) (w : World) (hG : GlobV w) :
    Calls Tryz.prog 6 #[.string (printT kd iv rl re im tx)] w fun e w' => (∃ kd' iv' rl' re' im' tx', (WfV iv' rl' re' im' ∧ LikeV kd iv rl re im tx kd' iv' rl' re' im' tx') ∧ e = .returned (.tuple #[valV kd' iv' rl' re' im' tx', .int .i64 0])) ∧ Below w.heap.size w w' := by
  refine (rparse_of (fun kd' iv' rl' re' im' tx' ok => LikeV kd iv rl re im tx kd' iv' rl' re' im' tx' ∧ ok = true) _ w (printT_len kd iv rl re im tx hv hmay) hG fun W => rread_said kd iv rl re im tx hv hmay W).mono ?_
  rintro e w' ⟨⟨kd', iv', rl', re', im', tx', ok, ⟨hw', hl, hok⟩, h⟩, hb⟩
  rcases h with ⟨hn, _⟩ | ⟨_, rfl⟩
  · exact absurd ⟨hok, (like_may hl).trans hmay, like_print hl⟩ hn
  · exact ⟨⟨_, _, _, _, _, _, ⟨hw', hl⟩, rfl⟩, hb⟩
/-- what is no value's text is refused by the program -/
theorem parse_none (s : ByteArray) (hs : ∀ kd iv rl re im tx, ¬ Said s kd iv rl re im tx) (hm : s.size ≤ 140737488355328) (w : World) (hG : GlobV w) :
    Calls Tryz.prog 5 #[.string s] w fun e w' => e = .returned (.tuple #[valV 0 0 0 0 0 ⟨#[]⟩, .int .i64 20]) ∧ Below w.heap.size w w' := by
  refine (parse_any s w hm hG).mono ?_
  rintro e w' ⟨he, hb⟩
  refine ⟨?_, hb⟩
  rcases he with rfl | ⟨kd, iv, rl, re, im, tx, hw, hmay, hp, _⟩
  · rfl
  · exact absurd ⟨hw, hmay, ext_eq (by rw [← tl_data, ← tl_data]; exact hp)⟩ (hs kd iv rl re im tx)
/-- what is no value's text is refused by the reference -/
theorem rparse_none (s : ByteArray) (hs : ∀ kd iv rl re im tx, ¬ Said s kd iv rl re im tx) (hm : s.size ≤ 140737488355328) (w : World) (hG : GlobV w) :
    Calls Tryz.prog 6 #[.string s] w fun e w' => e = .returned (.tuple #[valV 0 0 0 0 0 ⟨#[]⟩, .int .i64 20]) ∧ Below w.heap.size w w' := by
  rcases Nat.lt_or_ge 1026 s.size with h | h
  · exact rparse_long s w h hm
  refine (rparse_of (fun _ _ _ _ _ _ _ => True) s w h hG fun W => rread_all s W hm).mono ?_
  rintro e w' ⟨⟨kd, iv, rl, re, im, tx, ok, ⟨hw, _⟩, he⟩, hb⟩
  refine ⟨?_, hb⟩
  rcases he with ⟨_, rfl⟩ | ⟨⟨_, hmay, hp⟩, _⟩
  · rfl
  · exact absurd ⟨hw, hmay, hp⟩ (hs kd iv rl re im tx)
theorem same_zero : SameR 0 0 := .inr ⟨rfl, by decide, by decide⟩
theorem same_of_like {a b c : Nat} (ha : a < 18446744073709551616) (h1 : Like a c) (h2 : Like b c) : SameR a b := by
  rcases h1 with rfl | ⟨h1, h1'⟩
  · rcases h2 with rfl | ⟨h2, h2'⟩
    · cases h : nanB b with
      | true => exact .inl ⟨h, h⟩
      | false => exact .inr ⟨rfl, h, ha⟩
    · exact .inl ⟨h2', h2⟩
  · rcases h2 with rfl | ⟨h2, h2'⟩
    · exact .inl ⟨h1, h1'⟩
    · exact .inl ⟨h1, h2⟩
/-- what both tell of any text: values that are the same, or the same error -/
theorem both (s : ByteArray) (hm : s.size ≤ 140737488355328) :
    ∃ e0 : Int, ∃ R : Int → Int → Nat → Nat → Nat → ByteArray → Prop,
      (∀ w, GlobV w → Calls Tryz.prog 5 #[.string s] w fun e w' => (∃ kd iv rl re im tx, R kd iv rl re im tx ∧ e = .returned (.tuple #[valV kd iv rl re im tx, .int .i64 e0])) ∧ Below w.heap.size w w') ∧
      (∀ w, GlobV w → Calls Tryz.prog 6 #[.string s] w fun e w' => (∃ kd iv rl re im tx, R kd iv rl re im tx ∧ e = .returned (.tuple #[valV kd iv rl re im tx, .int .i64 e0])) ∧ Below w.heap.size w w') ∧
      ∀ kd iv rl re im tx kd' iv' rl' re' im' tx', R kd iv rl re im tx → R kd' iv' rl' re' im' tx' → kd = kd' ∧ iv = iv' ∧ tx = tx' ∧ SameR rl rl' ∧ SameR re re' ∧ SameR im im' := by
  by_cases hs : ∃ kd iv rl re im tx, Said s kd iv rl re im tx
  · obtain ⟨kd, iv, rl, re, im, tx, hw, hmay, hp⟩ := hs
    subst hp
    refine ⟨0, fun kd' iv' rl' re' im' tx' => WfV iv' rl' re' im' ∧ LikeV kd iv rl re im tx kd' iv' rl' re' im' tx', fun w hG => parse_said kd iv rl re im tx hw hmay w hG, fun w hG => rparse_said kd iv rl re im tx hw hmay w hG, ?_⟩
    rintro k1 i1 l1 a1 b1 t1 k2 i2 l2 a2 b2 t2 ⟨⟨_, u1, u2, u3⟩, rfl, h1⟩ ⟨_, rfl, h2⟩
    rcases h1 with ⟨rfl, rfl, rfl, rfl, rfl, rfl⟩ | ⟨rfl, rfl, x1, rfl, rfl, rfl⟩ | ⟨rfl, rfl, rfl, x1, x2, rfl⟩ | ⟨rfl, rfl, rfl, rfl, rfl, rfl⟩ | ⟨rfl, rfl, rfl, rfl, rfl, rfl⟩
    · rcases h2 with ⟨_, rfl, rfl, rfl, rfl, rfl⟩ | ⟨h, _⟩ | ⟨h, _⟩ | ⟨h, _⟩ | ⟨h, _⟩
      · exact ⟨rfl, rfl, rfl, same_zero, same_zero, same_zero⟩
      all_goals exact absurd h (by decide)
    · rcases h2 with ⟨h, _⟩ | ⟨_, rfl, y1, rfl, rfl, rfl⟩ | ⟨h, _⟩ | ⟨h, _⟩ | ⟨h, _⟩
      · exact absurd h (by decide)
      · exact ⟨rfl, rfl, rfl, same_of_like u1 x1 y1, same_zero, same_zero⟩
      all_goals exact absurd h (by decide)
    · rcases h2 with ⟨h, _⟩ | ⟨h, _⟩ | ⟨_, rfl, rfl, y1, y2, rfl⟩ | ⟨h, _⟩ | ⟨h, _⟩
      · exact absurd h (by decide)
      · exact absurd h (by decide)
      · exact ⟨rfl, rfl, rfl, same_zero, same_of_like u2 x1 y1, same_of_like u3 x2 y2⟩
      all_goals exact absurd h (by decide)
    · rcases h2 with ⟨h, _⟩ | ⟨h, _⟩ | ⟨h, _⟩ | ⟨_, rfl, rfl, rfl, rfl, rfl⟩ | ⟨h, _⟩
      · exact absurd h (by decide)
      · exact absurd h (by decide)
      · exact absurd h (by decide)
      · exact ⟨rfl, rfl, rfl, same_zero, same_zero, same_zero⟩
      · exact absurd h (by decide)
    · rcases h2 with ⟨h, _⟩ | ⟨h, _⟩ | ⟨h, _⟩ | ⟨h, _⟩ | ⟨_, rfl, rfl, rfl, rfl, rfl⟩
      · exact absurd h (by decide)
      · exact absurd h (by decide)
      · exact absurd h (by decide)
      · exact absurd h (by decide)
      · exact ⟨rfl, rfl, rfl, same_zero, same_zero, same_zero⟩
  · have hs' : ∀ kd iv rl re im tx, ¬ Said s kd iv rl re im tx := fun kd iv rl re im tx h => hs ⟨_, _, _, _, _, _, h⟩
    refine ⟨20, fun kd iv rl re im tx => kd = 0 ∧ iv = 0 ∧ rl = 0 ∧ re = 0 ∧ im = 0 ∧ tx = ⟨#[]⟩, fun w hG => (parse_none s hs' hm w hG).mono ?_, fun w hG => (rparse_none s hs' hm w hG).mono ?_, ?_⟩
    · rintro e w' ⟨rfl, hb⟩
      exact ⟨⟨_, _, _, _, _, _, ⟨rfl, rfl, rfl, rfl, rfl, rfl⟩, rfl⟩, hb⟩
    · rintro e w' ⟨rfl, hb⟩
      exact ⟨⟨_, _, _, _, _, _, ⟨rfl, rfl, rfl, rfl, rfl, rfl⟩, rfl⟩, hb⟩
    · rintro k1 i1 l1 a1 b1 t1 k2 i2 l2 a2 b2 t2 ⟨rfl, rfl, rfl, rfl, rfl, rfl⟩ ⟨rfl, rfl, rfl, rfl, rfl, rfl⟩
      exact ⟨rfl, rfl, rfl, same_zero, same_zero, same_zero⟩
end Go.Proofs.YtofjbakepneilaaGreatDoor
/- ValueReads: the walk of the law. -/
namespace Go.Proofs.YtofjbakepneilaaGreatDoor
open Go.RowKit Go.Shelf
set_option maxRecDepth 100000

theorem num_any (e : Int) (w : World) : Calls Tryz.prog 9 #[.int .i64 e] w fun x w' => x = .returned (.int .i64 e) ∧ w = w' := by
  go_enter Tryz.func9, Tryz.ntmps9
  go_wp2
  go_ret
  exact ⟨rfl, rfl⟩
set_option maxHeartbeats 8000000 in
theorem reads_any (s : ByteArray) (kind : Int) (w : World) (hm : s.size ≤ 140737488355328) (hG : GlobV w) :
    Calls Tryz.prog 3 #[.string s, .int .i64 kind] w fun e w' => e = .returned (.bool true) ∧ Below w.heap.size w w' := by
  have sf : ∀ (p : Addr) (b : Nat) (mo : Mode) (w' : World), (store p (.float .f64 b) mo).run Tryz.prog w' = stored Tryz.prog w' p (.float .f64 b) mo := fun p b mo w' => run_store _ w' p _ mo rfl
  have sc : ∀ (p : Addr) (b c : Nat) (mo : Mode) (w' : World), (store p (.complex .f64 b c) mo).run Tryz.prog w' = stored Tryz.prog w' p (.complex .f64 b c) mo := fun p b c mo w' => run_store _ w' p _ mo rfl
  obtain ⟨e0, R, hp, hr, hR⟩ := both s hm
  have HP := Lib.hid hp
  have HR := Lib.hid hr
  have HRR := Lib.hid hR
  have HG := Lib.hid hG
  have HT1 := Lib.hid (fun W => vtype_any s W)
  have HT2 := Lib.hid (fun W => rtype_any s W)
  obtain ⟨k, hk⟩ : ∃ k, k = (tyF s.toList 5 1).1 := ⟨_, rfl⟩
  obtain ⟨b, hb⟩ : ∃ b, b = (tyF s.toList 5 1).2 := ⟨_, rfl⟩
  rw [← hk, ← hb] at HT1 HT2
  clear hp hr hR hG hk hb
  go_enter Tryz.func3, Tryz.ntmps3
  go_upto_region 2 with (go_at_call 5; refine (HP.out _ HG.out).mono ?_; rintro e w1 ⟨⟨kd, iv, rl, re, im, tx, h1, rfl⟩, hb1⟩; unfold valV)
  have H1 := Lib.hid h1
  obtain ⟨W1, hW1⟩ : ∃ W1, W1 = w1.alloc (.cells #[.int .i64 kd, .int .i64 iv, .float .f64 rl, .complex .f64 re im, .string tx] 25) := ⟨_, rfl⟩
  have hB1 : Below w.heap.size w W1 := by rw [hW1]; exact hb1.alloc hb1.size _
  have hx1 : Box5 W1 w1.heap.size (.int .i64 kd) (.int .i64 iv) (.float .f64 rl) (.complex .f64 re im) (.string tx) := by rw [hW1]; exact heap_alloc_new _ _
  rw [← hW1]
  have HG1 := Lib.hid (HG.out.below hB1 (Nat.le_refl _))
  have HB1 := Lib.hid hB1
  have HX1 := Lib.hid hx1
  have xlt := hx1.lt
  clear hb1 hW1 hB1 hx1 h1
  go_upto_region 3 with (go_at_call 6; refine (HR.out _ HG1.out).mono ?_; rintro e w2 ⟨⟨kd', iv', rl', re', im', tx', h2, rfl⟩, hb2⟩; unfold valV)
  obtain ⟨rfl, rfl, rfl, s1, s2, s3⟩ := HRR.out _ _ _ _ _ _ _ _ _ _ _ _ H1.out h2
  have hf := fun W => fields_any kd iv rl rl' re re' im im' tx s1 s2 s3 W
  unfold valV at hf
  have HF := Lib.hid hf
  obtain ⟨W2, hW2⟩ : ∃ W2, W2 = w2.alloc (.cells #[.int .i64 kd, .int .i64 iv, .float .f64 rl', .complex .f64 re' im', .string tx] 25) := ⟨_, rfl⟩
  have hB2 : Below W1.heap.size W1 W2 := by rw [hW2]; exact hb2.alloc hb2.size _
  have hx2 : Box5 W2 w2.heap.size (.int .i64 kd) (.int .i64 iv) (.float .f64 rl') (.complex .f64 re' im') (.string tx) := by rw [hW2]; exact heap_alloc_new _ _
  rw [← hW2]
  have HX2 := Lib.hid (HX1.out.keep hB2 xlt)
  have HY2 := Lib.hid hx2
  have HB2 := Lib.hid (HB1.out.trans (hB2.mono HB1.out.size))
  clear hb2 hW2 hB2 hx2 h2 hf s1 s2 s3
  have pc0 := HX2.out.c0
  have pc1 := HX2.out.c1
  have pc2 := HX2.out.c2
  have pc3 := HX2.out.c3
  have pc4 := HX2.out.c4
  have qc0 := HY2.out.c0
  have qc1 := HY2.out.c1
  have qc2 := HY2.out.c2
  have qc3 := HY2.out.c3
  have qc4 := HY2.out.c4
  have HN1 := Lib.hid (fun W => vname_any kind W)
  have HN2 := Lib.hid (fun W => rname_any kind W)
  have HK1 := Lib.hid (fun W => vname_any (k : Int) W)
  have HK2 := Lib.hid (fun W => rname_any (k : Int) W)
  generalize nameK kind = n1 at HN1 HN2
  generalize nameK (k : Int) = n2 at HK1 HK2
  go_wp2_with (first
    | (go_at_call 7; refine (HT1.out _).mono ?_; rintro e w' ⟨rfl, rfl⟩)
    | (go_at_call 8; refine (HT2.out _).mono ?_; rintro e w' ⟨rfl, rfl⟩)
    | (go_at_call 9; refine (num_any _ _).mono ?_; rintro e w' ⟨rfl, rfl⟩)
    | (go_at_call 10; refine (HF.out _).mono ?_; rintro e w3 ⟨rfl, hb3⟩; have HB3 := Lib.hid (HB2.out.trans (hb3.mono HB2.out.size)); clear hb3)
    | (go_at_call 11; with_reducible refine (HN1.out _).mono ?_; rintro e w' ⟨rfl, rfl⟩)
    | (go_at_call 12; with_reducible refine (HN2.out _).mono ?_; rintro e w' ⟨rfl, rfl⟩)
    | (go_at_call 11; with_reducible refine (HK1.out _).mono ?_; rintro e w' ⟨rfl, rfl⟩)
    | (go_at_call 12; with_reducible refine (HK2.out _).mono ?_; rintro e w' ⟨rfl, rfl⟩))
  go_ret
  exact ⟨rfl, HB3.out⟩
end Go.Proofs.YtofjbakepneilaaGreatDoor
