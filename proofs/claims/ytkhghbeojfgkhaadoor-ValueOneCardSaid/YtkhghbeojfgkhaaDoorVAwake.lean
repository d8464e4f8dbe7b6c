/- awake: the law's own samples. -/
import Derived.Test.YtkhghbeojfgkhaaDoorVParse
import Derived.Deep.RegionHeld3
import Derived.Deep.RegionWith
namespace Go.Proofs.YtkhghbeojfgkhaaDoor
open Go.RowKit Go.Shelf
set_option maxRecDepth 100000

theorem nan64 (x : Int) (w : World) : Calls Tryd.prog 68 #[.int .i64 x] w fun e w' => e = .returned (.bool false) ∧ w = w' := by
  go_enter Tryd.func68, Tryd.ntmps68
  go_wp2
  go_ret
  exact ⟨rfl, rfl⟩
theorem cmp01 (w : World) : Calls Tryd.prog 42 #[.int .i64 0, .int .i64 1] w fun e w' => e = .returned (.int .i64 (-1)) ∧ w = w' := by
  go_enter Tryd.func42, Tryd.ntmps42
  go_wp2_with (go_at_call 68; refine (nan64 _ _).mono ?_; rintro e w' ⟨rfl, rfl⟩)
  go_ret
  exact ⟨rfl, rfl⟩
set_option maxHeartbeats 1000000 in
theorem rank_int (i : Int) (w : World) : Calls Tryd.prog 41 #[.agg #[.int .i64 1, .int .i64 i, .float .f64 0, .complex .f64 0 0, .string ⟨#[]⟩]] w fun e w' => e = .returned (.int .i64 1) ∧ Below w.heap.size w w' := by
  obtain ⟨W0, hW0⟩ : ∃ W0, W0 = w.alloc (.cells #[.int .i64 1, .int .i64 i, .float .f64 0, .complex .f64 0 0, .string ⟨#[]⟩] 47) := ⟨_, rfl⟩
  have hB0 : Below w.heap.size w W0 := by rw [hW0]; exact (Below.refl w.heap.size w).alloc (Nat.le_refl _) _
  have hb0 : Box5 W0 w.heap.size (.int .i64 1) (.int .i64 i) (.float .f64 0) (.complex .f64 0 0) (.string ⟨#[]⟩) := by rw [hW0]; exact heap_alloc_new _ _
  have HW0 := Lib.hid hW0
  have HB0 := Lib.hid hB0
  have HX0 := Lib.hid hb0
  have hM := fun W => may_any 1 i 0 0 0 ⟨#[]⟩ W
  have hmb : mayB 1 i ⟨#[]⟩ = true := by simp [mayB]
  rw [hmb] at hM
  unfold valV at hM
  have HM := Lib.hid hM
  clear hW0 hB0 hb0 hM hmb
  have pc0 := HX0.out.c0
  have pc1 := HX0.out.c1
  have pc2 := HX0.out.c2
  have pc3 := HX0.out.c3
  have pc4 := HX0.out.c4
  have plt := HX0.out.lt
  go_enter Tryd.func41, Tryd.ntmps41
  go_upto_region 1 with (fail)
  rw [← HW0.out]
  go_wp2_with (go_at_call 18; refine (HM.out _).mono ?_; rintro e w1 ⟨rfl, hb1⟩; have HB1 := Lib.hid (HB0.out.trans (hb1.mono HB0.out.size)); have HX1 := Lib.hid (HX0.out.keep hb1 plt); clear hb1; have qc0 := HX1.out.c0; have qc1 := HX1.out.c1; have qc2 := HX1.out.c2; have qc3 := HX1.out.c3; have qc4 := HX1.out.c4; have qlt := HX1.out.lt)
  go_ret
  exact ⟨rfl, HB1.out⟩
set_option maxHeartbeats 4000000 in
theorem compare01 (w : World) : Calls Tryd.prog 26 #[.agg #[.int .i64 1, .int .i64 0, .float .f64 0, .complex .f64 0 0, .string ⟨#[]⟩], .agg #[.int .i64 1, .int .i64 1, .float .f64 0, .complex .f64 0 0, .string ⟨#[]⟩]] w fun e w' => e = .returned (.int .i64 (-1)) ∧ Below w.heap.size w w' := by
  obtain ⟨W0, hW0⟩ : ∃ W0, W0 = (w.alloc (.cells #[.int .i64 1, .int .i64 0, .float .f64 0, .complex .f64 0 0, .string ⟨#[]⟩] 47)).alloc (.cells #[.int .i64 1, .int .i64 1, .float .f64 0, .complex .f64 0 0, .string ⟨#[]⟩] 47) := ⟨_, rfl⟩
  have hB0 : Below w.heap.size w W0 := by rw [hW0]; exact ((Below.refl w.heap.size w).alloc (Nat.le_refl _) _).alloc (by simp) _
  have hb0 : Box5 W0 w.heap.size (.int .i64 1) (.int .i64 0) (.float .f64 0) (.complex .f64 0 0) (.string ⟨#[]⟩) := by rw [hW0]; exact heap_alloc2_old _ _ _
  have hb1 : Box5 W0 (w.heap.size + 1) (.int .i64 1) (.int .i64 1) (.float .f64 0) (.complex .f64 0 0) (.string ⟨#[]⟩) := by rw [hW0]; exact heap_alloc2_new _ _ _
  have HW0 := Lib.hid hW0
  have HB0 := Lib.hid hB0
  have HX0 := Lib.hid hb0
  have HY0 := Lib.hid hb1
  clear hW0 hB0 hb0 hb1
  have HR0 := Lib.hid (rank_int 0)
  have HR1 := Lib.hid (rank_int 1)
  have hci : Lib.compareInt 1 1 = 0 := by decide
  have pc0 := HX0.out.c0
  have pc1 := HX0.out.c1
  have pc2 := HX0.out.c2
  have pc3 := HX0.out.c3
  have pc4 := HX0.out.c4
  have plt := HX0.out.lt
  have qc0 := HY0.out.c0
  have qc1 := HY0.out.c1
  have qc2 := HY0.out.c2
  have qc3 := HY0.out.c3
  have qc4 := HY0.out.c4
  have qlt := HY0.out.lt
  go_enter Tryd.func26, Tryd.ntmps26
  go_upto_region 1 with (fail)
  rw [← HW0.out]
  go_region_held3 (fun W => W.cell? ⟨w.heap.size, 0, none⟩ = some (.int .i64 1) ∧ W.cell? ⟨w.heap.size, 1, none⟩ = some (.int .i64 0) ∧ W.cell? ⟨w.heap.size, 2, none⟩ = some (.float .f64 0) ∧ W.cell? ⟨w.heap.size, 3, none⟩ = some (.complex .f64 0 0) ∧ W.cell? ⟨w.heap.size, 4, none⟩ = some (.string ⟨#[]⟩) ∧ W.cell? ⟨w.heap.size + 1, 0, none⟩ = some (.int .i64 1) ∧ W.cell? ⟨w.heap.size + 1, 1, none⟩ = some (.int .i64 1) ∧ W.cell? ⟨w.heap.size + 1, 2, none⟩ = some (.float .f64 0) ∧ W.cell? ⟨w.heap.size + 1, 3, none⟩ = some (.complex .f64 0 0) ∧ W.cell? ⟨w.heap.size + 1, 4, none⟩ = some (.string ⟨#[]⟩))
    (first | (refine ⟨?_, ?_, ?_, ?_, ?_, ?_, ?_, ?_, ?_, ?_⟩ <;> assumption) | go_keep)
    (first
      | (go_at_call 41; with_reducible refine (HR0.out _).mono ?_; rintro e w1 ⟨rfl, hb1⟩; have hb1 : Below W0.heap.size W0 w1 := (by first | exact hb1 | exact ((Below.refl W0.heap.size W0).drew).trans (hb1.mono (Below.refl W0.heap.size W0).drew.size)); have HB1 := Lib.hid (HB0.out.trans (hb1.mono HB0.out.size)); have HX1 := Lib.hid (HX0.out.keep hb1 plt); have HY1 := Lib.hid (HY0.out.keep hb1 qlt); clear hb1; have rc0 := HX1.out.c0; have rc1 := HX1.out.c1; have rc2 := HX1.out.c2; have rc3 := HX1.out.c3; have rc4 := HX1.out.c4; have rlt := HX1.out.lt; have sc0 := HY1.out.c0; have sc1 := HY1.out.c1; have sc2 := HY1.out.c2; have sc3 := HY1.out.c3; have sc4 := HY1.out.c4; have slt := HY1.out.lt)
      | (go_at_call 41; with_reducible refine (HR1.out _).mono ?_; rintro e w2 ⟨rfl, hb2⟩; have HB2 := Lib.hid (HB1.out.trans (hb2.mono HB1.out.size)); have HX2 := Lib.hid (HX1.out.keep hb2 rlt); have HY2 := Lib.hid (HY1.out.keep hb2 slt); clear hb2; have tc0 := HX2.out.c0; have tc1 := HX2.out.c1; have tc2 := HX2.out.c2; have tc3 := HX2.out.c3; have tc4 := HX2.out.c4; have tlt := HX2.out.lt; have uc0 := HY2.out.c0; have uc1 := HY2.out.c1; have uc2 := HY2.out.c2; have uc3 := HY2.out.c3; have uc4 := HY2.out.c4; have ult := HY2.out.lt)
      | (go_at_call 40; refine (Tryd.cmp_Compare_int 1 1 _).mono ?_; rintro e w' ⟨rfl, rfl⟩))
  all_goals
    go_wp2_with (first
      | (go_at_call 41; refine (HR0.out _).mono ?_; rintro e w4 ⟨rfl, hb4⟩; have HB4 := Lib.hid (HB2.out.trans (hb4.mono HB2.out.size)); have HX4 := Lib.hid (HX2.out.keep hb4 tlt); have HY4 := Lib.hid (HY2.out.keep hb4 ult); clear hb4; have xc0 := HX4.out.c0; have xc1 := HX4.out.c1; have xc2 := HX4.out.c2; have xc3 := HX4.out.c3; have xc4 := HX4.out.c4; have xlt := HX4.out.lt; have yc0 := HY4.out.c0; have yc1 := HY4.out.c1; have yc2 := HY4.out.c2; have yc3 := HY4.out.c3; have yc4 := HY4.out.c4; have ylt := HY4.out.lt)
      | (go_at_call 42; refine (cmp01 _).mono ?_; rintro e w' ⟨rfl, rfl⟩))
    go_ret
    exact ⟨rfl, HB4.out⟩
theorem print7 : printT 1 7 0 0 0 ⟨#[]⟩ = ⟨#[55]⟩ := by decide +kernel
theorem print15 : printT 2 0 4609434218613702656 0 0 ⟨#[]⟩ = ⟨#[51, 112, 45, 49]⟩ := by decide +kernel
set_option maxHeartbeats 2000000 in
theorem vawake_any (w : World) (hG : GlobV w) : Calls Tryd.prog 16 #[] w fun e w' => e = .returned (.bool true) ∧ Below w.heap.size w w' := by
  have h1 := fun W hW => print_any 1 7 0 0 0 ⟨#[]⟩ W hW ⟨⟨by decide, by decide⟩, by decide, by decide, by decide⟩
  have h2 := fun W hW => print_any 2 0 4609434218613702656 0 0 ⟨#[]⟩ W hW ⟨⟨by decide, by decide⟩, by decide, by decide, by decide⟩
  rw [print7] at h1
  rw [print15] at h2
  unfold valV at h1 h2
  have H1 := Lib.hid h1
  have H2 := Lib.hid h2
  have HC := Lib.hid compare01
  have HG := Lib.hid hG
  clear h1 h2 hG
  go_enter Tryd.func16, Tryd.ntmps16
  go_wp2_with (first
    | (go_at_call 19; with_reducible refine (H1.out w HG.out).mono ?_; rintro e w1 ⟨rfl, hb1⟩; have HG1 := Lib.hid (HG.out.below hb1 (Nat.le_refl _)); have HB1 := Lib.hid hb1; clear hb1)
    | (go_at_call 19; with_reducible refine (H2.out w1 HG1.out).mono ?_; rintro e w2 ⟨rfl, hb2⟩; have HB2 := Lib.hid (HB1.out.trans (hb2.mono HB1.out.size)); clear hb2)
    | (go_at_call 26; refine (HC.out _).mono ?_; rintro e w3 ⟨rfl, hb3⟩; have HB3 := Lib.hid (HB2.out.trans (hb3.mono HB2.out.size)); clear hb3))
  go_ret
  exact ⟨rfl, HB3.out⟩
end Go.Proofs.YtkhghbeojfgkhaaDoor
