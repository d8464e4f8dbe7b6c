/- Print. -/
import Derived.Test.YtofjbakepneilaaGreatDoorVPrint
import Derived.Deep.Cut
import Derived.Deep.RegionHeld3
namespace Go.Proofs.YtofjbakepneilaaGreatDoor
open Go.RowKit Go.Shelf
set_option maxRecDepth 100000

def printT (kd iv : Int) (rl re im : Nat) (tx : ByteArray) : ByteArray :=
  if mayB kd iv tx = false then ⟨#[]⟩ else if kd = 1 then ⟨(Lib.itoa iv).toArray⟩ else if kd = 2 then realT rl
  else if kd = 3 then (((⟨#[40]⟩ ++ realT re) ++ ⟨#[44]⟩) ++ realT im) ++ ⟨#[41]⟩ else if kd = 4 then ⟨(quoted tx.data.toList).toArray⟩ else if iv = 0 then ⟨#[102, 97, 108, 115, 101]⟩ else ⟨#[116, 114, 117, 101]⟩
/-- fields that may be -/
def WfV (iv : Int) (rl re im : Nat) : Prop := (-9223372036854775808 ≤ iv ∧ iv ≤ 9223372036854775807) ∧ rl < 18446744073709551616 ∧ re < 18446744073709551616 ∧ im < 18446744073709551616
set_option maxHeartbeats 4000000 in
theorem print_any (kd iv : Int) (rl re im : Nat) (tx : ByteArray) (w : World) (hG : GlobV w) (hv : WfV iv rl re im) :
    Calls Tryz.prog 20 #[valV kd iv rl re im tx] w fun e w' => e = .returned (.string (printT kd iv rl re im tx)) ∧ Below w.heap.size w w' := by
  obtain ⟨⟨hi1, hi2⟩, hrl, hre, him⟩ := hv
  have HG := Lib.hid hG
  obtain ⟨w1, hw1⟩ : ∃ w1, w1 = w.alloc (.cells #[.int .i64 kd, .int .i64 iv, .float .f64 rl, .complex .f64 re im, .string tx] 25) := ⟨_, rfl⟩
  have hb1 : Below w.heap.size w w1 := by rw [hw1]; exact (Below.refl _ w).alloc (Nat.le_refl _) _
  have hblk : w1.heap[w.heap.size]? = some (.cells #[.int .i64 kd, .int .i64 iv, .float .f64 rl, .complex .f64 re im, .string tx] 25 (0, 0)) := by rw [hw1]; exact heap_alloc_new w _
  have hz1 : w1.heap.size = w.heap.size + 1 := by rw [hw1]; simp
  have HW1 := Lib.hid hw1
  have HB1 := Lib.hid hb1
  have HK1 := Lib.hid hblk
  have HZ1 := Lib.hid hz1
  have hm := fun W => may_any kd iv rl re im tx W
  unfold valV at hm ⊢
  cases hmay : mayB kd iv tx with
  | false =>
    have ht : printT kd iv rl re im tx = ⟨#[]⟩ := by unfold printT; rw [if_pos hmay]
    rw [hmay] at hm
    have HM := Lib.hid hm
    have x0 : w1.cell? ⟨w.heap.size, 0, none⟩ = some (.int .i64 kd) := by simp [World.cell?, hblk]
    have x1 : w1.cell? ⟨w.heap.size, 1, none⟩ = some (.int .i64 iv) := by simp [World.cell?, hblk]
    have x2 : w1.cell? ⟨w.heap.size, 2, none⟩ = some (.float .f64 rl) := by simp [World.cell?, hblk]
    have x3 : w1.cell? ⟨w.heap.size, 3, none⟩ = some (.complex .f64 re im) := by simp [World.cell?, hblk]
    have x4 : w1.cell? ⟨w.heap.size, 4, none⟩ = some (.string tx) := by simp [World.cell?, hblk]
    rw [ht]
    clear ht hm hmay hw1 hb1 hblk hz1 hG
    go_enter Tryz.func20, Tryz.ntmps20
    go_upto_region 1 with (fail)
    rw [← HW1.out]
    go_wp2_with fail
    refine (HM.out w1).mono ?_
    rintro e w2 ⟨rfl, hb2⟩
    have HB2 := Lib.hid (HB1.out.trans (hb2.mono HB1.out.size))
    clear hb2
    go_wp2_with fail
    go_ret
    exact ⟨rfl, HB2.out⟩
  | true =>
    rw [hmay] at hm
    have HM := Lib.hid hm
    have x0 : w1.cell? ⟨w.heap.size, 0, none⟩ = some (.int .i64 kd) := by simp [World.cell?, hblk]
    have x1 : w1.cell? ⟨w.heap.size, 1, none⟩ = some (.int .i64 iv) := by simp [World.cell?, hblk]
    have x2 : w1.cell? ⟨w.heap.size, 2, none⟩ = some (.float .f64 rl) := by simp [World.cell?, hblk]
    have x3 : w1.cell? ⟨w.heap.size, 3, none⟩ = some (.complex .f64 re im) := by simp [World.cell?, hblk]
    have x4 : w1.cell? ⟨w.heap.size, 4, none⟩ = some (.string tx) := by simp [World.cell?, hblk]
    obtain ⟨s, hs⟩ : ∃ s, s = printT kd iv rl re im tx := ⟨_, rfl⟩
    have hk : kd = 1 ∨ kd = 2 ∨ kd = 3 ∨ kd = 4 ∨ kd = 5 := by
      unfold mayB at hmay
      by_cases h : kd = 1 ∨ kd = 2 ∨ kd = 3
      · omega
      · rw [if_neg h] at hmay
        by_cases h4 : kd = 4
        · omega
        · rw [if_neg h4] at hmay
          by_cases h5 : kd = 5
          · omega
          · rw [if_neg h5] at hmay; cases hmay
    have h4 : kd = 4 → tx.size ≤ 256 := fun h => by subst h; simpa [mayB] using hmay
    have hpt : printT kd iv rl re im tx = if kd = 1 then ⟨(Lib.itoa iv).toArray⟩ else if kd = 2 then realT rl else if kd = 3 then (((⟨#[40]⟩ ++ realT re) ++ ⟨#[44]⟩) ++ realT im) ++ ⟨#[41]⟩ else if kd = 4 then ⟨(quoted tx.data.toList).toArray⟩ else if iv = 0 then ⟨#[102, 97, 108, 115, 101]⟩ else ⟨#[116, 114, 117, 101]⟩ := by
      conv => lhs; unfold printT
      rw [if_neg (by simp [hmay])]
    rw [hpt]
    clear hpt hs hm hmay hw1 hz1 hG
    have hcell : ∀ W, Below w1.heap.size w1 W → ∀ j, W.cell? ⟨w.heap.size, j, none⟩ = w1.cell? ⟨w.heap.size, j, none⟩ := fun W hW j => hW.cell (p := ⟨w.heap.size, j, none⟩) (by rw [HZ1.out]; simp)
    have HC := Lib.hid hcell
    clear hcell hblk hb1
    rcases hk with rfl | rfl | rfl | rfl | rfl
    · clear h4
      go_enter Tryz.func20, Tryz.ntmps20
      go_upto_region 1 with (fail)
      rw [← HW1.out]
      go_wp2_with fail
      refine (HM.out w1).mono ?_
      rintro e w2 ⟨rfl, hb2⟩
      have x0 := (HC.out w2 hb2 0).trans x0
      have x1 := (HC.out w2 hb2 1).trans x1
      have HB2 := Lib.hid (HB1.out.trans (hb2.mono HB1.out.size))
      clear hb2
      go_wp2_with fail
      refine (fmtInt_any iv hi1 hi2 w2 (HG.out.below HB2.out (Nat.le_refl _))).mono ?_
      rintro e w3 ⟨rfl, hb3⟩
      have HB3 := Lib.hid (HB2.out.trans (hb3.mono HB2.out.size))
      clear hb3
      go_wp2_with fail
      go_ret
      exact ⟨rfl, HB3.out⟩
    · clear h4
      go_enter Tryz.func20, Tryz.ntmps20
      go_upto_region 1 with (fail)
      rw [← HW1.out]
      go_wp2_with fail
      refine (HM.out w1).mono ?_
      rintro e w2 ⟨rfl, hb2⟩
      have x0 := (HC.out w2 hb2 0).trans x0
      have x2 := (HC.out w2 hb2 2).trans x2
      have HB2 := Lib.hid (HB1.out.trans (hb2.mono HB1.out.size))
      clear hb2
      go_wp2_with fail
      refine (real_any rl hrl w2 (HG.out.below HB2.out (Nat.le_refl _))).mono ?_
      rintro e w3 ⟨rfl, hb3⟩
      have HB3 := Lib.hid (HB2.out.trans (hb3.mono HB2.out.size))
      clear hb3
      go_wp2_with fail
      go_ret
      exact ⟨rfl, HB3.out⟩
    · clear h4
      have hl1 := realT_len hre
      have hl2 := realT_len him
      have hr1 := fun W hW => real_any re hre W hW
      have hr2 := fun W hW => real_any im him W hW
      generalize realT re = s1 at hl1 hr1 ⊢
      generalize realT im = s2 at hl2 hr2 ⊢
      have HR1 := Lib.hid hr1
      have HR2 := Lib.hid hr2
      clear hr1 hr2
      have z1 : (⟨#[40]⟩ : ByteArray).size = 1 := rfl
      have z2 : (⟨#[44]⟩ : ByteArray).size = 1 := rfl
      have z3 : (⟨#[41]⟩ : ByteArray).size = 1 := rfl
      have A1 : ∀ W : World, (Op.stringOp .add ⟨#[40]⟩ s1).run Tryz.prog W = .ok (.string (⟨#[40]⟩ ++ s1)) W := fun W => run_string_add_sum W _ _ (by omega)
      have A2 : ∀ W : World, (Op.stringOp .add (⟨#[40]⟩ ++ s1) ⟨#[44]⟩).run Tryz.prog W = .ok (.string ((⟨#[40]⟩ ++ s1) ++ ⟨#[44]⟩)) W := fun W => run_string_add_sum W _ _ (by rw [size_cat]; omega)
      have A3 : ∀ W : World, (Op.stringOp .add ((⟨#[40]⟩ ++ s1) ++ ⟨#[44]⟩) s2).run Tryz.prog W = .ok (.string (((⟨#[40]⟩ ++ s1) ++ ⟨#[44]⟩) ++ s2)) W := fun W => run_string_add_sum W _ _ (by rw [size_cat, size_cat]; omega)
      have A4 : ∀ W : World, (Op.stringOp .add (((⟨#[40]⟩ ++ s1) ++ ⟨#[44]⟩) ++ s2) ⟨#[41]⟩).run Tryz.prog W = .ok (.string ((((⟨#[40]⟩ ++ s1) ++ ⟨#[44]⟩) ++ s2) ++ ⟨#[41]⟩)) W := fun W => run_string_add_sum W _ _ (by rw [size_cat, size_cat, size_cat]; omega)
      clear z1 z2 z3 hl1 hl2
      go_enter Tryz.func20, Tryz.ntmps20
      go_upto_region 1 with (fail)
      rw [← HW1.out]
      go_wp2_with fail
      refine (HM.out w1).mono ?_
      rintro e w2 ⟨rfl, hb2⟩
      have x0 := (HC.out w2 hb2 0).trans x0
      have x3' := x3
      have x3 := (HC.out w2 hb2 3).trans x3
      have HB2 := Lib.hid (HB1.out.trans (hb2.mono HB1.out.size))
      have X3 := Lib.hid x3'
      have HBa := Lib.hid hb2
      clear hb2
      go_wp2_with fail
      go_region_held3 (fun W => W.cell? ⟨w.heap.size, 3, none⟩ = some (.complex .f64 re im))
        (first | assumption | go_keep)
        (first
          | (go_at_call 41; with_reducible refine (HR1.out w2.drew (HG.out.below (HB2.out.drew) (Nat.le_refl _))).mono ?_; rintro e w3 ⟨rfl, hb3⟩; have b3 := (HBa.out.drew).trans (hb3.mono (HBa.out.drew).size); have z3 := (HC.out w3 b3 3).trans X3.out; have HBb := Lib.hid b3; clear hb3 b3)
          | (go_at_call 41; with_reducible refine (HR2.out w3 (HG.out.below (HB1.out.trans (HBb.out.mono HB1.out.size)) (Nat.le_refl _))).mono ?_; rintro e w4 ⟨rfl, hb4⟩; have b4 := HBb.out.trans (hb4.mono HBb.out.size); have z4 := (HC.out w4 b4 3).trans X3.out; have HBc := Lib.hid (HB1.out.trans (b4.mono HB1.out.size)); clear hb4 b4))
      all_goals
        go_wp2_with fail
        go_ret
        exact ⟨rfl, HBc.out⟩
    · have h4' := h4 rfl
      clear h4
      go_enter Tryz.func20, Tryz.ntmps20
      go_upto_region 1 with (fail)
      rw [← HW1.out]
      go_wp2_with fail
      refine (HM.out w1).mono ?_
      rintro e w2 ⟨rfl, hb2⟩
      have x0 := (HC.out w2 hb2 0).trans x0
      have x4 := (HC.out w2 hb2 4).trans x4
      have HB2 := Lib.hid (HB1.out.trans (hb2.mono HB1.out.size))
      clear hb2
      go_wp2_with fail
      refine (vquote_any tx w2 h4').mono ?_
      rintro e w3 ⟨rfl, hb3⟩
      have HB3 := Lib.hid (HB2.out.trans (hb3.mono HB2.out.size))
      clear hb3
      go_wp2_with fail
      go_ret
      exact ⟨rfl, HB3.out⟩
    · clear h4
      by_cases hi0 : iv = 0
      · subst hi0
        go_enter Tryz.func20, Tryz.ntmps20
        go_upto_region 1 with (fail)
        rw [← HW1.out]
        go_wp2_with fail
        refine (HM.out w1).mono ?_
        rintro e w2 ⟨rfl, hb2⟩
        have x0 := (HC.out w2 hb2 0).trans x0
        have x1 := (HC.out w2 hb2 1).trans x1
        have HB2 := Lib.hid (HB1.out.trans (hb2.mono HB1.out.size))
        clear hb2
        go_wp2_with fail
        go_ret
        exact ⟨rfl, HB2.out⟩
      · have t0 : (iv == 0) = false := by simpa using hi0
        have HI := Lib.hid hi0
        clear hi0
        rw [if_neg (by decide), if_neg (by decide), if_neg (by decide), if_neg (by decide), if_neg HI.out]
        go_enter Tryz.func20, Tryz.ntmps20
        go_upto_region 1 with (fail)
        rw [← HW1.out]
        go_wp2_with fail
        refine (HM.out w1).mono ?_
        rintro e w2 ⟨rfl, hb2⟩
        have x0 := (HC.out w2 hb2 0).trans x0
        have x1 := (HC.out w2 hb2 1).trans x1
        have HB2 := Lib.hid (HB1.out.trans (hb2.mono HB1.out.size))
        clear hb2
        go_wp2_with fail
        go_ret
        exact ⟨rfl, HB2.out⟩
end Go.Proofs.YtofjbakepneilaaGreatDoor
