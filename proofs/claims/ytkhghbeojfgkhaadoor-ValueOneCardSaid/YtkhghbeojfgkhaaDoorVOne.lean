/- ValueOne's walk. -/
import Derived.Test.YtkhghbeojfgkhaaDoorVAwake
namespace Go.Proofs.YtkhghbeojfgkhaaDoor
open Go.RowKit Go.Shelf
set_option maxRecDepth 100000

set_option maxHeartbeats 4000000 in
theorem vone_any (s : ByteArray) (w : World) (hm : s.size ≤ 140737488355328) (hG : GlobV w) : Calls Tryd.prog 6 #[.string s] w fun e w' => e = .returned (.bool true) ∧ Below w.heap.size w w' := by
  have sf : ∀ (p : Addr) (b : Nat) (mo : Mode) (w' : World), (store p (.float .f64 b) mo).run Tryd.prog w' = stored Tryd.prog w' p (.float .f64 b) mo := fun p b mo w' => run_store _ w' p _ mo rfl
  have sc : ∀ (p : Addr) (b c : Nat) (mo : Mode) (w' : World), (store p (.complex .f64 b c) mo).run Tryd.prog w' = stored Tryd.prog w' p (.complex .f64 b c) mo := fun p b c mo w' => run_store _ w' p _ mo rfl
  have o0 : (FloatKind.f64.format.order 0 0 == some Ordering.eq) = true := by decide
  have HG := Lib.hid hG
  clear hG
  go_enter Tryd.func6, Tryd.ntmps6
  go_upto_region 3 with (go_at_call 16; refine (vawake_any _ HG.out).mono ?_; rintro e w1 ⟨rfl, hb1⟩)
  have HG1 := Lib.hid (HG.out.below hb1 (Nat.le_refl _))
  have HB1 := Lib.hid hb1
  clear hb1
  go_upto_region 4 with (go_at_call 17; refine (parse_any s _ hm HG1.out).mono ?_; rintro e w2 ⟨he, hb2⟩; rcases he with rfl | ⟨kd, iv, rl, re, im, tx, hwf, hmay, hpt, rfl⟩ <;> unfold valV)
  · go_wp2_with fail
    go_ret
    exact ⟨rfl, (HB1.out.trans (hb2.mono HB1.out.size)).alloc (Nat.le_trans HB1.out.size hb2.size) _⟩
  · have HG2 := Lib.hid (HG1.out.below hb2 (Nat.le_refl _))
    have HB2 := Lib.hid (HB1.out.trans (hb2.mono HB1.out.size))
    have HWF := Lib.hid hwf
    have HPT := Lib.hid hpt
    have hM := fun W => may_any kd iv rl re im tx W
    rw [hmay] at hM
    have hP := fun W hW => print_any kd iv rl re im tx W hW HWF.out
    unfold valV at hM hP
    have HM := Lib.hid hM
    have he : ((printT kd iv rl re im tx).toList == s.toList) = true := by rw [hpt]; exact beq_self_eq_true _
    generalize printT kd iv rl re im tx = p at hP he HPT
    have HP := Lib.hid hP
    obtain ⟨W3, hW3⟩ : ∃ W3, W3 = w2.alloc (.cells #[.int .i64 kd, .int .i64 iv, .float .f64 rl, .complex .f64 re im, .string tx] 47) := ⟨_, rfl⟩
    have hb3 : Below w2.heap.size w2 W3 := by rw [hW3]; exact (Below.refl _ _).alloc (Nat.le_refl _) _
    have hv3 : Box5 W3 w2.heap.size (.int .i64 kd) (.int .i64 iv) (.float .f64 rl) (.complex .f64 re im) (.string tx) := by rw [hW3]; exact heap_alloc_new _ _
    have HG3 := Lib.hid (HG2.out.below hb3 (Nat.le_refl _))
    have HB3 := Lib.hid (HB2.out.trans (hb3.mono HB2.out.size))
    have HV3 := Lib.hid hv3
    clear hM hP hwf hmay hpt hb2 hb3 hv3
    go_upto_region 4 with (fail)
    rw [← hW3]
    clear hW3
    have qc0 := HV3.out.c0
    have qc1 := HV3.out.c1
    have qc2 := HV3.out.c2
    have qc3 := HV3.out.c3
    have qc4 := HV3.out.c4
    have qlt := HV3.out.lt
    go_wp2_with (first
      | (go_at_call 18; refine (HM.out _).mono ?_; rintro e w4 ⟨rfl, hb4⟩; have HB4 := Lib.hid (HB3.out.trans (hb4.mono HB3.out.size)); have HV4 := Lib.hid (HV3.out.keep hb4 qlt); have HG4 := Lib.hid (HG3.out.below hb4 (Nat.le_refl _)); clear hb4; have rc0 := HV4.out.c0; have rc1 := HV4.out.c1; have rc2 := HV4.out.c2; have rc3 := HV4.out.c3; have rc4 := HV4.out.c4; have rlt := HV4.out.lt)
      | (go_at_call 19; refine (HP.out _ HG4.out).mono ?_; rintro e w5 ⟨rfl, hb5⟩; have HB5 := Lib.hid (HB4.out.trans (hb5.mono HB4.out.size)); clear hb5))
    go_ret
    exact ⟨rfl, HB5.out⟩
end Go.Proofs.YtkhghbeojfgkhaaDoor
