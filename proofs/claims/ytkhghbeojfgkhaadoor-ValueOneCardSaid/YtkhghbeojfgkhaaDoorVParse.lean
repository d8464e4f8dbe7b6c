/- Parse: what it tells is what is written again, or nothing. -/
import Derived.Test.YtkhghbeojfgkhaaDoorVRead3
namespace Go.Proofs.YtkhghbeojfgkhaaDoor
open Go.RowKit Go.Shelf
set_option maxRecDepth 100000

/-- what Parse tells of s -/
def Ps (s : ByteArray) (w : World) (e : Ending) (w' : World) : Prop :=
  (e = .returned (.tuple #[valV 0 0 0 0 0 ⟨#[]⟩, .int .i64 20]) ∨ ∃ kd iv rl re im tx, WfV iv rl re im ∧ mayB kd iv tx = true ∧ (printT kd iv rl re im tx).toList = s.toList ∧ e = .returned (.tuple #[valV kd iv rl re im tx, .int .i64 0])) ∧ Below w.heap.size w w'
set_option maxHeartbeats 8000000 in
theorem parse_any (s : ByteArray) (w : World) (hm : s.size ≤ 140737488355328) (hG : GlobV w) : Calls Tryd.prog 17 #[.string s] w (Ps s w) := by
  have sf : ∀ (p : Addr) (b : Nat) (mo : Mode) (w' : World), (store p (.float .f64 b) mo).run Tryd.prog w' = stored Tryd.prog w' p (.float .f64 b) mo := fun p b mo w' => run_store _ w' p _ mo rfl
  have sc : ∀ (p : Addr) (b c : Nat) (mo : Mode) (w' : World), (store p (.complex .f64 b c) mo).run Tryd.prog w' = stored Tryd.prog w' p (.complex .f64 b c) mo := fun p b c mo w' => run_store _ w' p _ mo rfl
  obtain ⟨W0, hW0⟩ : ∃ W0, W0 = w.alloc (.cells #[.int .i64 0, .int .i64 0, .float .f64 0, .complex .f64 0 0, .string ⟨#[]⟩] 47) := ⟨_, rfl⟩
  have hB0 : Below w.heap.size w W0 := by rw [hW0]; exact (Below.refl w.heap.size w).alloc (Nat.le_refl _) _
  have hb0 : Box5 W0 w.heap.size (.int .i64 0) (.int .i64 0) (.float .f64 0) (.complex .f64 0 0) (.string ⟨#[]⟩) := by rw [hW0]; exact heap_alloc_new _ _
  have HW0 := Lib.hid hW0
  have HB0 := Lib.hid hB0
  have HX0 := Lib.hid hb0
  have HG0 := Lib.hid (hG.below hB0 (Nat.le_refl _))
  have hz : w.heap.size < W0.heap.size := hb0.lt
  have HU := Lib.hid (read_any s W0 hm HG0.out.1)
  clear hW0 hB0 hb0 hG
  go_enter Tryd.func17, Tryd.ntmps17
  go_upto_region 1 with (fail)
  rw [← HW0.out]
  go_upto_region 2 with (go_at_call 27; refine HU.out.mono ?_; rintro e w1 ⟨⟨kd, iv, rl, re, im, tx, hwf, rfl⟩, hb1⟩; unfold valV)
  have hzw : w.heap.size < w1.heap.size := Nat.lt_of_lt_of_le hz hb1.size
  obtain ⟨W2, hW2⟩ : ∃ W2, W2 = w1.alloc (.cells #[.int .i64 kd, .int .i64 iv, .float .f64 rl, .complex .f64 re im, .string tx] 47) := ⟨_, rfl⟩
  have hb2 : Below W0.heap.size W0 W2 := by rw [hW2]; exact hb1.alloc hb1.size _
  have hv2 : Box5 W2 w1.heap.size (.int .i64 kd) (.int .i64 iv) (.float .f64 rl) (.complex .f64 re im) (.string tx) := by rw [hW2]; exact heap_alloc_new _ _
  rw [← hW2]
  have HB2 := Lib.hid (HB0.out.trans (hb2.mono HB0.out.size))
  have HX2 := Lib.hid (HX0.out.keep hb2 hz)
  have HG2 := Lib.hid (HG0.out.below hb2 (Nat.le_refl _))
  have HV2 := Lib.hid hv2
  have hvl := hv2.lt
  have hM := fun W => may_any kd iv rl re im tx W
  unfold valV at hM
  have HWF := Lib.hid hwf
  clear hb1 hW2 hb2 hv2 hwf
  have pf0 := HX2.out.fz 0
  have pf1 := HX2.out.fz 1
  have pf2 := HX2.out.fz 2
  have pf3 := HX2.out.fz 3
  have pf4 := HX2.out.fz 4
  have pc0 := HX2.out.c0
  have pc1 := HX2.out.c1
  have pc2 := HX2.out.c2
  have pc3 := HX2.out.c3
  have pc4 := HX2.out.c4
  have plt := HX2.out.lt
  have qf0 := HV2.out.fz 0
  have qf1 := HV2.out.fz 1
  have qf2 := HV2.out.fz 2
  have qf3 := HV2.out.fz 3
  have qf4 := HV2.out.fz 4
  have qc0 := HV2.out.c0
  have qc1 := HV2.out.c1
  have qc2 := HV2.out.c2
  have qc3 := HV2.out.c3
  have qc4 := HV2.out.c4
  have qlt := HV2.out.lt
  cases hmay : mayB kd iv tx with
  | false =>
    rw [hmay] at hM
    have HM := Lib.hid hM
    clear hM hmay
    go_wp2_with (go_at_call 18; refine (HM.out _).mono ?_; rintro e w3 ⟨rfl, hb3⟩; have HB3 := Lib.hid (HB2.out.trans (hb3.mono HB2.out.size)); have HX3 := Lib.hid (HX2.out.keep hb3 plt); clear hb3; have rf0 := HX3.out.fz 0; have rf1 := HX3.out.fz 1; have rf2 := HX3.out.fz 2; have rf3 := HX3.out.fz 3; have rf4 := HX3.out.fz 4; have rc0 := HX3.out.c0; have rc1 := HX3.out.c1; have rc2 := HX3.out.c2; have rc3 := HX3.out.c3; have rc4 := HX3.out.c4; have rlt := HX3.out.lt)
    have Z := HX3.out.put (.int .i64 0) (.int .i64 0) (.float .f64 0) (.complex .f64 0 0) (.string ⟨#[]⟩)
    unfold put5 at Z
    have z0 := Z.c0
    have z1 := Z.c1
    have z2 := Z.c2
    have z3 := Z.c3
    have z4 := Z.c4
    exact bodyPost_ret (v := (.tuple #[valV 0 0 0 0 0 ⟨#[]⟩, .int .i64 20])) (by simp [results, Tryd.results17, go_sem, z0, z1, z2, z3, z4, valV]) rfl ⟨.inl rfl, below_put5 HB3.out (Nat.le_refl _) _ _ _ _ _⟩
  | true =>
    rw [hmay] at hM
    have HM := Lib.hid hM
    have HY := Lib.hid hmay
    have hP := fun W hW => print_any kd iv rl re im tx W hW HWF.out
    unfold valV at hP
    clear hM hmay
    obtain ⟨p, hp⟩ : ∃ p, p = printT kd iv rl re im tx := ⟨_, rfl⟩
    rw [← hp] at hP
    have HP := Lib.hid hP
    have HPT := Lib.hid hp
    clear hP hp
    cases he : (p.toList == s.toList) with
    | false =>
      have he' : (p.toList != s.toList) = true := by rw [bne, he]; rfl
      go_wp2_with (first
        | (go_at_call 18; refine (HM.out _).mono ?_; rintro e w3 ⟨rfl, hb3⟩; have HB3 := Lib.hid (HB2.out.trans (hb3.mono HB2.out.size)); have HX3 := Lib.hid (HX2.out.keep hb3 plt); have HV3 := Lib.hid (HV2.out.keep hb3 qlt); have HG3 := Lib.hid (HG2.out.below hb3 (Nat.le_refl _)); clear hb3; have rf0 := HX3.out.fz 0; have rf1 := HX3.out.fz 1; have rf2 := HX3.out.fz 2; have rf3 := HX3.out.fz 3; have rf4 := HX3.out.fz 4; have rc0 := HX3.out.c0; have rc1 := HX3.out.c1; have rc2 := HX3.out.c2; have rc3 := HX3.out.c3; have rc4 := HX3.out.c4; have rlt := HX3.out.lt; have sf0 := HV3.out.fz 0; have sf1 := HV3.out.fz 1; have sf2 := HV3.out.fz 2; have sf3 := HV3.out.fz 3; have sf4 := HV3.out.fz 4; have sc0 := HV3.out.c0; have sc1 := HV3.out.c1; have sc2 := HV3.out.c2; have sc3 := HV3.out.c3; have sc4 := HV3.out.c4; have slt := HV3.out.lt)
        | (go_at_call 19; refine (HP.out _ HG3.out).mono ?_; rintro e w4 ⟨rfl, hb4⟩; have HB4 := Lib.hid (HB3.out.trans (hb4.mono HB3.out.size)); have HX4 := Lib.hid (HX3.out.keep hb4 rlt); clear hb4; have tf0 := HX4.out.fz 0; have tf1 := HX4.out.fz 1; have tf2 := HX4.out.fz 2; have tf3 := HX4.out.fz 3; have tf4 := HX4.out.fz 4; have tc0 := HX4.out.c0; have tc1 := HX4.out.c1; have tc2 := HX4.out.c2; have tc3 := HX4.out.c3; have tc4 := HX4.out.c4; have tlt := HX4.out.lt))
      have Z := HX4.out.put (.int .i64 0) (.int .i64 0) (.float .f64 0) (.complex .f64 0 0) (.string ⟨#[]⟩)
      unfold put5 at Z
      have z0 := Z.c0
      have z1 := Z.c1
      have z2 := Z.c2
      have z3 := Z.c3
      have z4 := Z.c4
      exact bodyPost_ret (v := (.tuple #[valV 0 0 0 0 0 ⟨#[]⟩, .int .i64 20])) (by simp [results, Tryd.results17, go_sem, z0, z1, z2, z3, z4, valV]) rfl ⟨.inl rfl, below_put5 HB4.out (Nat.le_refl _) _ _ _ _ _⟩
    | true =>
      have he' : (p.toList != s.toList) = false := by rw [bne, he]; rfl
      have HE := Lib.hid (eq_of_beq he)
      go_wp2_with (first
        | (go_at_call 18; refine (HM.out _).mono ?_; rintro e w3 ⟨rfl, hb3⟩; have HB3 := Lib.hid (HB2.out.trans (hb3.mono HB2.out.size)); have HX3 := Lib.hid (HX2.out.keep hb3 plt); have HV3 := Lib.hid (HV2.out.keep hb3 qlt); have HG3 := Lib.hid (HG2.out.below hb3 (Nat.le_refl _)); clear hb3; have rf0 := HX3.out.fz 0; have rf1 := HX3.out.fz 1; have rf2 := HX3.out.fz 2; have rf3 := HX3.out.fz 3; have rf4 := HX3.out.fz 4; have rc0 := HX3.out.c0; have rc1 := HX3.out.c1; have rc2 := HX3.out.c2; have rc3 := HX3.out.c3; have rc4 := HX3.out.c4; have rlt := HX3.out.lt; have sf0 := HV3.out.fz 0; have sf1 := HV3.out.fz 1; have sf2 := HV3.out.fz 2; have sf3 := HV3.out.fz 3; have sf4 := HV3.out.fz 4; have sc0 := HV3.out.c0; have sc1 := HV3.out.c1; have sc2 := HV3.out.c2; have sc3 := HV3.out.c3; have sc4 := HV3.out.c4; have slt := HV3.out.lt)
        | (go_at_call 19; refine (HP.out _ HG3.out).mono ?_; rintro e w4 ⟨rfl, hb4⟩; have HB4 := Lib.hid (HB3.out.trans (hb4.mono HB3.out.size)); have HX4 := Lib.hid (HX3.out.keep hb4 rlt); have HV4 := Lib.hid (HV3.out.keep hb4 slt); clear hb4; have tf0 := HX4.out.fz 0; have tf1 := HX4.out.fz 1; have tf2 := HX4.out.fz 2; have tf3 := HX4.out.fz 3; have tf4 := HX4.out.fz 4; have tc0 := HX4.out.c0; have tc1 := HX4.out.c1; have tc2 := HX4.out.c2; have tc3 := HX4.out.c3; have tc4 := HX4.out.c4; have tlt := HX4.out.lt; have vf0 := HV4.out.fz 0; have vf1 := HV4.out.fz 1; have vf2 := HV4.out.fz 2; have vf3 := HV4.out.fz 3; have vf4 := HV4.out.fz 4; have vc0 := HV4.out.c0; have vc1 := HV4.out.c1; have vc2 := HV4.out.c2; have vc3 := HV4.out.c3; have vc4 := HV4.out.c4; have vlt := HV4.out.lt))
      have Z := HX4.out.put (.int .i64 kd) (.int .i64 iv) (.float .f64 rl) (.complex .f64 re im) (.string tx)
      unfold put5 at Z
      have z0 := Z.c0
      have z1 := Z.c1
      have z2 := Z.c2
      have z3 := Z.c3
      have z4 := Z.c4
      exact bodyPost_ret (v := (.tuple #[valV kd iv rl re im tx, .int .i64 0])) (by simp [results, Tryd.results17, go_sem, z0, z1, z2, z3, z4, valV]) rfl ⟨.inr ⟨_, _, _, _, _, _, HWF.out, HY.out, by rw [← HPT.out]; exact HE.out, rfl⟩, below_put5 HB4.out (Nat.le_refl _) _ _ _ _ _⟩
end Go.Proofs.YtkhghbeojfgkhaaDoor
