/- The reference's read: some value; and at a value's own text that value. -/
import Derived.Test.YtofjbakepneilaaGreatDoorRRead2
import Derived.Test.YtofjbakepneilaaGreatDoorRPrint
import Derived.Test.YtofjbakepneilaaGreatDoorMVRead2
namespace Go.Proofs.YtofjbakepneilaaGreatDoor
open Go.RowKit Go.Shelf
set_option maxRecDepth 100000

theorem realBits_le (m : Nat) (e : Int) (h2 : m < 9007199254740992) (he : -1074 ≤ e) : realBits m e ≤ 9218868437227405312 := by
  rcases Nat.eq_zero_or_pos m with rfl | h
  · rw [real_zeroN]; omega
  · by_cases hf : (m.log2 : Int) + 1 + e ≤ 1024
    · obtain ⟨h3, _⟩ := read_real m e h h2 he hf
      omega
    · rw [real_inf m e h h2 he hf]; omega
theorem wM_lt {sg : Nat} {dn : Bool} {A B : Option Nat} {r : Nat} (hs : sg ≤ 9223372036854775808) (h : wM sg dn A B = some r) : r < 18446744073709551616 := by
  rcases A with _ | m
  · cases h
  rcases B with _ | e
  · cases h
  rw [wM_some] at h
  by_cases hc : 9007199254740992 ≤ m ∨ 1074 < e
  · rw [if_pos hc] at h; cases h
  · rw [if_neg hc] at h
    have := Option.some.inj h
    have hb := realBits_le m (if dn = true then -(e : Int) else e) (by omega) (by split <;> omega)
    omega
theorem wG_lt {sg : Nat} {l : List UInt8} {r : Nat} (hs : sg ≤ 9223372036854775808) (h : wG sg l = some r) : r < 18446744073709551616 := by
  unfold wG at h
  split at h
  · have := Option.some.inj h; omega
  · split at h
    · cases h
    · exact wM_lt hs h
theorem wF_lt {l : List UInt8} {r : Nat} (h : wF l = some r) : r < 18446744073709551616 := by
  unfold wF at h
  split at h
  · have := Option.some.inj h; omega
  · split at h
    · exact wG_lt (by omega) h
    · exact wG_lt (by omega) h
theorem wF_getD_lt (l : List UInt8) : (wF l).getD 0 < 18446744073709551616 := by
  cases h : wF l with
  | none => simp
  | some r => exact wF_lt h
/-- a text that looks like no text and no complex number -/
theorem rread_num (s : ByteArray) (w : World) (hm : s.size ≤ 140737488355328) (n1 : (s.toList == [116, 114, 117, 101]) = false) (n2 : (s.toList == [102, 97, 108, 115, 101]) = false)
    (ht : ∀ N, (hs : s.size = N + 1) → 1 ≤ N → ¬ (s[0]'(by omega) = 34 ∧ s[N]'(by omega) = 34)) (hc : ∀ N, (hs : s.size = N + 1) → 1 ≤ N → ¬ (s[0]'(by omega) = 40 ∧ s[N]'(by omega) = 41)) :
    Calls Tryz.prog 21 #[.string s] w fun e w' => NumP s.data.toList e ∧ Below w.heap.size w w' := by
  rcases Nat.eq_zero_or_pos s.size with h0 | hpos
  · exact rread_num0 s w h0 hm n1 n2
  obtain ⟨N, hs⟩ : ∃ N, s.size = N + 1 := ⟨s.size - 1, by omega⟩
  have ht := ht N hs
  have hc := hc N hs
  rcases Nat.eq_zero_or_pos N with hN | hN
  · by_cases h45 : s[0]'(by omega) = 45
    · exact rread_num1 s w N hs (Lib.hid hN) h45 hm n1 n2
    · exact rread_num2 s w N hs (Lib.hid hN) h45 hm n1 n2
  · have ht := ht hN
    have hc := hc hN
    by_cases h45 : s[0]'(by omega) = 45
    · exact rread_num3 s w N hs hN h45 hm n1 n2
    · by_cases h34 : s[0]'(by omega) = 34
      · exact rread_num5 s w N hs hN h34 (fun h => ht ⟨h34, h⟩) hm n1 n2
      · by_cases h40 : s[0]'(by omega) = 40
        · exact rread_num6 s w N hs hN h40 (fun h => hc ⟨h40, h⟩) hm n1 n2
        · exact rread_num4 s w N hs hN h45 h34 h40 hm n1 n2
/-- what read tells is some value -/
theorem rread_all (s : ByteArray) (w : World) (hm : s.size ≤ 140737488355328) :
    Calls Tryz.prog 21 #[.string s] w fun e w' => (∃ kd iv rl re im tx ok, (WfV iv rl re im ∧ True) ∧ e = .returned (.tuple #[valV kd iv rl re im tx, .bool ok])) ∧ Below w.heap.size w w' := by
  have w0 : WfV 0 0 0 0 := wf0
  cases n1 : (s.toList == [116, 114, 117, 101]) with
  | true =>
    have e1 : s.data.toList = [116, 114, 117, 101] := by rw [← tl_data]; exact eq_of_beq n1
    have e2 : s = ⟨#[116, 114, 117, 101]⟩ := ba_eq e1
    rw [e2]
    refine (rread_true w).mono ?_
    rintro e w' ⟨rfl, hb⟩
    exact ⟨⟨_, _, _, _, _, _, _, ⟨⟨⟨by decide, by decide⟩, by decide, by decide, by decide⟩, trivial⟩, rfl⟩, hb⟩
  | false =>
  cases n2 : (s.toList == [102, 97, 108, 115, 101]) with
  | true =>
    have e1 : s.data.toList = [102, 97, 108, 115, 101] := by rw [← tl_data]; exact eq_of_beq n2
    have e2 : s = ⟨#[102, 97, 108, 115, 101]⟩ := ba_eq e1
    rw [e2]
    refine (rread_false w).mono ?_
    rintro e w' ⟨rfl, hb⟩
    exact ⟨⟨_, _, _, _, _, _, _, ⟨w0, trivial⟩, rfl⟩, hb⟩
  | false =>
  by_cases ht : ∃ N, ∃ hs : s.size = N + 1, 1 ≤ N ∧ s[0]'(by omega) = 34 ∧ s[N]'(by omega) = 34
  · obtain ⟨N, hs, hN, h0, h1⟩ := ht
    refine (rread_text s w N hs hN hm n1 n2 h0 h1).mono ?_
    rintro e w' ⟨rfl, hb⟩
    refine ⟨?_, hb⟩
    cases uqF N ((s.data.toList.take N).drop 1) [] with
    | none => exact ⟨_, _, _, _, _, _, _, ⟨w0, trivial⟩, rfl⟩
    | some out => exact ⟨_, _, _, _, _, _, _, ⟨w0, trivial⟩, rfl⟩
  by_cases hc : ∃ N, ∃ hs : s.size = N + 1, 1 ≤ N ∧ s[0]'(by omega) = 40 ∧ s[N]'(by omega) = 41
  · obtain ⟨N, hs, hN, h0, h1⟩ := hc
    refine (rread_comp s w N hs hN hm n1 n2 h0 h1).mono ?_
    rintro e w' ⟨he, hb⟩
    refine ⟨?_, hb⟩
    rcases he with ⟨_, rfl⟩ | ⟨k, _, rfl⟩
    · exact ⟨_, _, _, _, _, _, _, ⟨w0, trivial⟩, rfl⟩
    · exact ⟨_, _, _, _, _, _, _, ⟨⟨⟨by decide, by decide⟩, by decide, wF_getD_lt _, wF_getD_lt _⟩, trivial⟩, rfl⟩
  refine (rread_num s w hm n1 n2 (fun N hs hN h => ht ⟨N, hs, hN, h⟩) (fun N hs hN h => hc ⟨N, hs, hN, h⟩)).mono ?_
  rintro e w' ⟨he, hb⟩
  refine ⟨?_, hb⟩
  rcases he with ⟨n, _, _, hn, rfl⟩ | ⟨n, _, _, hn, rfl⟩ | ⟨_, rfl⟩
  · exact ⟨_, _, _, _, _, _, _, ⟨⟨⟨by omega, by omega⟩, by decide, by decide, by decide⟩, trivial⟩, rfl⟩
  · exact ⟨_, _, _, _, _, _, _, ⟨⟨⟨by omega, by omega⟩, by decide, by decide, by decide⟩, trivial⟩, rfl⟩
  · exact ⟨_, _, _, _, _, _, _, ⟨⟨⟨by decide, by decide⟩, wF_getD_lt _, by decide, by decide⟩, trivial⟩, rfl⟩
end Go.Proofs.YtofjbakepneilaaGreatDoor
/- Parse, where read tells a value whose text it is. -/
namespace Go.Proofs.YtofjbakepneilaaGreatDoor
open Go.RowKit Go.Shelf
set_option maxRecDepth 100000

set_option maxHeartbeats 8000000 in
theorem parse_of (Q : Int → Int → Nat → Nat → Nat → ByteArray → Prop) (s : ByteArray) (w : World) (hG : GlobV w)
    (hr : ∀ W, Glob W → Calls Tryz.prog 18 #[.string s] W fun e w' => (∃ kd iv rl re im tx, (WfV iv rl re im ∧ mayB kd iv tx = true ∧ printT kd iv rl re im tx = s ∧ Q kd iv rl re im tx) ∧ e = .returned (valV kd iv rl re im tx)) ∧ Below W.heap.size W w') :
    Calls Tryz.prog 5 #[.string s] w fun e w' => (∃ kd iv rl re im tx, Q kd iv rl re im tx ∧ e = .returned (.tuple #[valV kd iv rl re im tx, .int .i64 0])) ∧ Below w.heap.size w w' := by
  have sf : ∀ (p : Addr) (b : Nat) (mo : Mode) (w' : World), (store p (.float .f64 b) mo).run Tryz.prog w' = stored Tryz.prog w' p (.float .f64 b) mo := fun p b mo w' => run_store _ w' p _ mo rfl
  have sc : ∀ (p : Addr) (b c : Nat) (mo : Mode) (w' : World), (store p (.complex .f64 b c) mo).run Tryz.prog w' = stored Tryz.prog w' p (.complex .f64 b c) mo := fun p b c mo w' => run_store _ w' p _ mo rfl
  obtain ⟨W0, hW0⟩ : ∃ W0, W0 = w.alloc (.cells #[.int .i64 0, .int .i64 0, .float .f64 0, .complex .f64 0 0, .string ⟨#[]⟩] 25) := ⟨_, rfl⟩
  have hB0 : Below w.heap.size w W0 := by rw [hW0]; exact (Below.refl w.heap.size w).alloc (Nat.le_refl _) _
  have hb0 : Box5 W0 w.heap.size (.int .i64 0) (.int .i64 0) (.float .f64 0) (.complex .f64 0 0) (.string ⟨#[]⟩) := by rw [hW0]; exact heap_alloc_new _ _
  have HW0 := Lib.hid hW0
  have HB0 := Lib.hid hB0
  have HX0 := Lib.hid hb0
  have HG0 := Lib.hid (hG.below hB0 (Nat.le_refl _))
  have hz : w.heap.size < W0.heap.size := hb0.lt
  have HU := Lib.hid (hr W0 HG0.out.1)
  clear hr
  clear hW0 hB0 hb0 hG
  go_enter Tryz.func5, Tryz.ntmps5
  go_upto_region 1 with (fail)
  rw [← HW0.out]
  go_upto_region 2 with (go_at_call 18; refine HU.out.mono ?_; rintro e w1 ⟨⟨kd, iv, rl, re, im, tx, ⟨hwf, hmay, hpt, hQ⟩, rfl⟩, hb1⟩; unfold valV)
  have HQ := Lib.hid hQ
  clear hQ
  have hzw : w.heap.size < w1.heap.size := Nat.lt_of_lt_of_le hz hb1.size
  obtain ⟨W2, hW2⟩ : ∃ W2, W2 = w1.alloc (.cells #[.int .i64 kd, .int .i64 iv, .float .f64 rl, .complex .f64 re im, .string tx] 25) := ⟨_, rfl⟩
  have hb2 : Below W0.heap.size W0 W2 := by rw [hW2]; exact hb1.alloc hb1.size _
  have hv2 : Box5 W2 w1.heap.size (.int .i64 kd) (.int .i64 iv) (.float .f64 rl) (.complex .f64 re im) (.string tx) := by rw [hW2]; exact heap_alloc_new _ _
  rw [← hW2]
  have HB2 := Lib.hid (HB0.out.trans (hb2.mono HB0.out.size))
  have HX2 := Lib.hid (HX0.out.keep hb2 hz)
  have HG2 := Lib.hid (HG0.out.below hb2 (Nat.le_refl _))
  have HV2 := Lib.hid hv2
  have hvl := hv2.lt
  have hM := fun W => may_any kd iv rl re im tx W
  unfold valV at hM
  have HWF := Lib.hid hwf
  clear hb1 hW2 hb2 hv2 hwf
  have pf0 := HX2.out.fz 0
  have pf1 := HX2.out.fz 1
  have pf2 := HX2.out.fz 2
  have pf3 := HX2.out.fz 3
  have pf4 := HX2.out.fz 4
  have pc0 := HX2.out.c0
  have pc1 := HX2.out.c1
  have pc2 := HX2.out.c2
  have pc3 := HX2.out.c3
  have pc4 := HX2.out.c4
  have plt := HX2.out.lt
  have qf0 := HV2.out.fz 0
  have qf1 := HV2.out.fz 1
  have qf2 := HV2.out.fz 2
  have qf3 := HV2.out.fz 3
  have qf4 := HV2.out.fz 4
  have qc0 := HV2.out.c0
  have qc1 := HV2.out.c1
  have qc2 := HV2.out.c2
  have qc3 := HV2.out.c3
  have qc4 := HV2.out.c4
  have qlt := HV2.out.lt
  rw [hmay] at hM
  have HM := Lib.hid hM
  have HY := Lib.hid hmay
  have hP := fun W hW => print_any kd iv rl re im tx W hW HWF.out
  unfold valV at hP
  clear hM hmay
  obtain ⟨p, hp⟩ : ∃ p, p = printT kd iv rl re im tx := ⟨_, rfl⟩
  rw [← hp] at hP
  have HP := Lib.hid hP
  rw [hpt] at hp
  have he : (p.toList == s.toList) = true := by rw [hp]; exact beq_self_eq_true _
  clear hP hp
  have he' : (p.toList != s.toList) = false := by rw [bne, he]; rfl
  go_wp2_with (first
    | (go_at_call 19; refine (HM.out _).mono ?_; rintro e w3 ⟨rfl, hb3⟩; have HB3 := Lib.hid (HB2.out.trans (hb3.mono HB2.out.size)); have HX3 := Lib.hid (HX2.out.keep hb3 plt); have HV3 := Lib.hid (HV2.out.keep hb3 qlt); have HG3 := Lib.hid (HG2.out.below hb3 (Nat.le_refl _)); clear hb3; have rf0 := HX3.out.fz 0; have rf1 := HX3.out.fz 1; have rf2 := HX3.out.fz 2; have rf3 := HX3.out.fz 3; have rf4 := HX3.out.fz 4; have rc0 := HX3.out.c0; have rc1 := HX3.out.c1; have rc2 := HX3.out.c2; have rc3 := HX3.out.c3; have rc4 := HX3.out.c4; have rlt := HX3.out.lt; have sf0 := HV3.out.fz 0; have sf1 := HV3.out.fz 1; have sf2 := HV3.out.fz 2; have sf3 := HV3.out.fz 3; have sf4 := HV3.out.fz 4; have sc0 := HV3.out.c0; have sc1 := HV3.out.c1; have sc2 := HV3.out.c2; have sc3 := HV3.out.c3; have sc4 := HV3.out.c4; have slt := HV3.out.lt)
    | (go_at_call 20; refine (HP.out _ HG3.out).mono ?_; rintro e w4 ⟨rfl, hb4⟩; have HB4 := Lib.hid (HB3.out.trans (hb4.mono HB3.out.size)); have HX4 := Lib.hid (HX3.out.keep hb4 rlt); have HV4 := Lib.hid (HV3.out.keep hb4 slt); clear hb4; have tf0 := HX4.out.fz 0; have tf1 := HX4.out.fz 1; have tf2 := HX4.out.fz 2; have tf3 := HX4.out.fz 3; have tf4 := HX4.out.fz 4; have tc0 := HX4.out.c0; have tc1 := HX4.out.c1; have tc2 := HX4.out.c2; have tc3 := HX4.out.c3; have tc4 := HX4.out.c4; have tlt := HX4.out.lt; have vf0 := HV4.out.fz 0; have vf1 := HV4.out.fz 1; have vf2 := HV4.out.fz 2; have vf3 := HV4.out.fz 3; have vf4 := HV4.out.fz 4; have vc0 := HV4.out.c0; have vc1 := HV4.out.c1; have vc2 := HV4.out.c2; have vc3 := HV4.out.c3; have vc4 := HV4.out.c4; have vlt := HV4.out.lt))
  have Z := HX4.out.put (.int .i64 kd) (.int .i64 iv) (.float .f64 rl) (.complex .f64 re im) (.string tx)
  unfold put5 at Z
  have z0 := Z.c0
  have z1 := Z.c1
  have z2 := Z.c2
  have z3 := Z.c3
  have z4 := Z.c4
  exact bodyPost_ret (v := (.tuple #[valV kd iv rl re im tx, .int .i64 0])) (by simp [results, Tryz.results5, go_sem, z0, z1, z2, z3, z4, valV]) rfl ⟨⟨_, _, _, _, _, _, HQ.out, rfl⟩, below_put5 HB4.out (Nat.le_refl _) _ _ _ _ _⟩
end Go.Proofs.YtofjbakepneilaaGreatDoor
/- The reference's Parse. -/
namespace Go.Proofs.YtofjbakepneilaaGreatDoor
open Go.RowKit Go.Shelf
set_option maxRecDepth 100000

set_option maxHeartbeats 1000000 in
theorem rparse_long (s : ByteArray) (w : World) (hs : 1026 < s.size) (hm : s.size ≤ 140737488355328) : Calls Tryz.prog 6 #[.string s] w fun e w' => e = .returned (.tuple #[valV 0 0 0 0 0 ⟨#[]⟩, .int .i64 20]) ∧ Below w.heap.size w w' := by
  have sf : ∀ (p : Addr) (b : Nat) (mo : Mode) (w' : World), (store p (.float .f64 b) mo).run Tryz.prog w' = stored Tryz.prog w' p (.float .f64 b) mo := fun p b mo w' => run_store _ w' p _ mo rfl
  have sc : ∀ (p : Addr) (b c : Nat) (mo : Mode) (w' : World), (store p (.complex .f64 b c) mo).run Tryz.prog w' = stored Tryz.prog w' p (.complex .f64 b c) mo := fun p b c mo w' => run_store _ w' p _ mo rfl
  obtain ⟨W0, hW0, hB0, hb0⟩ := boxed w
  have HW0 := Lib.hid hW0
  have HB := Lib.hid hB0
  have HX := Lib.hid hb0
  have hz : w.heap.size < W0.heap.size := hb0.lt
  have d1 : decide ((1026 : Int) < (s.size : Int)) = true := decide_eq_true (by omega)
  clear hW0 hB0 hb0
  have f0 := HX.out.fz 0
  have f1 := HX.out.fz 1
  have f2 := HX.out.fz 2
  have f3 := HX.out.fz 3
  have f4 := HX.out.fz 4
  have c0 := HX.out.c0
  have c1 := HX.out.c1
  have c2 := HX.out.c2
  have c3 := HX.out.c3
  have c4 := HX.out.c4
  have hlt := HX.out.lt
  go_enter Tryz.func6, Tryz.ntmps6
  go_upto_region 1 with (fail)
  rw [← HW0.out]
  go_wp2_with fail
  have Z := HX.out.put (.int .i64 0) (.int .i64 0) (.float .f64 0) (.complex .f64 0 0) (.string ⟨#[]⟩)
  unfold put5 at Z
  have z0 := Z.c0
  have z1 := Z.c1
  have z2 := Z.c2
  have z3 := Z.c3
  have z4 := Z.c4
  exact bodyPost_ret (v := (.tuple #[valV 0 0 0 0 0 ⟨#[]⟩, .int .i64 20])) (by simp [results, Tryz.results6, go_sem, z0, z1, z2, z3, z4, valV]) rfl ⟨rfl, below_put5 HB.out (Nat.le_refl _) _ _ _ _ _⟩
set_option maxHeartbeats 8000000 in
theorem rparse_of (Q : Int → Int → Nat → Nat → Nat → ByteArray → Bool → Prop) (s : ByteArray) (w : World) (hm : s.size ≤ 1026) (hG : GlobV w)
    (hr : ∀ W, Calls Tryz.prog 21 #[.string s] W fun e w' => (∃ kd iv rl re im tx ok, (WfV iv rl re im ∧ Q kd iv rl re im tx ok) ∧ e = .returned (.tuple #[valV kd iv rl re im tx, .bool ok])) ∧ Below W.heap.size W w') :
    Calls Tryz.prog 6 #[.string s] w fun e w' => (∃ kd iv rl re im tx ok, (WfV iv rl re im ∧ Q kd iv rl re im tx ok) ∧ ((¬(ok = true ∧ mayB kd iv tx = true ∧ printT kd iv rl re im tx = s) ∧ e = .returned (.tuple #[valV 0 0 0 0 0 ⟨#[]⟩, .int .i64 20])) ∨ ((ok = true ∧ mayB kd iv tx = true ∧ printT kd iv rl re im tx = s) ∧ e = .returned (.tuple #[valV kd iv rl re im tx, .int .i64 0])))) ∧ Below w.heap.size w w' := by
  have d1 : decide ((1026 : Int) < (s.size : Int)) = false := decide_eq_false (by omega)
  have sf : ∀ (p : Addr) (b : Nat) (mo : Mode) (w' : World), (store p (.float .f64 b) mo).run Tryz.prog w' = stored Tryz.prog w' p (.float .f64 b) mo := fun p b mo w' => run_store _ w' p _ mo rfl
  have sc : ∀ (p : Addr) (b c : Nat) (mo : Mode) (w' : World), (store p (.complex .f64 b c) mo).run Tryz.prog w' = stored Tryz.prog w' p (.complex .f64 b c) mo := fun p b c mo w' => run_store _ w' p _ mo rfl
  obtain ⟨W0, hW0⟩ : ∃ W0, W0 = w.alloc (.cells #[.int .i64 0, .int .i64 0, .float .f64 0, .complex .f64 0 0, .string ⟨#[]⟩] 25) := ⟨_, rfl⟩
  have hB0 : Below w.heap.size w W0 := by rw [hW0]; exact (Below.refl w.heap.size w).alloc (Nat.le_refl _) _
  have hb0 : Box5 W0 w.heap.size (.int .i64 0) (.int .i64 0) (.float .f64 0) (.complex .f64 0 0) (.string ⟨#[]⟩) := by rw [hW0]; exact heap_alloc_new _ _
  have HW0 := Lib.hid hW0
  have HB0 := Lib.hid hB0
  have HX0 := Lib.hid hb0
  have HG0 := Lib.hid (hG.below hB0 (Nat.le_refl _))
  have hz : w.heap.size < W0.heap.size := hb0.lt
  have HU := Lib.hid (hr W0)
  clear hr
  clear hW0 hB0 hb0 hG
  go_enter Tryz.func6, Tryz.ntmps6
  go_upto_region 1 with (fail)
  rw [← HW0.out]
  go_upto_region 4 with (go_at_call 21; refine HU.out.mono ?_; rintro e w1 ⟨⟨kd, iv, rl, re, im, tx, ok, ⟨hwf, hQ⟩, rfl⟩, hb1⟩; unfold valV)
  have HQ := Lib.hid hQ
  clear hQ
  have hzw : w.heap.size < w1.heap.size := Nat.lt_of_lt_of_le hz hb1.size
  obtain ⟨W2, hW2⟩ : ∃ W2, W2 = w1.alloc (.cells #[.int .i64 kd, .int .i64 iv, .float .f64 rl, .complex .f64 re im, .string tx] 25) := ⟨_, rfl⟩
  have hb2 : Below W0.heap.size W0 W2 := by rw [hW2]; exact hb1.alloc hb1.size _
  have hv2 : Box5 W2 w1.heap.size (.int .i64 kd) (.int .i64 iv) (.float .f64 rl) (.complex .f64 re im) (.string tx) := by rw [hW2]; exact heap_alloc_new _ _
  rw [← hW2]
  have HB2 := Lib.hid (HB0.out.trans (hb2.mono HB0.out.size))
  have HX2 := Lib.hid (HX0.out.keep hb2 hz)
  have HG2 := Lib.hid (HG0.out.below hb2 (Nat.le_refl _))
  have HV2 := Lib.hid hv2
  have hvl := hv2.lt
  have hM := fun W => rmay_any kd iv rl re im tx W
  unfold valV at hM
  have HWF := Lib.hid hwf
  clear hb1 hW2 hb2 hv2 hwf
  have pf0 := HX2.out.fz 0
  have pf1 := HX2.out.fz 1
  have pf2 := HX2.out.fz 2
  have pf3 := HX2.out.fz 3
  have pf4 := HX2.out.fz 4
  have pc0 := HX2.out.c0
  have pc1 := HX2.out.c1
  have pc2 := HX2.out.c2
  have pc3 := HX2.out.c3
  have pc4 := HX2.out.c4
  have plt := HX2.out.lt
  have qf0 := HV2.out.fz 0
  have qf1 := HV2.out.fz 1
  have qf2 := HV2.out.fz 2
  have qf3 := HV2.out.fz 3
  have qf4 := HV2.out.fz 4
  have qc0 := HV2.out.c0
  have qc1 := HV2.out.c1
  have qc2 := HV2.out.c2
  have qc3 := HV2.out.c3
  have qc4 := HV2.out.c4
  have qlt := HV2.out.lt
  cases ok with
  | false =>
    clear hM
    go_wp2_with fail
    have Z := HX2.out.put (.int .i64 0) (.int .i64 0) (.float .f64 0) (.complex .f64 0 0) (.string ⟨#[]⟩)
    unfold put5 at Z
    have z0 := Z.c0
    have z1 := Z.c1
    have z2 := Z.c2
    have z3 := Z.c3
    have z4 := Z.c4
    exact bodyPost_ret (v := (.tuple #[valV 0 0 0 0 0 ⟨#[]⟩, .int .i64 20])) (by simp [results, Tryz.results6, go_sem, z0, z1, z2, z3, z4, valV]) rfl ⟨⟨_, _, _, _, _, _, _, ⟨HWF.out, HQ.out⟩, .inl ⟨fun h => (by cases h.1), rfl⟩⟩, below_put5 HB2.out (Nat.le_refl _) _ _ _ _ _⟩
  | true =>
  cases hmay : mayB kd iv tx with
  | false =>
    rw [hmay] at hM
    have HM := Lib.hid hM
    have HNM := Lib.hid hmay
    clear hM hmay
    go_wp2_with (go_at_call 22; refine (HM.out _).mono ?_; rintro e w3 ⟨rfl, hb3⟩; have HB3 := Lib.hid (HB2.out.trans (hb3.mono HB2.out.size)); have HX3 := Lib.hid (HX2.out.keep hb3 plt); clear hb3; have rf0 := HX3.out.fz 0; have rf1 := HX3.out.fz 1; have rf2 := HX3.out.fz 2; have rf3 := HX3.out.fz 3; have rf4 := HX3.out.fz 4; have rc0 := HX3.out.c0; have rc1 := HX3.out.c1; have rc2 := HX3.out.c2; have rc3 := HX3.out.c3; have rc4 := HX3.out.c4; have rlt := HX3.out.lt)
    have Z := HX3.out.put (.int .i64 0) (.int .i64 0) (.float .f64 0) (.complex .f64 0 0) (.string ⟨#[]⟩)
    unfold put5 at Z
    have z0 := Z.c0
    have z1 := Z.c1
    have z2 := Z.c2
    have z3 := Z.c3
    have z4 := Z.c4
    exact bodyPost_ret (v := (.tuple #[valV 0 0 0 0 0 ⟨#[]⟩, .int .i64 20])) (by simp [results, Tryz.results6, go_sem, z0, z1, z2, z3, z4, valV]) rfl ⟨⟨_, _, _, _, _, _, _, ⟨HWF.out, HQ.out⟩, .inl ⟨fun h => absurd (HNM.out.symm.trans h.2.1) (by decide), rfl⟩⟩, below_put5 HB3.out (Nat.le_refl _) _ _ _ _ _⟩
  | true =>
    rw [hmay] at hM
    have HM := Lib.hid hM
    have HY := Lib.hid hmay
    have hP := fun W hW => rprint_any kd iv rl re im tx W hW HWF.out
    unfold valV at hP
    clear hM hmay
    obtain ⟨p, hp⟩ : ∃ p, p = printT kd iv rl re im tx := ⟨_, rfl⟩
    rw [← hp] at hP
    have HP := Lib.hid hP
    have HPT := Lib.hid hp
    clear hP hp
    cases he : (p.toList == s.toList) with
    | false =>
      have he' : (p.toList != s.toList) = true := by rw [bne, he]; rfl
      have HNE : Hid (p ≠ s) := Lib.hid (fun h => by rw [h] at he; exact absurd he (by simp))
      go_wp2_with (first
        | (go_at_call 22; refine (HM.out _).mono ?_; rintro e w3 ⟨rfl, hb3⟩; have HB3 := Lib.hid (HB2.out.trans (hb3.mono HB2.out.size)); have HX3 := Lib.hid (HX2.out.keep hb3 plt); have HV3 := Lib.hid (HV2.out.keep hb3 qlt); have HG3 := Lib.hid (HG2.out.below hb3 (Nat.le_refl _)); clear hb3; have rf0 := HX3.out.fz 0; have rf1 := HX3.out.fz 1; have rf2 := HX3.out.fz 2; have rf3 := HX3.out.fz 3; have rf4 := HX3.out.fz 4; have rc0 := HX3.out.c0; have rc1 := HX3.out.c1; have rc2 := HX3.out.c2; have rc3 := HX3.out.c3; have rc4 := HX3.out.c4; have rlt := HX3.out.lt; have sf0 := HV3.out.fz 0; have sf1 := HV3.out.fz 1; have sf2 := HV3.out.fz 2; have sf3 := HV3.out.fz 3; have sf4 := HV3.out.fz 4; have sc0 := HV3.out.c0; have sc1 := HV3.out.c1; have sc2 := HV3.out.c2; have sc3 := HV3.out.c3; have sc4 := HV3.out.c4; have slt := HV3.out.lt)
        | (go_at_call 23; refine (HP.out _ HG3.out).mono ?_; rintro e w4 ⟨rfl, hb4⟩; have HB4 := Lib.hid (HB3.out.trans (hb4.mono HB3.out.size)); have HX4 := Lib.hid (HX3.out.keep hb4 rlt); clear hb4; have tf0 := HX4.out.fz 0; have tf1 := HX4.out.fz 1; have tf2 := HX4.out.fz 2; have tf3 := HX4.out.fz 3; have tf4 := HX4.out.fz 4; have tc0 := HX4.out.c0; have tc1 := HX4.out.c1; have tc2 := HX4.out.c2; have tc3 := HX4.out.c3; have tc4 := HX4.out.c4; have tlt := HX4.out.lt))
      have Z := HX4.out.put (.int .i64 0) (.int .i64 0) (.float .f64 0) (.complex .f64 0 0) (.string ⟨#[]⟩)
      unfold put5 at Z
      have z0 := Z.c0
      have z1 := Z.c1
      have z2 := Z.c2
      have z3 := Z.c3
      have z4 := Z.c4
      exact bodyPost_ret (v := (.tuple #[valV 0 0 0 0 0 ⟨#[]⟩, .int .i64 20])) (by simp [results, Tryz.results6, go_sem, z0, z1, z2, z3, z4, valV]) rfl ⟨⟨_, _, _, _, _, _, _, ⟨HWF.out, HQ.out⟩, .inl ⟨fun h => HNE.out (HPT.out.trans h.2.2), rfl⟩⟩, below_put5 HB4.out (Nat.le_refl _) _ _ _ _ _⟩
    | true =>
      have he' : (p.toList != s.toList) = false := by rw [bne, he]; rfl
      have HE : Hid (p = s) := Lib.hid (ext_eq (by rw [← tl_data, ← tl_data]; exact eq_of_beq he))
      go_wp2_with (first
        | (go_at_call 22; refine (HM.out _).mono ?_; rintro e w3 ⟨rfl, hb3⟩; have HB3 := Lib.hid (HB2.out.trans (hb3.mono HB2.out.size)); have HX3 := Lib.hid (HX2.out.keep hb3 plt); have HV3 := Lib.hid (HV2.out.keep hb3 qlt); have HG3 := Lib.hid (HG2.out.below hb3 (Nat.le_refl _)); clear hb3; have rf0 := HX3.out.fz 0; have rf1 := HX3.out.fz 1; have rf2 := HX3.out.fz 2; have rf3 := HX3.out.fz 3; have rf4 := HX3.out.fz 4; have rc0 := HX3.out.c0; have rc1 := HX3.out.c1; have rc2 := HX3.out.c2; have rc3 := HX3.out.c3; have rc4 := HX3.out.c4; have rlt := HX3.out.lt; have sf0 := HV3.out.fz 0; have sf1 := HV3.out.fz 1; have sf2 := HV3.out.fz 2; have sf3 := HV3.out.fz 3; have sf4 := HV3.out.fz 4; have sc0 := HV3.out.c0; have sc1 := HV3.out.c1; have sc2 := HV3.out.c2; have sc3 := HV3.out.c3; have sc4 := HV3.out.c4; have slt := HV3.out.lt)
        | (go_at_call 23; refine (HP.out _ HG3.out).mono ?_; rintro e w4 ⟨rfl, hb4⟩; have HB4 := Lib.hid (HB3.out.trans (hb4.mono HB3.out.size)); have HX4 := Lib.hid (HX3.out.keep hb4 rlt); have HV4 := Lib.hid (HV3.out.keep hb4 slt); clear hb4; have tf0 := HX4.out.fz 0; have tf1 := HX4.out.fz 1; have tf2 := HX4.out.fz 2; have tf3 := HX4.out.fz 3; have tf4 := HX4.out.fz 4; have tc0 := HX4.out.c0; have tc1 := HX4.out.c1; have tc2 := HX4.out.c2; have tc3 := HX4.out.c3; have tc4 := HX4.out.c4; have tlt := HX4.out.lt; have vf0 := HV4.out.fz 0; have vf1 := HV4.out.fz 1; have vf2 := HV4.out.fz 2; have vf3 := HV4.out.fz 3; have vf4 := HV4.out.fz 4; have vc0 := HV4.out.c0; have vc1 := HV4.out.c1; have vc2 := HV4.out.c2; have vc3 := HV4.out.c3; have vc4 := HV4.out.c4; have vlt := HV4.out.lt))
      have Z := HX4.out.put (.int .i64 kd) (.int .i64 iv) (.float .f64 rl) (.complex .f64 re im) (.string tx)
      unfold put5 at Z
      have z0 := Z.c0
      have z1 := Z.c1
      have z2 := Z.c2
      have z3 := Z.c3
      have z4 := Z.c4
      exact bodyPost_ret (v := (.tuple #[valV kd iv rl re im tx, .int .i64 0])) (by simp [results, Tryz.results6, go_sem, z0, z1, z2, z3, z4, valV]) rfl ⟨⟨_, _, _, _, _, _, _, ⟨HWF.out, HQ.out⟩, .inr ⟨⟨rfl, HY.out, by rw [← HPT.out]; exact HE.out⟩, rfl⟩⟩, below_put5 HB4.out (Nat.le_refl _) _ _ _ _ _⟩
end Go.Proofs.YtofjbakepneilaaGreatDoor
/- read, of both, at a value's own text. -/
namespace Go.Proofs.YtofjbakepneilaaGreatDoor
open Go.RowKit Go.Shelf
set_option maxRecDepth 100000

/-- the value that is read is the value that was written -/
def LikeV (kd iv : Int) (rl re im : Nat) (tx : ByteArray) (kd' iv' : Int) (rl' re' im' : Nat) (tx' : ByteArray) : Prop :=
  kd' = kd ∧ ((kd = 1 ∧ iv' = iv ∧ rl' = 0 ∧ re' = 0 ∧ im' = 0 ∧ tx' = ⟨#[]⟩) ∨ (kd = 2 ∧ iv' = 0 ∧ Like rl' rl ∧ re' = 0 ∧ im' = 0 ∧ tx' = ⟨#[]⟩) ∨
    (kd = 3 ∧ iv' = 0 ∧ rl' = 0 ∧ Like re' re ∧ Like im' im ∧ tx' = ⟨#[]⟩) ∨ (kd = 4 ∧ iv' = 0 ∧ rl' = 0 ∧ re' = 0 ∧ im' = 0 ∧ tx' = tx) ∨ (kd = 5 ∧ iv' = iv ∧ rl' = 0 ∧ re' = 0 ∧ im' = 0 ∧ tx' = ⟨#[]⟩))
theorem realT_like {r b : Nat} (h : Like r b) : realT r = realT b := by
  rcases h with rfl | ⟨h1, h2⟩
  · rfl
  · unfold realT
    have e1 : eqB r r = false := by rw [eqB_self, h1]; rfl
    have e2 : eqB b b = false := by rw [eqB_self, h2]; rfl
    rw [if_pos e1, if_pos e2]
theorem like_may {kd iv : Int} {rl re im : Nat} {tx : ByteArray} {kd' iv' : Int} {rl' re' im' : Nat} {tx' : ByteArray} (h : LikeV kd iv rl re im tx kd' iv' rl' re' im' tx') : mayB kd' iv' tx' = mayB kd iv tx := by
  obtain ⟨rfl, h⟩ := h
  rcases h with ⟨rfl, rfl, _⟩ | ⟨rfl, rfl, _⟩ | ⟨rfl, rfl, _⟩ | ⟨rfl, rfl, _, _, _, rfl⟩ | ⟨rfl, rfl, _⟩ <;> simp [mayB]
theorem like_print {kd iv : Int} {rl re im : Nat} {tx : ByteArray} {kd' iv' : Int} {rl' re' im' : Nat} {tx' : ByteArray} (h : LikeV kd iv rl re im tx kd' iv' rl' re' im' tx') : printT kd' iv' rl' re' im' tx' = printT kd iv rl re im tx := by
  have hm := like_may h
  obtain ⟨rfl, h⟩ := h
  unfold printT
  rw [hm]
  rcases h with ⟨rfl, rfl, _⟩ | ⟨rfl, rfl, hl, _⟩ | ⟨rfl, rfl, _, h1, h2, _⟩ | ⟨rfl, rfl, _, _, _, rfl⟩ | ⟨rfl, rfl, _⟩
  · simp
  · rw [realT_like hl]; simp
  · rw [realT_like h1, realT_like h2]; simp
  · simp
  · simp
theorem magL_bad (b : Nat) (h : b ≤ 9218868437227405312) : ∃ c ∈ magL b, c.toNat < 48 ∨ 57 < c.toNat := by
  unfold magL
  by_cases h1 : b = 9218868437227405312
  · rw [if_pos h1]; exact ⟨105, by simp, by decide⟩
  · rw [if_neg h1]
    by_cases h2 : b = 0
    · rw [if_pos h2]; exact ⟨112, by simp, by decide⟩
    · rw [if_neg h2]; exact ⟨112, by simp, by decide⟩
theorem real_noq (b : Nat) (hb : b < 18446744073709551616) : numQ (realT b).data.toList = none ∧ (bAt (realT b).data.toList 0 = 45 → numQ ((realT b).data.toList.drop 1) = none) := by
  cases hn : nanB b with
  | true =>
    rw [realT_list hb, hn]
    simp only [if_true]
    exact ⟨numQ_bad _ 110 (by simp) (by decide), fun h => absurd h (by decide)⟩
  | false =>
    have hr : b % 9223372036854775808 ≤ 9218868437227405312 := by
      have h := hn
      unfold nanB rungB at h
      have := of_decide_eq_false h
      omega
    by_cases h2 : 9223372036854775808 ≤ b
    · obtain ⟨c, rfl⟩ : ∃ c, b = 9223372036854775808 + c := ⟨b - 9223372036854775808, by omega⟩
      have hc : c ≤ 9218868437227405312 := by omega
      rw [realT_neg hc]
      obtain ⟨d, hd, hd2⟩ := magL_bad c hc
      exact ⟨numQ_bad _ d (List.mem_cons_of_mem _ hd) hd2, fun _ => by rw [List.drop_one, List.tail_cons]; exact numQ_bad _ d hd hd2⟩
    · have hc : b ≤ 9218868437227405312 := by omega
      rw [realT_pos hc]
      obtain ⟨d, hd, hd2⟩ := magL_bad b hc
      refine ⟨numQ_bad _ d hd hd2, fun h => ?_⟩
      obtain ⟨c, l, e, hh, _⟩ := magL_head b hc
      rw [e] at h
      have h' : c = 45 := h
      rw [h'] at hh
      exact absurd hh (by decide)
/-- what begins otherwise is neither a text nor a complex number -/
theorem head_not (s : ByteArray) (c d : UInt8) (l : List UInt8) (e : s.data.toList = c :: l) (hc : c ≠ d) (N : Nat) (hs : s.size = N + 1) : ¬ (s[0]'(by omega) = d) := by
  intro h
  have : bAt s.data.toList 0 = s[0]'(by omega) := bAt_get (by omega)
  rw [e, h] at this
  exact hc this
theorem last_at (s : ByteArray) (N : Nat) (hs : s.size = N + 1) (t : List UInt8) (d : UInt8) (e : s.data.toList = t ++ [d]) : s[N]'(by omega) = d := by
  have h1 : bAt s.data.toList N = s[N]'(by omega) := bAt_get (by omega)
  have h2 : s.data.toList.length = s.size := rfl
  have h3 : N = t.length := by
    rw [e] at h2
    simp at h2
    omega
  rw [← h1, e, h3]
  unfold bAt
  rw [List.getElem?_append_right (Nat.le_refl _)]
  simp
theorem first_at (s : ByteArray) (N : Nat) (hs : s.size = N + 1) (c : UInt8) (l : List UInt8) (e : s.data.toList = c :: l) : s[0]'(by omega) = c := by
  have h1 : bAt s.data.toList 0 = s[0]'(by omega) := bAt_get (by omega)
  rw [← h1, e]
  rfl
theorem ixC_find (A B : List UInt8) (h : ∀ c ∈ A, c ≠ 44) : ixC 44 (40 :: (A ++ 44 :: B)) 1 = ((1 + A.length : Nat) : Int) := by
  have key : ∀ (n : Nat), n ≤ A.length → ixC 44 (40 :: (A ++ 44 :: B)) (1 + n) = ixC 44 (40 :: (A ++ 44 :: B)) 1 := by
    intro n
    induction n with
    | zero => intro _; rfl
    | succ n ih =>
      intro hn
      rw [← ih (by omega)]
      have hd : (40 :: (A ++ 44 :: B)).drop (1 + n) = A[n]'(by omega) :: (A.drop (n + 1) ++ 44 :: B) := by
        rw [← List.drop_drop]
        show (A ++ 44 :: B).drop n = _
        rw [List.drop_append_of_le_length (by omega), List.drop_eq_getElem_cons (by omega)]
        rfl
      exact (ixC_step hd (h _ (List.getElem_mem _))).symm
  rw [← key A.length (Nat.le_refl _)]
  exact ixC_hit (r := B) (by
    rw [← List.drop_drop]
    show (A ++ 44 :: B).drop A.length = _
    rw [List.drop_left])
/-- the reference's read at a value's own text -/
theorem rread_said (kd iv : Int) (rl re im : Nat) (tx : ByteArray) (hv : WfV iv rl re im) (hmay : mayB kd iv tx = true) (w : World) :
    Calls Tryz.prog 21 #[.string (printT kd iv rl re im tx)] w fun e w' => (∃ kd' iv' rl' re' im' tx' ok, (WfV iv' rl' re' im' ∧ (LikeV kd iv rl re im tx kd' iv' rl' re' im' tx' ∧ ok = true)) ∧ e = .returned (.tuple #[valV kd' iv' rl' re' im' tx', .bool ok])) ∧ Below w.heap.size w w' := by
  obtain ⟨⟨hi1, hi2⟩, hrl, hre, him⟩ := hv
  have w0 : WfV 0 0 0 0 := wf0
  have hk : kd = 1 ∨ kd = 2 ∨ kd = 3 ∨ kd = 4 ∨ kd = 5 := by
    unfold mayB at hmay
    by_cases h : kd = 1 ∨ kd = 2 ∨ kd = 3
    · omega
    · rw [if_neg h] at hmay
      by_cases h4 : kd = 4
      · omega
      · rw [if_neg h4] at hmay
        by_cases h5 : kd = 5
        · omega
        · rw [if_neg h5] at hmay; cases hmay
  rcases hk with rfl | rfl | rfl | rfl | rfl
  · -- whole numbers
    have hp : printT 1 iv rl re im tx = ⟨(Lib.itoa iv).toArray⟩ := by unfold printT; rw [if_neg (by simp [hmay]), if_pos rfl]
    rw [hp]
    have hl := itoa_len iv hi1 hi2
    have hdl : (⟨(Lib.itoa iv).toArray⟩ : ByteArray).data.toList = Lib.itoa iv := rfl
    obtain ⟨c, l, e, hcc⟩ : ∃ c l, Lib.itoa iv = c :: l ∧ (c = 45 ∨ (48 ≤ c.toNat ∧ c.toNat ≤ 57)) := by
      unfold Lib.itoa
      split
      · exact ⟨45, _, rfl, .inl rfl⟩
      · cases hx : Lib.decDigits iv.toNat with
        | nil => exact absurd hx (dd_ne _)
        | cons c r => exact ⟨c, r, rfl, .inr (dd_digit iv.toNat c (by rw [hx]; simp))⟩
    have nn : ∀ q : UInt8, q ≠ 45 → (q.toNat < 48 ∨ 57 < q.toNat) → c ≠ q := by
      rintro q q2 q4 rfl
      rcases hcc with h | h
      · exact q2 h
      · omega
    have e2 : (⟨(Lib.itoa iv).toArray⟩ : ByteArray).toList = c :: l := by rw [tl_mk, e]
    refine (rread_num _ w (by rw [sz_mk]; omega) (by rw [e2]; exact ne_list (nn 116 (by decide) (by decide))) (by rw [e2]; exact ne_list (nn 102 (by decide) (by decide))) (fun N hs _ h => head_not _ c 34 l (hdl.trans e) (nn 34 (by decide) (by decide)) N hs h.1) (fun N hs _ h => head_not _ c 40 l (hdl.trans e) (nn 40 (by decide) (by decide)) N hs h.1)).mono ?_
    rintro ee w' ⟨he, hb⟩
    refine ⟨?_, hb⟩
    rw [hdl] at he
    rcases Int.lt_or_le iv 0 with hneg | hpos
    · obtain ⟨u, rfl⟩ : ∃ u : Nat, iv = -(u : Int) := ⟨iv.natAbs, by omega⟩
      rw [Lib.itoa_neg u (by omega)] at he
      have h45 : bAt (45 :: Lib.decDigits u) 0 = 45 := rfl
      have hq : numQ ((45 :: Lib.decDigits u).drop 1) = some u := by rw [List.drop_one, List.tail_cons]; exact numQ_dd u (by omega)
      rcases he with ⟨n, _, h, _⟩ | ⟨n, _, hn, _, rfl⟩ | ⟨h | ⟨_, h⟩, _⟩
      · exact absurd h45 h
      · have : u = n := Option.some.inj (hq.symm.trans hn)
        subst this
        exact ⟨_, _, _, _, _, _, _, ⟨⟨⟨by omega, by omega⟩, by decide, by decide, by decide⟩, ⟨rfl, .inl ⟨rfl, rfl, rfl, rfl, rfl, rfl⟩⟩, decide_eq_true (by omega)⟩, rfl⟩
      · exact absurd h45 h.1
      · have := h u hq
        omega
    · obtain ⟨u, rfl⟩ := Int.eq_ofNat_of_zero_le hpos
      rw [Lib.itoa_nonneg] at he
      have hq : numQ (Lib.decDigits u) = some u := numQ_dd u (by omega)
      rcases he with ⟨n, hn, _, _, rfl⟩ | ⟨n, h, _⟩ | ⟨⟨_, h⟩ | h, _⟩
      · have : u = n := Option.some.inj (hq.symm.trans hn)
        subst this
        exact ⟨_, _, _, _, _, _, _, ⟨⟨⟨by omega, by omega⟩, by decide, by decide, by decide⟩, ⟨rfl, .inl ⟨rfl, rfl, rfl, rfl, rfl, rfl⟩⟩, rfl⟩, rfl⟩
      · exact absurd h (dd_first u)
      · have := h u hq
        omega
      · exact absurd h.1 (dd_first u)
  · -- reals
    have hp : printT 2 iv rl re im tx = realT rl := by unfold printT; rw [if_neg (by simp [hmay]), if_neg (by decide), if_pos rfl]
    rw [hp]
    obtain ⟨c, l, e, hc, _⟩ := realL_head hrl
    have hl := realT_len hrl
    have e2 : (realT rl).toList = c :: l := by rw [ba_eq e, tl_mk]
    have nn : ∀ q : UInt8, q ≠ 110 → q ≠ 45 → q ≠ 105 → (q.toNat < 48 ∨ 57 < q.toNat) → c ≠ q := by
      rintro q q1 q2 q3 q4 rfl
      rcases hc with h | h | h | h
      · exact q1 h
      · exact q2 h
      · exact q3 h
      · omega
    obtain ⟨k1, k2⟩ := real_noq rl hrl
    obtain ⟨r, hr, hlk, hrlt⟩ := wF_real rl hrl
    refine (rread_num _ w (by omega) (by rw [e2]; exact ne_list (nn 116 (by decide) (by decide) (by decide) (by decide))) (by rw [e2]; exact ne_list (nn 102 (by decide) (by decide) (by decide) (by decide))) (fun N hs _ h => head_not _ c 34 l e (nn 34 (by decide) (by decide) (by decide) (by decide)) N hs h.1) (fun N hs _ h => head_not _ c 40 l e (nn 40 (by decide) (by decide) (by decide) (by decide)) N hs h.1)).mono ?_
    rintro ee w' ⟨he, hb⟩
    refine ⟨?_, hb⟩
    rcases he with ⟨n, hn, _⟩ | ⟨n, h45, hn, _⟩ | ⟨_, rfl⟩
    · rw [k1] at hn; cases hn
    · rw [k2 h45] at hn; cases hn
    · rw [hr]
      exact ⟨_, _, _, _, _, _, _, ⟨⟨⟨by decide, by decide⟩, hrlt, by decide, by decide⟩, ⟨rfl, .inr (.inl ⟨rfl, rfl, hlk, rfl, rfl, rfl⟩)⟩, rfl⟩, rfl⟩
  · -- complex numbers
    have hp : printT 3 iv rl re im tx = compT re im := by unfold printT; rw [if_neg (by simp [hmay]), if_neg (by decide), if_neg (by decide), if_pos rfl]; rfl
    rw [hp]
    have e := comp_list re im
    have hl := compT_len hre him
    have e2 : (compT re im).toList = 40 :: ((realT re).data.toList ++ 44 :: ((realT im).data.toList ++ [41])) := by rw [ba_eq e, tl_mk]
    have hsz : (compT re im).size = (realT re).data.toList.length + (realT im).data.toList.length + 3 := by
      have : (compT re im).data.toList.length = (compT re im).size := rfl
      rw [← this, e]
      simp
      omega
    obtain ⟨N, hN⟩ : ∃ N, N = (realT re).data.toList.length + (realT im).data.toList.length + 2 := ⟨_, rfl⟩
    have hs : (compT re im).size = N + 1 := by omega
    have elast : (compT re im).data.toList = (40 :: ((realT re).data.toList ++ 44 :: (realT im).data.toList)) ++ [41] := by rw [e]; simp
    obtain ⟨r1, hr1, hlk1, hlt1⟩ := wF_real re hre
    obtain ⟨r2, hr2, hlk2, hlt2⟩ := wF_real im him
    refine (rread_comp _ w N hs (by omega) (by omega) (by rw [e2]; exact ne_list (by decide)) (by rw [e2]; exact ne_list (by decide)) (first_at _ N hs 40 _ e) (last_at _ N hs _ 41 elast)).mono ?_
    rintro ee w' ⟨he, hb⟩
    refine ⟨?_, hb⟩
    have hix := ixC_find (realT re).data.toList ((realT im).data.toList ++ [41]) (realT_chars hre)
    unfold CompP at he
    rw [e] at he
    rcases he with ⟨h, _⟩ | ⟨k, hk, rfl⟩
    · rw [hix] at h; omega
    · have hk' : k = 1 + (realT re).data.toList.length := by rw [hix] at hk; omega
      subst hk'
      have t1 : ((40 :: ((realT re).data.toList ++ 44 :: ((realT im).data.toList ++ [41]))).take (1 + (realT re).data.toList.length)).drop 1 = (realT re).data.toList := by
        rw [Nat.add_comm, List.take_succ_cons, List.drop_one, List.tail_cons, List.take_left' rfl]
      have t2 : ((40 :: ((realT re).data.toList ++ 44 :: ((realT im).data.toList ++ [41]))).take N).drop (1 + (realT re).data.toList.length + 1) = (realT im).data.toList := by
        have h1 : (40 :: ((realT re).data.toList ++ 44 :: ((realT im).data.toList ++ [41]))).take N = 40 :: ((realT re).data.toList ++ 44 :: (realT im).data.toList) := by
          have h2 : 40 :: ((realT re).data.toList ++ 44 :: ((realT im).data.toList ++ [41])) = (40 :: ((realT re).data.toList ++ 44 :: (realT im).data.toList)) ++ [41] := by simp
          rw [h2, List.take_left' (by rw [List.length_cons, List.length_append, List.length_cons]; omega)]
        rw [h1, show 1 + (realT re).data.toList.length + 1 = 1 + ((realT re).data.toList.length + 1) by omega, ← List.drop_drop]
        show ((realT re).data.toList ++ 44 :: (realT im).data.toList).drop ((realT re).data.toList.length + 1) = _
        rw [← List.drop_drop, List.drop_left]
        rfl
      rw [t1, t2, hr1, hr2]
      exact ⟨_, _, _, _, _, _, _, ⟨⟨⟨by decide, by decide⟩, by decide, hlt1, hlt2⟩, ⟨rfl, .inr (.inr (.inl ⟨rfl, rfl, rfl, hlk1, hlk2, rfl⟩))⟩, rfl⟩, rfl⟩
  · -- texts
    have hsz : tx.size ≤ 256 := by simpa [mayB] using hmay
    have hp : printT 4 iv rl re im tx = ⟨(quoted tx.data.toList).toArray⟩ := by unfold printT; rw [if_neg (by simp [hmay]), if_neg (by decide), if_neg (by decide), if_neg (by decide), if_pos rfl]
    rw [hp]
    have e : (⟨(quoted tx.data.toList).toArray⟩ : ByteArray).data.toList = 34 :: (tx.data.toList.flatMap qPart ++ [34]) := by simp [quoted, qHead]
    have e2 : (⟨(quoted tx.data.toList).toArray⟩ : ByteArray).toList = 34 :: (tx.data.toList.flatMap qPart ++ [34]) := by rw [ba_eq e, tl_mk]
    have elast : (⟨(quoted tx.data.toList).toArray⟩ : ByteArray).data.toList = (34 :: tx.data.toList.flatMap qPart) ++ [34] := by rw [e]; simp
    have hlen : ∀ l : List UInt8, (l.flatMap qPart).length ≤ 4 * l.length := by
      intro l
      induction l with
      | nil => simp
      | cons c l ih =>
        have hpp : (qPart c).length ≤ 4 := by unfold qPart; split <;> (try split) <;> simp
        rw [List.flatMap_cons, List.length_append, List.length_cons]
        omega
    have hl := hlen tx.data.toList
    have hts : tx.data.toList.length = tx.size := rfl
    have hs0 : (⟨(quoted tx.data.toList).toArray⟩ : ByteArray).size = (tx.data.toList.flatMap qPart).length + 2 := by
      have : (⟨(quoted tx.data.toList).toArray⟩ : ByteArray).data.toList.length = (⟨(quoted tx.data.toList).toArray⟩ : ByteArray).size := rfl
      rw [← this, e]
      simp
    obtain ⟨N, hN⟩ : ∃ N, N = (tx.data.toList.flatMap qPart).length + 1 := ⟨_, rfl⟩
    have hs : (⟨(quoted tx.data.toList).toArray⟩ : ByteArray).size = N + 1 := by omega
    refine (rread_text _ w N hs (by omega) (by omega) (by rw [e2]; exact ne_list (by decide)) (by rw [e2]; exact ne_list (by decide)) (first_at _ N hs 34 _ e) (last_at _ N hs _ 34 elast)).mono ?_
    rintro ee w' ⟨rfl, hb⟩
    refine ⟨?_, hb⟩
    have t1 : ((⟨(quoted tx.data.toList).toArray⟩ : ByteArray).data.toList.take N).drop 1 = tx.data.toList.flatMap qPart := by
      rw [elast, List.take_left' (by rw [List.length_cons]; omega)]
      rfl
    rw [t1, uq_quoted tx.data.toList N [] (by omega) (by simp; omega)]
    have ht : (⟨([] ++ tx.data.toList).toArray⟩ : ByteArray) = tx := by apply ext_eq; simp
    simp only
    rw [ht, decide_eq_true (by simp; omega)]
    exact ⟨_, _, _, _, _, _, _, ⟨w0, ⟨rfl, .inr (.inr (.inr (.inl ⟨rfl, rfl, rfl, rfl, rfl, rfl⟩)))⟩, rfl⟩, rfl⟩
  · -- truths
    have h5 : iv = 0 ∨ iv = 1 := by simpa [mayB] using hmay
    rcases h5 with rfl | rfl
    · have hp : printT 5 0 rl re im tx = ⟨#[102, 97, 108, 115, 101]⟩ := rfl
      rw [hp]
      refine (rread_false w).mono ?_
      rintro e w' ⟨rfl, hb⟩
      exact ⟨⟨_, _, _, _, _, _, _, ⟨w0, ⟨rfl, .inr (.inr (.inr (.inr ⟨rfl, rfl, rfl, rfl, rfl, rfl⟩)))⟩, rfl⟩, rfl⟩, hb⟩
    · have hp : printT 5 1 rl re im tx = ⟨#[116, 114, 117, 101]⟩ := rfl
      rw [hp]
      refine (rread_true w).mono ?_
      rintro e w' ⟨rfl, hb⟩
      exact ⟨⟨_, _, _, _, _, _, _, ⟨⟨⟨by decide, by decide⟩, by decide, by decide, by decide⟩, ⟨rfl, .inr (.inr (.inr (.inr ⟨rfl, rfl, rfl, rfl, rfl, rfl⟩)))⟩, rfl⟩, rfl⟩, hb⟩
end Go.Proofs.YtofjbakepneilaaGreatDoor
/- The program's read at a value's own text. -/
namespace Go.Proofs.YtofjbakepneilaaGreatDoor
open Go.RowKit Go.Shelf
set_option maxRecDepth 100000

set_option maxHeartbeats 2000000 in
theorem vread_true (w : World) : Calls Tryz.prog 18 #[.string ⟨#[116, 114, 117, 101]⟩] w fun e w' => e = .returned (valV 5 1 0 0 0 ⟨#[]⟩) ∧ Below w.heap.size w w' := by
  have sf : ∀ (p : Addr) (b : Nat) (mo : Mode) (w' : World), (store p (.float .f64 b) mo).run Tryz.prog w' = stored Tryz.prog w' p (.float .f64 b) mo := fun p b mo w' => run_store _ w' p _ mo rfl
  have sc : ∀ (p : Addr) (b c : Nat) (mo : Mode) (w' : World), (store p (.complex .f64 b c) mo).run Tryz.prog w' = stored Tryz.prog w' p (.complex .f64 b c) mo := fun p b c mo w' => run_store _ w' p _ mo rfl
  obtain ⟨W0, hW0, hB0, hb0⟩ := boxed w
  have HW0 := Lib.hid hW0
  have HB := Lib.hid hB0
  have HX := Lib.hid hb0
  have hz : w.heap.size < W0.heap.size := hb0.lt
  clear hW0 hB0 hb0
  have t0 : (⟨#[116, 114, 117, 101]⟩ : ByteArray).toList = [116, 114, 117, 101] := tl_mk [116, 114, 117, 101]
  have t1 : (⟨#[102, 97, 108, 115, 101]⟩ : ByteArray).toList = [102, 97, 108, 115, 101] := tl_mk [102, 97, 108, 115, 101]
  have f0 := HX.out.fz 0
  have f1 := HX.out.fz 1
  have f2 := HX.out.fz 2
  have f3 := HX.out.fz 3
  have f4 := HX.out.fz 4
  have c0 := HX.out.c0
  have c1 := HX.out.c1
  have c2 := HX.out.c2
  have c3 := HX.out.c3
  have c4 := HX.out.c4
  have hlt := HX.out.lt
  go_enter Tryz.func18, Tryz.ntmps18
  go_upto_region 1 with (fail)
  rw [← HW0.out]
  go_wp2_with fail
  have Z := HX.out.put (.int .i64 5) (.int .i64 1) (.float .f64 0) (.complex .f64 0 0) (.string ⟨#[]⟩)
  unfold put5 at Z
  have z0 := Z.c0
  have z1 := Z.c1
  have z2 := Z.c2
  have z3 := Z.c3
  have z4 := Z.c4
  exact bodyPost_ret (v := valV 5 1 0 0 0 ⟨#[]⟩) (by simp [results, Tryz.results18, go_sem, z0, z1, z2, z3, z4, valV]) rfl ⟨rfl, below_put5 HB.out (Nat.le_refl _) _ _ _ _ _⟩
set_option maxHeartbeats 2000000 in
theorem vread_false (w : World) : Calls Tryz.prog 18 #[.string ⟨#[102, 97, 108, 115, 101]⟩] w fun e w' => e = .returned (valV 5 0 0 0 0 ⟨#[]⟩) ∧ Below w.heap.size w w' := by
  have sf : ∀ (p : Addr) (b : Nat) (mo : Mode) (w' : World), (store p (.float .f64 b) mo).run Tryz.prog w' = stored Tryz.prog w' p (.float .f64 b) mo := fun p b mo w' => run_store _ w' p _ mo rfl
  have sc : ∀ (p : Addr) (b c : Nat) (mo : Mode) (w' : World), (store p (.complex .f64 b c) mo).run Tryz.prog w' = stored Tryz.prog w' p (.complex .f64 b c) mo := fun p b c mo w' => run_store _ w' p _ mo rfl
  obtain ⟨W0, hW0, hB0, hb0⟩ := boxed w
  have HW0 := Lib.hid hW0
  have HB := Lib.hid hB0
  have HX := Lib.hid hb0
  have hz : w.heap.size < W0.heap.size := hb0.lt
  clear hW0 hB0 hb0
  have t0 : (⟨#[116, 114, 117, 101]⟩ : ByteArray).toList = [116, 114, 117, 101] := tl_mk [116, 114, 117, 101]
  have t1 : (⟨#[102, 97, 108, 115, 101]⟩ : ByteArray).toList = [102, 97, 108, 115, 101] := tl_mk [102, 97, 108, 115, 101]
  have f0 := HX.out.fz 0
  have f1 := HX.out.fz 1
  have f2 := HX.out.fz 2
  have f3 := HX.out.fz 3
  have f4 := HX.out.fz 4
  have c0 := HX.out.c0
  have c1 := HX.out.c1
  have c2 := HX.out.c2
  have c3 := HX.out.c3
  have c4 := HX.out.c4
  have hlt := HX.out.lt
  go_enter Tryz.func18, Tryz.ntmps18
  go_upto_region 1 with (fail)
  rw [← HW0.out]
  go_wp2_with fail
  have Z := HX.out.put (.int .i64 5) (.int .i64 0) (.float .f64 0) (.complex .f64 0 0) (.string ⟨#[]⟩)
  unfold put5 at Z
  have z0 := Z.c0
  have z1 := Z.c1
  have z2 := Z.c2
  have z3 := Z.c3
  have z4 := Z.c4
  exact bodyPost_ret (v := valV 5 0 0 0 0 ⟨#[]⟩) (by simp [results, Tryz.results18, go_sem, z0, z1, z2, z3, z4, valV]) rfl ⟨rfl, below_put5 HB.out (Nat.le_refl _) _ _ _ _ _⟩
theorem vread_said (kd iv : Int) (rl re im : Nat) (tx : ByteArray) (hv : WfV iv rl re im) (hmay : mayB kd iv tx = true) (w : World) (hG : Glob w) :
    Calls Tryz.prog 18 #[.string (printT kd iv rl re im tx)] w fun e w' => (∃ kd' iv' rl' re' im' tx', (WfV iv' rl' re' im' ∧ LikeV kd iv rl re im tx kd' iv' rl' re' im' tx') ∧ e = .returned (valV kd' iv' rl' re' im' tx')) ∧ Below w.heap.size w w' := by
  obtain ⟨⟨hi1, hi2⟩, hrl, hre, him⟩ := hv
  have w0 : WfV 0 0 0 0 := wf0
  have hk : kd = 1 ∨ kd = 2 ∨ kd = 3 ∨ kd = 4 ∨ kd = 5 := by
    unfold mayB at hmay
    by_cases h : kd = 1 ∨ kd = 2 ∨ kd = 3
    · omega
    · rw [if_neg h] at hmay
      by_cases h4 : kd = 4
      · omega
      · rw [if_neg h4] at hmay
        by_cases h5 : kd = 5
        · omega
        · rw [if_neg h5] at hmay; cases hmay
  rcases hk with rfl | rfl | rfl | rfl | rfl
  · have hp : printT 1 iv rl re im tx = ⟨(Lib.itoa iv).toArray⟩ := by unfold printT; rw [if_neg (by simp [hmay]), if_pos rfl]
    rw [hp]
    refine (int_read iv hi1 hi2 w hG).mono ?_
    rintro e w' ⟨rfl, hb⟩
    exact ⟨⟨_, _, _, _, _, _, ⟨⟨⟨hi1, hi2⟩, by decide, by decide, by decide⟩, rfl, .inl ⟨rfl, rfl, rfl, rfl, rfl, rfl⟩⟩, rfl⟩, hb⟩
  · have hp : printT 2 iv rl re im tx = realT rl := by unfold printT; rw [if_neg (by simp [hmay]), if_neg (by decide), if_pos rfl]
    rw [hp]
    refine (real_read rl hrl w hG).mono ?_
    rintro e w' ⟨⟨r, hl, hlt, rfl⟩, hb⟩
    exact ⟨⟨_, _, _, _, _, _, ⟨⟨⟨by decide, by decide⟩, hlt, by decide, by decide⟩, rfl, .inr (.inl ⟨rfl, rfl, hl, rfl, rfl, rfl⟩)⟩, rfl⟩, hb⟩
  · have hp : printT 3 iv rl re im tx = compT re im := by unfold printT; rw [if_neg (by simp [hmay]), if_neg (by decide), if_neg (by decide), if_pos rfl]; rfl
    rw [hp]
    refine (comp_read re im hre him w hG).mono ?_
    rintro e w' ⟨⟨r1, r2, hl1, hl2, hlt1, hlt2, rfl⟩, hb⟩
    exact ⟨⟨_, _, _, _, _, _, ⟨⟨⟨by decide, by decide⟩, by decide, hlt1, hlt2⟩, rfl, .inr (.inr (.inl ⟨rfl, rfl, rfl, hl1, hl2, rfl⟩))⟩, rfl⟩, hb⟩
  · have hsz : tx.size ≤ 256 := by simpa [mayB] using hmay
    have hp : printT 4 iv rl re im tx = ⟨(quoted tx.data.toList).toArray⟩ := by unfold printT; rw [if_neg (by simp [hmay]), if_neg (by decide), if_neg (by decide), if_neg (by decide), if_pos rfl]
    rw [hp]
    refine (text_read tx hsz w hG).mono ?_
    rintro e w' ⟨rfl, hb⟩
    exact ⟨⟨_, _, _, _, _, _, ⟨w0, rfl, .inr (.inr (.inr (.inl ⟨rfl, rfl, rfl, rfl, rfl, rfl⟩)))⟩, rfl⟩, hb⟩
  · have h5 : iv = 0 ∨ iv = 1 := by simpa [mayB] using hmay
    rcases h5 with rfl | rfl
    · have hp : printT 5 0 rl re im tx = ⟨#[102, 97, 108, 115, 101]⟩ := rfl
      rw [hp]
      refine (vread_false w).mono ?_
      rintro e w' ⟨rfl, hb⟩
      exact ⟨⟨_, _, _, _, _, _, ⟨w0, rfl, .inr (.inr (.inr (.inr ⟨rfl, rfl, rfl, rfl, rfl, rfl⟩)))⟩, rfl⟩, hb⟩
    · have hp : printT 5 1 rl re im tx = ⟨#[116, 114, 117, 101]⟩ := rfl
      rw [hp]
      refine (vread_true w).mono ?_
      rintro e w' ⟨rfl, hb⟩
      exact ⟨⟨_, _, _, _, _, _, ⟨⟨⟨by decide, by decide⟩, by decide, by decide, by decide⟩, rfl, .inr (.inr (.inr (.inr ⟨rfl, rfl, rfl, rfl, rfl, rfl⟩)))⟩, rfl⟩, hb⟩
end Go.Proofs.YtofjbakepneilaaGreatDoor
