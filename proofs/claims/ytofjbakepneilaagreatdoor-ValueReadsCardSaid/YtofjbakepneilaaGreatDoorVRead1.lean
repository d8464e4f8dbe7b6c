/- readReal: some float. -/
import Derived.Test.YtofjbakepneilaaGreatDoorVLdexp
import Derived.Test.YtofjbakepneilaaGreatDoorMVUnq
import Derived.Deep.Cut
namespace Go.Proofs.YtofjbakepneilaaGreatDoor
open Go.RowKit Go.Shelf
set_option maxRecDepth 100000

theorem atoi_ok (s : ByteArray) (w : World) (hs : s.size ≤ 281474976710656) (v : Int) (h : Lib.atoiAll s.data.toList = .ok v) :
    Calls Tryz.prog 71 #[.string s] w fun e w' => e = .returned (.tuple #[.int .i64 v, .nilIface]) ∧ Below w.heap.size w w' := by
  refine (Tryz.strconv_Atoi_ok s (by omega) v h w).mono ?_
  rintro e w' ⟨rfl, hw⟩
  refine ⟨rfl, ?_⟩
  rcases hw with rfl | ⟨t, rfl⟩
  · exact Below.refl _ _
  · exact Joins.below_bytesWorld _ w _ t (Nat.le_refl _)
theorem atoi_bad (s : ByteArray) (w : World) (hs : s.size ≤ 281474976710656) (hg : Glob w) (h : ∀ v, Lib.atoiAll s.data.toList ≠ .ok v) :
    Calls Tryz.prog 71 #[.string s] w fun e w' => ∃ v N, e = .returned (.tuple #[.int .i64 v, .iface 157 (.pointer (some ⟨N, 0, none⟩))]) ∧ Below w.heap.size w w' := by
  obtain ⟨⟨t1, p1, h1⟩, t2, p2, h2⟩ := hg
  match hp : Lib.atoiAll s.data.toList with
  | Lib.NumEnd.ok v => exact absurd hp (h v)
  | Lib.NumEnd.syntax =>
    refine (Tryz.strconv_Atoi_syntax s hs hp (.iface t1 p1) w h1 (.inr ⟨_, _, rfl⟩)).mono ?_
    rintro e w' ⟨N, rfl, _, _, hb⟩
    exact ⟨_, N, rfl, hb⟩
  | Lib.NumEnd.range =>
    refine (Tryz.strconv_Atoi_range s hs hp (.iface t2 p2) w h2 (.inr ⟨_, _, rfl⟩)).mono ?_
    rintro e w' ⟨N, rfl, _, _, hb⟩
    exact ⟨_, N, rfl, hb⟩
theorem float_int_lt (n : Int) : floatOfInt .f64 n < 18446744073709551616 := by
  have h := floatOfInt_wf .f64 n
  simpa [Lit.wf] using h
/-- some float and whether it is one -/
def Rd (w : World) (e : Ending) (w' : World) : Prop := (∃ r ok, r < 18446744073709551616 ∧ e = .returned (.tuple #[.float .f64 r, .bool ok])) ∧ Below w.heap.size w w'
set_option maxHeartbeats 4000000 in
theorem readReal_any (s : ByteArray) (w : World) (hm : s.size ≤ 140737488355328) (hG : Glob w) : Calls Tryz.prog 39 #[.string s] w (Rd w) := by
  have HG := Lib.hid hG
  clear hG
  cases t1 : (s.toList == [110, 97, 110]) with
  | true =>
    go_enter Tryz.func39, Tryz.ntmps39
    go_wp2_with (go_at_call 68; refine (nan_any _).mono ?_; rintro e w' ⟨⟨r, hr, rfl⟩, hb⟩)
    go_ret2
    exact ⟨⟨_, _, hr, rfl⟩, hb⟩
  | false =>
  cases t2 : (s.toList == [105, 110, 102]) with
  | true =>
    go_enter Tryz.func39, Tryz.ntmps39
    go_wp2_with (go_at_call 69; refine (inf_any _ _).mono ?_; rintro e w' ⟨⟨r, hr, rfl⟩, hb⟩)
    go_ret2
    exact ⟨⟨_, _, hr, rfl⟩, hb⟩
  | false =>
  cases t3 : (s.toList == [45, 105, 110, 102]) with
  | true =>
    go_enter Tryz.func39, Tryz.ntmps39
    go_wp2_with (go_at_call 69; refine (inf_any _ _).mono ?_; rintro e w' ⟨⟨r, hr, rfl⟩, hb⟩)
    go_ret2
    exact ⟨⟨_, _, hr, rfl⟩, hb⟩
  | false =>
  cases t4 : (s.toList == [45, 48, 112, 48]) with
  | true =>
    go_enter Tryz.func39, Tryz.ntmps39
    go_wp2_with (go_at_call 70; refine (copysign_any _ _ _).mono ?_; rintro e w' ⟨⟨r, hr, rfl⟩, hb⟩)
    go_ret2
    exact ⟨⟨_, _, hr, rfl⟩, hb⟩
  | false =>
  have HC := Lib.hid (cut1_any s 112 · hm)
  go_enter Tryz.func39, Tryz.ntmps39
  go_upto_region 11 with (go_at_call 64; refine (HC.out _).mono ?_; rintro e w1 ⟨⟨a, b, ok, rfl, ha, hb⟩, hb1⟩)
  have HB1 := Lib.hid hb1
  have HG1 := Lib.hid (HG.out.below hb1 (Nat.le_refl _))
  clear hb1 t1 t2 t3 t4 HC HG
  by_cases hp : ∃ v, Lib.parseIntB 64 a.data.toList = .ok v
  · obtain ⟨v, hv⟩ := hp
    have HP := Lib.hid (parse_ok a · (by omega) v hv)
    clear hv
    by_cases hq : ∃ x, Lib.atoiAll b.data.toList = .ok x
    · obtain ⟨x, hx⟩ := hq
      have HQ := Lib.hid (atoi_ok b · (by omega) x hx)
      clear hx
      by_cases hr : -1074 ≤ x ∧ x ≤ 1023
      · obtain ⟨x0, x1⟩ := hr
        have HL := Lib.hid (Ldexp_any (floatOfInt .f64 v) (float_int_lt v) x x0 x1)
        have d1 : decide (x < -1074) = false := decide_eq_false (by omega)
        have d2 : decide ((1023 : Int) < x) = false := decide_eq_false (by omega)
        clear x0 x1
        go_wp2_with (first | (go_at_call 38; refine (HP.out _).mono ?_; rintro e w2 ⟨rfl, hb2⟩; have HB2 := Lib.hid (HB1.out.trans (hb2.mono HB1.out.size)); clear hb2) | (go_at_call 71; refine (HQ.out _).mono ?_; rintro e w3 ⟨rfl, hb3⟩; have HB3 := Lib.hid (HB2.out.trans (hb3.mono HB2.out.size)); clear hb3) | (go_at_call 72; refine (HL.out _).mono ?_; rintro e w4 ⟨⟨r, hr, rfl⟩, hb4⟩; have HB4 := Lib.hid (HB3.out.trans (hb4.mono HB3.out.size)); clear hb4))
        go_ret2
        exact ⟨⟨_, _, hr, rfl⟩, HB4.out⟩
      · have hd : decide (x < -1074) = true ∨ (decide (x < -1074) = false ∧ decide ((1023 : Int) < x) = true) := by
          simp only [decide_eq_true_eq, decide_eq_false_iff_not]; omega
        clear hr
        rcases hd with d1 | ⟨d1, d2⟩
        all_goals
          go_wp2_with (first | (go_at_call 38; refine (HP.out _).mono ?_; rintro e w2 ⟨rfl, hb2⟩; have HB2 := Lib.hid (HB1.out.trans (hb2.mono HB1.out.size)); clear hb2) | (go_at_call 71; refine (HQ.out _).mono ?_; rintro e w3 ⟨rfl, hb3⟩; have HB3 := Lib.hid (HB2.out.trans (hb3.mono HB2.out.size)); clear hb3))
          go_ret2
          exact ⟨⟨_, _, by decide, rfl⟩, HB3.out⟩
    · have hq' : ∀ v, Lib.atoiAll b.data.toList ≠ .ok v := fun v hv => hq ⟨v, hv⟩
      have HQ : Hid (∀ W, Glob W → Calls Tryz.prog 71 #[.string b] W fun e w' => ∃ v N, e = .returned (.tuple #[.int .i64 v, .iface 157 (.pointer (some ⟨N, 0, none⟩))]) ∧ Below W.heap.size W w') := Lib.hid fun W hW => atoi_bad b W (by omega) hW hq'
      clear hq hq'
      go_wp2_with (first | (go_at_call 38; refine (HP.out _).mono ?_; rintro e w2 ⟨rfl, hb2⟩; have HG2 := Lib.hid (HG1.out.below hb2 (Nat.le_refl _)); have HB2 := Lib.hid (HB1.out.trans (hb2.mono HB1.out.size)); clear hb2) | (go_at_call 71; refine (HQ.out _ HG2.out).mono ?_; rintro e w3 ⟨v3, N3, rfl, hb3⟩; have HB3 := Lib.hid (HB2.out.trans (hb3.mono HB2.out.size)); clear hb3))
      go_ret2
      exact ⟨⟨_, _, by decide, rfl⟩, HB3.out⟩
  · have hp' : ∀ v, Lib.parseIntB 64 a.data.toList ≠ .ok v := fun v hv => hp ⟨v, hv⟩
    have HP := Lib.hid (parse_bad a w1 (by omega) HG1.out hp')
    clear hp hp'
    have HQ : Hid (∀ W, Glob W → Calls Tryz.prog 71 #[.string b] W fun e w' => (∃ x er, e = .returned (.tuple #[.int .i64 x, er])) ∧ Below W.heap.size W w') := Lib.hid fun W hW => by
      by_cases hq : ∃ x, Lib.atoiAll b.data.toList = .ok x
      · obtain ⟨x, hx⟩ := hq
        refine (atoi_ok b W (by omega) x hx).mono ?_
        rintro e w' ⟨rfl, h⟩
        exact ⟨⟨_, _, rfl⟩, h⟩
      · refine (atoi_bad b W (by omega) hW fun v hv => hq ⟨v, hv⟩).mono ?_
        rintro e w' ⟨_, _, rfl, h⟩
        exact ⟨⟨_, _, rfl⟩, h⟩
    go_wp2_with (first | (go_at_call 38; refine HP.out.mono ?_; rintro e w2 ⟨v2, N2, rfl, hb2⟩; have HG2 := Lib.hid (HG1.out.below hb2 (Nat.le_refl _)); have HB2 := Lib.hid (HB1.out.trans (hb2.mono HB1.out.size)); clear hb2) | (go_at_call 71; refine (HQ.out _ HG2.out).mono ?_; rintro e w3 ⟨⟨v3, er3, rfl⟩, hb3⟩; have HB3 := Lib.hid (HB2.out.trans (hb3.mono HB2.out.size)); clear hb3))
    go_ret2
    exact ⟨⟨_, _, by decide, rfl⟩, HB3.out⟩
end Go.Proofs.YtofjbakepneilaaGreatDoor
