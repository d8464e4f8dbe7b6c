/- MaskTwo: the walk. -/
import Derived.Test.YtngfopnefmknoaaMkOf
import Derived.Test.YtngfopnefmknoaaMkSet
import Derived.Deep.QuietTactic
import Derived.BigQuiet
import Derived.Deep.Cut
import Derived.Deep.DeepCutAuto
set_option linter.all false
namespace Go.Proofs.Ytngfopnefmknoaa
open Go.RowKit
set_option maxRecDepth 100000
/-- all of the first k are in both -/
def inF (f g : Nat → Bool) : Nat → Bool
  | 0 => true
  | n + 1 => inF f g n && (!f n || g n)
def meetsF (f g : Nat → Bool) : Nat → Bool
  | 0 => false
  | n + 1 => meetsF f g n || (f n && g n)
theorem inF_iff (f g : Nat → Bool) : ∀ n, inF f g n = true ↔ ∀ j, j < n → f j = true → g j = true
  | 0 => by simp [inF]
  | n + 1 => by
    rw [inF, Bool.and_eq_true, inF_iff f g n]
    constructor
    · rintro ⟨h1, h2⟩ j hj hf
      rcases Nat.lt_or_ge j n with h | h
      · exact h1 j h hf
      · obtain rfl : j = n := by omega
        rw [hf] at h2; simpa using h2
    · intro h
      refine ⟨fun j hj => h j (by omega), ?_⟩
      have := h n (by omega)
      cases hf : f n <;> simp_all
theorem meetsF_iff (f g : Nat → Bool) : ∀ n, meetsF f g n = true ↔ ∃ j, j < n ∧ f j = true ∧ g j = true
  | 0 => by simp [meetsF]
  | n + 1 => by
    rw [meetsF, Bool.or_eq_true, meetsF_iff f g n, Bool.and_eq_true]
    constructor
    · rintro (⟨j, h1, h2⟩ | h)
      · exact ⟨j, by omega, h2⟩
      · exact ⟨n, by omega, h⟩
    · rintro ⟨j, h1, h2⟩
      rcases Nat.lt_or_ge j n with h | h
      · exact .inl ⟨j, h, h2⟩
      · obtain rfl : j = n := by omega
        exact .inr h2
theorem in_same {a b : Nat} (ha : Wd a) : (lessM a b == 0) = inF a.testBit b.testBit 64 := by
  rw [Bool.eq_iff_iff, beq_iff_eq, inF_iff]
  constructor
  · intro h j _ hf
    have := less_bit a b j
    rw [h, Nat.zero_testBit, hf] at this
    simpa using this.symm
  · intro h
    refine eq_bits (wd_less b ha) (by decide) fun j hj => ?_
    rw [less_bit, Nat.zero_testBit]
    cases hf : a.testBit j
    · rfl
    · rw [h j hj hf]; rfl
theorem meets_same {a b : Nat} (ha : Wd a) : (a &&& b != 0) = meetsF a.testBit b.testBit 64 := by
  rw [Bool.eq_iff_iff, bne_iff_ne, meetsF_iff]
  constructor
  · intro h
    obtain ⟨j, hj⟩ := Nat.exists_testBit_of_ne_zero h
    rw [Nat.testBit_and, Bool.and_eq_true] at hj
    exact ⟨j, wd_low ha hj.1, hj⟩
  · rintro ⟨j, _, h1, h2⟩ e
    have : (a &&& b).testBit j = true := by rw [Nat.testBit_and, h1, h2]; rfl
    rw [e, Nat.zero_testBit] at this
    cases this
set_option maxHeartbeats 4000000 in
theorem masktwo_walk {a b : Nat} (ha : Wd a) (hb : Wd b) (w : World) : Calls Try.prog 3 #[.int .u64 (a : Int), .int .u64 (b : Int)] w fun e w' => e = .returned (.bool true) ∧ Below w.heap.size w w' := by
  have O1 := Lib.hid (fun W => rof_any ha W)
  have O2 := Lib.hid (fun W => rof_any hb W)
  have A1 := Lib.hid (fun W => and_any ha hb W)
  have A2 := Lib.hid (fun W => or_any ha hb W)
  have A3 := Lib.hid (fun W => less_any ha hb W)
  have A4 := Lib.hid (fun W => in_any ha hb W)
  have A5 := Lib.hid (fun W => meets_any ha hb W)
  rw [in_same ha] at A4
  rw [meets_same ha] at A5
  go_enter Try.func3, Try.ntmps3
  go_upto_region 4 with (first
    | (go_at_call 5; (with_reducible refine (O1.out _).mono ?_); rintro e w1 ⟨rfl, hb1⟩; have HB1 := Lib.hid hb1; clear hb1)
    | (refine wpList_new_set (w0 := w1) rfl (.tmp 7) (.tmp 18) rfl rfl rfl rfl ?_; intro w2 k1 k3; have K1 := Lib.hid k1; have KB := Lib.hid (HB1.out.trans (k3.mono HB1.out.size)); clear k1 k3))
  generalize w1.heap.size = g1 at K1
  clear HB1
  go_upto_region 5 with (first
    | (go_at_call 5; (with_reducible refine (O2.out _).mono ?_); rintro e w3 ⟨rfl, hb3⟩; have HB3 := Lib.hid hb3; clear hb3)
    | (refine wpList_new_set (w0 := w3) rfl (.tmp 8) (.tmp 20) rfl rfl rfl rfl ?_; intro w4 k1 k3; have K2 := Lib.hid k1; have KB2 := Lib.hid (HB3.out.trans (k3.mono HB3.out.size)); clear k1 k3))
  have N1 := Lib.hid (K1.out.below KB2.out)
  have NB := Lib.hid (KB.out.trans (KB2.out.mono KB.out.size))
  generalize w3.heap.size = g2 at K2
  clear HB3 K1 KB KB2 O1 O2
  go_wp2_with (first
    | (go_at_call 6; (with_reducible refine (A1.out _).mono ?_); rintro e w' ⟨rfl, rfl⟩)
    | (go_at_call 7; (with_reducible refine (A2.out _).mono ?_); rintro e w' ⟨rfl, rfl⟩)
    | (go_at_call 8; (with_reducible refine (A3.out _).mono ?_); rintro e w' ⟨rfl, rfl⟩))
  clear A1 A2 A3
  have H1 := Lib.hid (fun i hi W => has_any (wd_and b ha) i hi W)
  have H2 := Lib.hid (fun i hi W => has_any (wd_or ha hb) i hi W)
  have H3 := Lib.hid (fun i hi W => has_any (wd_less b ha) i hi W)
  go_loopw [12, 13, 14] (fun v12 v13 v14 wr => ∃ (k : Nat) (x y : Bool), v12 = .bool x ∧ v13 = .bool y ∧ v14 = .int .i64 (k : Int) ∧ k ≤ 64 ∧ Hid (x = inF a.testBit b.testBit k ∧ y = meetsF a.testBit b.testBit k ∧ Bk wr g1 25 (setL a.testBit) ∧ Bk wr g2 25 (setL b.testBit) ∧ Below w.heap.size w wr)) (fun _ _ v14 _ => 64 - (intOf v14).toNat)
  case atStart => exact ⟨0, true, false, rfl, rfl, rfl, by omega, Lib.hid ⟨rfl, rfl, N1.out, K2.out, NB.out⟩⟩
  case round =>
    obtain ⟨k, x, y, rfl, rfl, rfl, hk, HR⟩ := hrel
    clear N1 K2 NB
    rcases Nat.lt_or_ge k 64 with hlt | hge
    · have c1 := HR.out.2.2.1.c k (set_at _ hlt)
      have c2 := HR.out.2.2.2.1.c k (set_at _ hlt)
      have hin : In (k : Int) := by unfold In; omega
      have B1 := Lib.hid (H1.out (k : Int) hin)
      have B2 := Lib.hid (H2.out (k : Int) hin)
      have B3 := Lib.hid (H3.out (k : Int) hin)
      rw [has_bit (wd_and b ha), Nat.testBit_and] at B1
      rw [has_bit (wd_or ha hb), Nat.testBit_or] at B2
      rw [has_bit (wd_less b ha), less_bit] at B3
      have HI := Lib.hid (show inF a.testBit b.testBit (k + 1) = (x && (!a.testBit k || b.testBit k)) by rw [inF, HR.out.1])
      have HM := Lib.hid (show meetsF a.testBit b.testBit (k + 1) = (y || (a.testBit k && b.testBit k)) by rw [meetsF, HR.out.2.1])
      clear hin H1 H2 H3 A4 A5
      generalize a.testBit k = p at c1 B1 B2 B3 HI HM
      generalize b.testBit k = q at c2 B1 B2 B3 HI HM
      cases p <;> cases q
      all_goals
        go_wp2_with fail
        go_quiet (first
          | (go_at_call 9; with_reducible exact Calls.quiet_of_same ((B1.out _).mono fun _ _ hh => ⟨hh.1, hh.2.symm⟩))
          | (go_at_call 9; with_reducible exact Calls.quiet_of_same ((B2.out _).mono fun _ _ hh => ⟨hh.1, hh.2.symm⟩))
          | (go_at_call 9; with_reducible exact Calls.quiet_of_same ((B3.out _).mono fun _ _ hh => ⟨hh.1, hh.2.symm⟩)))
        cases x <;> cases y
        all_goals
          go_wp2
          go_roundw
          case rel => exact ⟨k + 1, _, _, rfl, rfl, by go_num, by omega, Lib.hid ⟨HI.out.symm, HM.out.symm, HR.out.2.2.1.drewN _, HR.out.2.2.2.1.drewN _, below_drewN HR.out.2.2.2.2 _⟩⟩
          case measure => simp [intOf]; omega
    · obtain rfl : k = 64 := by omega
      rw [← HR.out.1] at A4
      rw [← HR.out.2.1] at A5
      have HB := Lib.hid HR.out.2.2.2.2
      clear HR H1 H2 H3
      cases x <;> cases y
      all_goals
        go_wp2_with (first
          | (go_at_call 10; (with_reducible refine (A4.out _).mono ?_); rintro e w' ⟨rfl, rfl⟩)
          | (go_at_call 11; (with_reducible refine (A5.out _).mono ?_); rintro e w' ⟨rfl, rfl⟩))
        go_ret
        exact ⟨rfl, HB.out⟩
end Go.Proofs.Ytngfopnefmknoaa
