/- Masks: the reference's set of a word, and a set's word. -/
import Derived.Test.YtngfopnefmknoaaDoorMkArr
set_option linter.all false
namespace Go.Proofs.YtngfopnefmknoaaDoor
open Go.RowKit
set_option maxRecDepth 100000
abbrev zw (w : World) : World := w.alloc (.cells (setL fun _ => false).toArray 25)
theorem two_new (w : World) : Bk (zw (zw w)) w.heap.size 25 (setL fun _ => false) ∧ Bk (zw (zw w)) (w.heap.size + 1) 25 (setL fun _ => false) ∧ Below w.heap.size w (zw (zw w)) := by
  refine ⟨(Bk.new w _ _).alloc _, ?_, ((Below.refl _ w).alloc (Nat.le_refl _) _).alloc (by simp) _⟩
  have := Bk.new (zw w) 25 (setL fun _ => false)
  rwa [World.size_alloc] at this
theorem half_pow (m k : Nat) : m / 2 ^ k / 2 = m / 2 ^ (k + 1) := by rw [Nat.div_div_eq_div_mul, Nat.pow_succ]
theorem bit_div (m k : Nat) : m.testBit k = decide (m / 2 ^ k % 2 = 1) := by
  rw [Nat.testBit_eq_decide_div_mod_eq]
set_option maxHeartbeats 1000000 in
theorem rof_any {m : Nat} (hm : Wd m) (w : World) : Calls Tryd.prog 8 #[.int .u64 (m : Int)] w fun e w' => e = .returned (setV m.testBit) ∧ Below w.heap.size w w' := by
  obtain ⟨W, hW⟩ : ∃ W, W = zw (zw w) := ⟨_, rfl⟩
  obtain ⟨P, hP⟩ : ∃ P, P = w.heap.size := ⟨_, rfl⟩
  have HN := Lib.hid (two_new w)
  rw [← hW, ← hP] at HN
  have HP := Lib.hid hP
  go_enter Tryd.func8, Tryd.ntmps8
  go_wp2
  change Code.wp _ _ _ _ (zw (zw w))
  rw [← hW, ← HP.out]
  clear hW hP
  go_loopw [0, 4] (fun v0 v4 wr => ∃ k : Nat, v0 = .int .u64 ((m / 2 ^ k : Nat) : Int) ∧ v4 = .int .i64 (k : Int) ∧ k ≤ 64 ∧ Hid (Bk wr P 25 (setL fun _ => false) ∧ Bk wr (P + 1) 25 (setL fun j => decide (j < k) && m.testBit j) ∧ Below P w wr)) (fun _ v4 _ => 64 - (intOf v4).toNat)
  case atStart => exact ⟨0, by simp, rfl, by omega, Lib.hid ⟨HN.out.1, by simpa using HN.out.2.1, HN.out.2.2⟩⟩
  case round =>
    obtain ⟨k, rfl, rfl, hk, HR⟩ := hrel
    clear HN
    have hx := half_pow m k
    have hb := bit_div m k
    rcases Nat.lt_or_ge k 64 with hlt | hge
    · have hc := HR.out.2.1.c k (set_at _ hlt)
      have hf := HR.out.2.1.fz k
      have hnx : Hid (setL (updF (fun j => decide (j < k) && m.testBit j) k (decide (m / 2 ^ k % 2 = 1))) = setL (fun j => decide (j < k + 1) && m.testBit j)) := Lib.hid (set_ext fun j hj => by
        unfold updF
        split
        · rename_i e; rw [e, decide_eq_true (show k < k + 1 by omega), Bool.true_and, hb]
        · rename_i e; rw [show decide (j < k + 1) = decide (j < k) from decide_eq_decide.2 (by omega)])
      obtain ⟨y, hy⟩ : ∃ y, y = m / 2 ^ k := ⟨_, rfl⟩
      rw [← hy] at hx hnx
      rw [← hy]
      have hxi : (y : Int) / 2 = ((m / 2 ^ (k + 1) : Nat) : Int) := by rw [← hx]; omega
      have hbi : ((y : Int) % 2 == 1) = decide (y % 2 = 1) := by rw [Bool.eq_iff_iff, beq_iff_eq, decide_eq_true_eq]; omega
      obtain ⟨z, hz0⟩ : ∃ z, z = m / 2 ^ (k + 1) := ⟨_, rfl⟩
      have HZ := Lib.hid hz0
      rw [← hz0] at hx hxi
      clear hz0
      have hz : z < 18446744073709551616 := by rw [← hx]; have := Nat.div_le_self m (2 ^ k); unfold Wd at hm; omega
      have hzi : IntKind.u64.wrap (z : Int) = (z : Int) := by rw [IntKind.wrap_u64]; omega
      clear hx hb hy
      go_wp2
      go_roundw
      case rel =>
        refine ⟨k + 1, by first | rfl | rw [HZ.out], by go_num, by omega, Lib.hid ⟨HR.out.1.other (by omega) _ _, ?_, HR.out.2.2.setCell (p := ⟨P + 1, k, none⟩) (by show P ≤ P + 1; omega) _⟩⟩
        rw [← hnx.out, ← set_set]
        exact HR.out.2.1.set _ _
      case measure => simp [intOf]; omega
    · obtain rfl : k = 64 := by omega
      have HS := Lib.hid (set_ext (f := fun j => decide (j < 64) && m.testBit j) (g := m.testBit) fun j hj => by rw [decide_eq_true hj, Bool.true_and])
      have h2 := HR.out.2.1
      rw [HS.out] at h2
      have H2 := Lib.hid h2
      clear hx hb h2
      generalize m / 2 ^ 64 = z
      go_wp2_with (first
        | (refine wpList_load_set rfl (.tmp 3) rfl rfl H2.out ?_)
        | (refine wpList_store_set rfl (.tmp 2) (.tmp 16) rfl rfl rfl HR.out.1 (set_len _) ?_; intro w2 k1 k2 k3; have K1 := Lib.hid k1; have K3 := Lib.hid (HR.out.2.2.trans (k3 P (Nat.le_refl _))); clear k1 k2 k3))
      exact bodyPost_ret (res_set rfl rfl K1.out) rfl ⟨rfl, by rw [← HP.out]; exact K3.out⟩
set_option maxHeartbeats 1000000 in
theorem word_any (f : Nat → Bool) (w : World) : Calls Tryd.prog 17 #[setV f] w fun e w' => e = .returned (.int .u64 ((wordF f 64 : Nat) : Int)) ∧ Below w.heap.size w w' := by
  obtain ⟨W, hW⟩ : ∃ W, W = w.alloc (.cells (setL f).toArray 25) := ⟨_, rfl⟩
  obtain ⟨P, hP⟩ : ∃ P, P = w.heap.size := ⟨_, rfl⟩
  have HN := Lib.hid (show Bk W P 25 (setL f) ∧ Below P w W by rw [hW, hP]; exact ⟨Bk.new w _ _, (Below.refl _ w).alloc (Nat.le_refl _) _⟩)
  have HP := Lib.hid hP
  go_enter Tryd.func17, Tryd.ntmps17
  go_wp2
  change Code.wp _ _ _ _ (w.alloc (.cells (setL f).toArray 25))
  rw [← hW, ← HP.out]
  clear hW hP
  go_loopw [3, 4, 5] (fun v3 v4 v5 wr => ∃ k y z : Nat, v3 = .int .u64 (y : Int) ∧ v4 = .int .u64 (z : Int) ∧ v5 = .int .i64 (k : Int) ∧ k ≤ 64 ∧ Hid (y = wordF f k ∧ z = 2 ^ k % 18446744073709551616 ∧ Bk wr P 25 (setL f) ∧ Below P w wr)) (fun _ _ v5 _ => 64 - (intOf v5).toNat)
  case atStart => exact ⟨0, 0, 1, rfl, rfl, rfl, by omega, Lib.hid ⟨rfl, rfl, HN.out.1, HN.out.2⟩⟩
  case round =>
    obtain ⟨k, y, z, rfl, rfl, rfl, hk, HR⟩ := hrel
    clear HN
    rcases Nat.lt_or_ge k 64 with hlt | hge
    · obtain ⟨e1, e2, h3, h4⟩ := HR.out
      have hpow : 2 ^ (k + 1) ≤ 2 ^ 64 := Nat.pow_le_pow_right (by omega) (by omega)
      have hp2 : 2 ^ (k + 1) = 2 * 2 ^ k := by rw [Nat.pow_succ, Nat.mul_comm]
      have hy : y < 2 ^ k := by rw [e1]; exact wordF_lt f k
      rw [show (2 : Nat) ^ 64 = 18446744073709551616 from rfl] at hpow
      have hz : z = 2 ^ k := by rw [e2]; omega
      have E3 : Hid ((z * 2) % 18446744073709551616 = 2 ^ (k + 1) % 18446744073709551616) := Lib.hid (by rw [hz]; omega)
      have hw1 : IntKind.u64.wrap ((y : Int) + (z : Int)) = ((y + z : Nat) : Int) := by rw [IntKind.wrap_u64]; omega
      have hw2 : IntKind.u64.wrap ((z : Int) * 2) = ((z * 2 % 18446744073709551616 : Nat) : Int) := by rw [IntKind.wrap_u64]; omega
      have hc := h3.c k (set_at _ hlt)
      have H1 := Lib.hid e1
      have H2 := Lib.hid hz
      obtain ⟨u, hu⟩ : ∃ u, u = z * 2 % 18446744073709551616 := ⟨_, rfl⟩
      obtain ⟨x, hx⟩ : ∃ x, x = y + z := ⟨_, rfl⟩
      rw [← hu] at hw2 E3
      rw [← hx] at hw1
      have HX := Lib.hid hx
      clear e1 e2 hpow hp2 hy hz h3 h4 hu hx
      cases hf : f k with
      | true =>
        rw [hf] at hc
        have HF := Lib.hid hf
        clear hf
        go_wp2
        go_roundw
        case rel => exact ⟨k + 1, x, u, rfl, rfl, by go_num, by omega, Lib.hid ⟨by rw [wordF, HF.out, HX.out, H1.out, H2.out]; simp, E3.out, HR.out.2.2.1, HR.out.2.2.2⟩⟩
        case measure => simp [intOf]; omega
      | false =>
        rw [hf] at hc
        have HF := Lib.hid hf
        clear hf
        go_wp2
        go_roundw
        case rel => exact ⟨k + 1, y, u, rfl, rfl, by go_num, by omega, Lib.hid ⟨by rw [wordF, HF.out, H1.out]; simp, E3.out, HR.out.2.2.1, HR.out.2.2.2⟩⟩
        case measure => simp [intOf]; omega
    · obtain rfl : k = 64 := by omega
      go_wp2
      go_ret
      exact ⟨by rw [HR.out.1]; rfl, by rw [← HP.out]; exact HR.out.2.2.2⟩
end Go.Proofs.YtngfopnefmknoaaDoor
