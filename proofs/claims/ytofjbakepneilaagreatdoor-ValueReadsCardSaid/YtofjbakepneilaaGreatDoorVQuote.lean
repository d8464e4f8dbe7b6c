/- value.quote. -/
import Derived.Test.YtofjbakepneilaaGreatDoorVForm
import Derived.Test.YtofjbakepneilaaGreatDoorQuoteLex
namespace Go.Proofs.YtofjbakepneilaaGreatDoor
open Go.RowKit

set_option maxRecDepth 100000 in
set_option maxHeartbeats 400000 in
theorem vquote_any (s : ByteArray) (w : World) (hs : s.size ≤ 256) :
    Calls Tryz.prog 42 #[.string s] w fun e w' => e = .returned (.string ⟨(quoted s.data.toList).toArray⟩) ∧ Below w.heap.size w w' := by
  obtain ⟨i0, hi, hz0, hz1, hz2⟩ := info_parts info5
  go_enter Tryz.func42, Tryz.ntmps42
  go_wp2
  go_loopw [3, 9] (fun q i wr => ∃ k : Nat, k ≤ s.size ∧ i = .int .i64 k ∧ wr.ownsRow w.heap.size 5 1 q (qHead (s.data.toList.take k)).length (u8s (qHead (s.data.toList.take k))) ∧ Below w.heap.size w wr)
    (fun _ i _ => s.size - (intOf i).toNat)
  case atStart =>
    refine ⟨0, Nat.zero_le _, rfl, ?_, (Below.refl _ _).alloc (Nat.le_refl _) _⟩
    exact ⟨by simp [u8s_length], .inr ⟨w.heap.size, 1, _, rfl, Nat.le_refl _, heap_alloc_new w _, by simp [qHead], by unfold maxLen; omega, rfl, by simp [qHead, u8s]⟩⟩
  case round =>
    obtain ⟨k, hk, rfl, hown, hbel⟩ := hrel
    have hz := hbel.size
    have hql : (qHead (s.data.toList.take k)).length ≤ 1100 := by
      have := qHead_le (s.data.toList.take k)
      have : (s.data.toList.take k).length ≤ k := List.length_take_le _ _
      omega
    by_cases hlt : k < s.size
    · have hcl := (s[k]'hlt).toNat_lt
      by_cases h1 : (s[k]'hlt).toNat = 34 ∨ (s[k]'hlt).toNat = 92
      · have H1 : Hid ((s[k]'hlt).toNat = 34 ∨ (s[k]'hlt).toNat = 92) := h1
        by_cases h4 : (s[k]'hlt).toNat = 34
        · have hb1 : (((s[k]'hlt).toNat : Int) == 34) = true := by simp; omega
          clear h1 h4
          go_wp2_with (at_builtin; refine wpList_append_own _ rfl _ _ 37 rfl w.heap.size 5 i0 (.int .u8 0) 1 1 Tryz.underlying37 hi hz0 hz1 hz2 rfl (by decide) _ _ _ rfl (hown.alloc _) ⟨wr.heap.size, 0, none⟩ 2 2 (u8s [92, s[k]'hlt]) rfl rfl (cells_new _ _ _) (u8s_one _) (by unfold maxLen; omega) (by omega) (by simp; omega) ?_)
          intro v' w1 hown' hgrow _
          have R := rel_step (B := w.heap.size) hlt (qPart_esc _ H1.out) hown' hbel hgrow hown
          clear hown' hgrow hown hbel
          go_wp2
          go_roundw
          case rel => exact ⟨k + 1, by omega, by go_num, R.1, R.2⟩
          case measure => simp [intOf]; omega
        · have hb1 : (((s[k]'hlt).toNat : Int) == 34) = false := by simp; omega
          have hb2 : (((s[k]'hlt).toNat : Int) == 92) = true := by simp; omega
          clear h1 h4
          go_wp2_with (at_builtin; refine wpList_append_own _ rfl _ _ 37 rfl w.heap.size 5 i0 (.int .u8 0) 1 1 Tryz.underlying37 hi hz0 hz1 hz2 rfl (by decide) _ _ _ rfl (hown.alloc _) ⟨wr.heap.size, 0, none⟩ 2 2 (u8s [92, s[k]'hlt]) rfl rfl (cells_new _ _ _) (u8s_one _) (by unfold maxLen; omega) (by omega) (by simp; omega) ?_)
          intro v' w1 hown' hgrow _
          have R := rel_step (B := w.heap.size) hlt (qPart_esc _ H1.out) hown' hbel hgrow hown
          clear hown' hgrow hown hbel
          go_wp2
          go_roundw
          case rel => exact ⟨k + 1, by omega, by go_num, R.1, R.2⟩
          case measure => simp [intOf]; omega
      · have hb1 : (((s[k]'hlt).toNat : Int) == 34) = false := by simp; omega
        have hb2 : (((s[k]'hlt).toNat : Int) == 92) = false := by simp; omega
        have H1 : Hid (¬ ((s[k]'hlt).toNat = 34 ∨ (s[k]'hlt).toNat = 92)) := h1
        clear h1
        by_cases h2 : 32 ≤ (s[k]'hlt).toNat ∧ (s[k]'hlt).toNat ≤ 126
        · have H2 : Hid (32 ≤ (s[k]'hlt).toNat ∧ (s[k]'hlt).toNat ≤ 126) := h2
          have d1 : decide ((32 : Int) ≤ ((s[k]'hlt).toNat : Int)) = true := by rw [decide_eq_true_eq]; omega
          have d2 : decide (((s[k]'hlt).toNat : Int) ≤ 126) = true := by rw [decide_eq_true_eq]; omega
          clear h2
          go_wp2_with (at_builtin; refine wpList_append_own _ rfl _ _ 37 rfl w.heap.size 5 i0 (.int .u8 0) 1 1 Tryz.underlying37 hi hz0 hz1 hz2 rfl (by decide) _ _ _ rfl (hown.alloc _) ⟨wr.heap.size, 0, none⟩ 1 1 (u8s [s[k]'hlt]) rfl rfl (cells_new _ _ _) (u8s_one _) (by unfold maxLen; omega) (by omega) (by simp; omega) ?_)
          intro v' w1 hown' hgrow _
          have R := rel_step (B := w.heap.size) hlt (qPart_plain _ H1.out H2.out) hown' hbel hgrow hown
          clear hown' hgrow hown hbel
          go_wp2
          go_roundw
          case rel => exact ⟨k + 1, by omega, by go_num, R.1, R.2⟩
          case measure => simp [intOf]; omega
        · have H2 : Hid (¬ (32 ≤ (s[k]'hlt).toNat ∧ (s[k]'hlt).toNat ≤ 126)) := h2
          have hd : (decide ((32 : Int) ≤ ((s[k]'hlt).toNat : Int)) = false) ∨ (decide ((32 : Int) ≤ ((s[k]'hlt).toNat : Int)) = true ∧ decide (((s[k]'hlt).toNat : Int) ≤ 126) = false) := by
            simp only [decide_eq_true_eq, decide_eq_false_iff_not]; omega
          clear h2
          rcases hd with d1 | ⟨d1, d2⟩
          all_goals
           go_wp2_with fail
           have b1 : (0 : Int) ≤ ((s[k]'hlt).toNat : Int) / 16 := by omega
           have b2 : ((s[k]'hlt).toNat : Int) / 16 < 16 := by omega
           have b3 : (0 : Int) ≤ ((s[k]'hlt).toNat : Int) % 16 := by omega
           have b4 : ((s[k]'hlt).toNat : Int) % 16 < 16 := by omega
           have a1 := and15 (s[k]'hlt).toNat hcl
           have x1 := hexAtInt (((s[k]'hlt).toNat : Int) / 16) ((s[k]'hlt).toNat / 16) (by omega) (by omega)
           have x2 := hexAtInt (((s[k]'hlt).toNat : Int) % 16) ((s[k]'hlt).toNat % 16) (by omega) (by omega)
           go_region_law ((refine step_append_mine rfl (.tmp 15) (.tmp 22) 37 rfl w.heap.size 5 i0 (.int .u8 0) 1 1 Tryz.underlying37 hi hz0 hz1 hz2 rfl (by decide) u3 _ _ rfl (hown.drew.alloc _) ⟨wr.heap.size, 0, none⟩ 4 4 (u8s [92, 120, hexDigit ((s[k]'hlt).toNat / 16), hexDigit ((s[k]'hlt).toNat % 16)]) rfl rfl (cells_new _ _ _) (u8s_one _) (by unfold maxLen; omega) (by omega) (by simp; omega) ?_; intro v' w1 hown' hgrow))
           all_goals
             have hgrow' : (wr.alloc (.cells (u8s [92, 120, hexDigit ((s[k]'hlt).toNat / 16), hexDigit ((s[k]'hlt).toNat % 16)]).toArray 5)).grownBy w1 u3.ownBlock := ⟨hgrow.os, hgrow.tape, hgrow.output, hgrow.size, hgrow.block⟩
             have R := rel_step (B := w.heap.size) hlt (qPart_hex _ H1.out H2.out) hown' hbel hgrow' hown
             clear hown' hgrow hgrow' hown hbel x1 x2 a1
             go_wp2
             go_roundw
             case rel => exact ⟨k + 1, by omega, by go_num, R.1, R.2⟩
             case measure => simp [intOf]; omega
    · go_wp2_with (at_builtin; refine wpList_append_own _ rfl _ _ 37 rfl w.heap.size 5 i0 (.int .u8 0) 1 1 Tryz.underlying37 hi hz0 hz1 hz2 rfl (by decide) _ _ _ rfl (hown.alloc _) ⟨wr.heap.size, 0, none⟩ 1 1 (u8s [34]) rfl rfl (cells_new _ _ _) (u8s_one _) (by unfold maxLen; omega) (by omega) (by simp; omega) ?_)
      intro v' w1 hown' hgrow _
      have hk2 : s.data.toList.take k = s.data.toList := List.take_of_length_le (by simp; omega)
      rw [hk2, show u8s (qHead s.data.toList) ++ u8s [34] = u8s (quoted s.data.toList) from by simp [quoted, u8s_append]] at hown'
      have hb1 : Below w.heap.size w w1 := (hbel.alloc hz _).grown hgrow (by simp; omega) (fun b hb => (hown.lt b hb).1)
      obtain ⟨g, cap, rfl⟩ := ownsRow_succ hown'
      have hcv := owned_text hown' Tryz.underlying37 Tryz.underlying5 Tryz.underlying9
      clear hown' hgrow hown hbel
      go_wp2
      go_ret
      exact ⟨rfl, hb1⟩
end Go.Proofs.YtofjbakepneilaaGreatDoor
