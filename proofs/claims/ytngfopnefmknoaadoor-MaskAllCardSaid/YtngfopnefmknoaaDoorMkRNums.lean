/- Masks: the reference's list of numbers. -/
import Derived.Test.YtngfopnefmknoaaDoorMkOf
import Derived.Test.YtngfopnefmknoaaDoorMkRow
set_option linter.all false
namespace Go.Proofs.YtngfopnefmknoaaDoor
open Go.RowKit
set_option maxRecDepth 100000
abbrev natI (l : List Nat) : List Int := l.map fun (x : Nat) => (x : Int)
theorem natI_snoc (l : List Nat) (x : Nat) : natI (l ++ [x]) = natI l ++ [(x : Int)] := by simp [natI]
set_option maxHeartbeats 1000000 in
theorem rnums_any (f : Nat → Bool) (w : World) : Calls Tryd.prog 27 #[setV f] w fun e w' => ∃ v F, e = .returned v ∧ Ir w' w.heap.size F v (natI (numsF f 64)) ∧ Below w.heap.size w w' := by
  obtain ⟨W, hW⟩ : ∃ W, W = w.alloc (.cells (setL f).toArray 25) := ⟨_, rfl⟩
  obtain ⟨P, hP⟩ : ∃ P, P = w.heap.size := ⟨_, rfl⟩
  have HN := Lib.hid (show Bk W P 25 (setL f) ∧ Below P w W by rw [hW, hP]; exact ⟨Bk.new w _ _, (Below.refl _ w).alloc (Nat.le_refl _) _⟩)
  have HP := Lib.hid hP
  go_enter Tryd.func27, Tryd.ntmps27
  go_wp2
  change Code.wp _ _ _ _ (w.alloc (.cells (setL f).toArray 25))
  rw [← hW, ← HP.out]
  clear hW hP
  go_loopw [3, 4] (fun v3 v4 wr => ∃ (i : Nat) (F : List Nat), v4 = .int .i64 (i : Int) ∧ i ≤ 64 ∧ Hid (Bk wr P 25 (setL f) ∧ Ir wr (P + 1) F v3 (natI (numsF f i)) ∧ Below P w wr ∧ P + 1 ≤ wr.heap.size)) (fun _ v4 _ => 64 - (intOf v4).toNat)
  case atStart => exact ⟨0, [], rfl, by omega, Lib.hid ⟨HN.out.1, Ir.nil _ _, HN.out.2, HN.out.1.lt⟩⟩
  case round =>
    obtain ⟨i, F, rfl, hi, HR⟩ := hrel
    clear HN
    rcases Nat.lt_or_ge i 64 with hlt | hge
    · have hc := HR.out.1.c i (set_at _ hlt)
      cases hfi : f i with
      | true =>
        rw [hfi] at hc
        have HF := Lib.hid hfi
        have hl : (natI (numsF f i)).length ≤ 64 := by rw [List.length_map, nums_len]; have := cntF_le f i; omega
        have HL := Lib.hid hl
        clear hfi hl
        go_wp2_with (at_builtin; refine wpList_ir1 (w0 := wr) rfl (.tmp 12) (.tmp 14) rfl HR.out.2.1 (i : Int) rfl rfl rfl (by have := HL.out; omega) HR.out.2.2.2 ?_; intro v' F' w' k1 k2 k3; have K := Lib.hid (And.intro k1 (And.intro k2 k3)); clear k1 k2 k3)
        go_roundw
        case rel =>
          obtain ⟨k1, k2, k3⟩ := K.out
          have hb : Below P wr w' := k2.toBelow (by have := HR.out.2.2.2; omega) (fun x hx => by have := (HR.out.2.1.ty x hx).1; omega)
          refine ⟨i + 1, F', by go_num, by omega, Lib.hid ⟨HR.out.1.out k2 (fun hx => by have := (HR.out.2.1.ty P hx).1; omega), by rw [nums_yes HF.out, natI_snoc]; exact k1, HR.out.2.2.1.trans hb, Nat.le_trans HR.out.2.2.2 k2.size⟩⟩
        case measure => simp [intOf]; omega
      | false =>
        rw [hfi] at hc
        have HF := Lib.hid hfi
        clear hfi
        go_wp2
        go_roundw
        case rel => exact ⟨i + 1, F, by go_num, by omega, Lib.hid ⟨HR.out.1, by rw [nums_no HF.out]; exact HR.out.2.1, HR.out.2.2⟩⟩
        case measure => simp [intOf]; omega
    · obtain rfl : i = 64 := by omega
      go_wp2
      go_ret
      rw [← HP.out]
      exact ⟨_, F, rfl, HR.out.2.1.weak (by omega), HR.out.2.2.1⟩
end Go.Proofs.YtngfopnefmknoaaDoor
