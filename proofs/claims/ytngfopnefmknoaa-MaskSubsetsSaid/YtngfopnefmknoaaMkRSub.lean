/- Masks: the reference's k-th subset, and its list of numbers. -/
import Derived.Test.YtngfopnefmknoaaMkOf
import Derived.Test.YtngfopnefmknoaaMkRow
set_option linter.all false
namespace Go.Proofs.Ytngfopnefmknoaa
open Go.RowKit
set_option maxRecDepth 100000
theorem three_new (f : Nat → Bool) (w : World) : Bk (((w.alloc (.cells (setL f).toArray 25)).alloc (.cells (setL fun _ => false).toArray 25)).alloc (.cells (setL fun _ => false).toArray 25)) w.heap.size 25 (setL f) ∧
    Bk (((w.alloc (.cells (setL f).toArray 25)).alloc (.cells (setL fun _ => false).toArray 25)).alloc (.cells (setL fun _ => false).toArray 25)) (w.heap.size + 1) 25 (setL fun _ => false) ∧
    Bk (((w.alloc (.cells (setL f).toArray 25)).alloc (.cells (setL fun _ => false).toArray 25)).alloc (.cells (setL fun _ => false).toArray 25)) (w.heap.size + 2) 25 (setL fun _ => false) ∧
    Below w.heap.size w (((w.alloc (.cells (setL f).toArray 25)).alloc (.cells (setL fun _ => false).toArray 25)).alloc (.cells (setL fun _ => false).toArray 25)) := by
  have h := two_new (w.alloc (.cells (setL f).toArray 25))
  rw [World.size_alloc] at h
  have k : Below w.heap.size w (w.alloc (.cells (setL f).toArray 25)) := (Below.refl _ w).alloc (Nat.le_refl _) _
  exact ⟨(Bk.new w _ _).keep h.2.2 (by omega), h.1, h.2.1, k.trans (h.2.2.mono (by omega))⟩
set_option maxHeartbeats 1000000 in
theorem rsub_any (f : Nat → Bool) {n : Nat} (hn : Wd n) (w : World) : Calls Try.prog 13 #[setV f, .int .u64 (n : Int)] w fun e w' => e = .returned (setV fun j => f j && n.testBit (cntF f j)) ∧ Below w.heap.size w w' := by
  obtain ⟨W, hW⟩ : ∃ W, W = ((w.alloc (.cells (setL f).toArray 25)).alloc (.cells (setL fun _ => false).toArray 25)).alloc (.cells (setL fun _ => false).toArray 25) := ⟨_, rfl⟩
  obtain ⟨P, hP⟩ : ∃ P, P = w.heap.size := ⟨_, rfl⟩
  have HN := Lib.hid (three_new f w)
  rw [← hW, ← hP] at HN
  have HP := Lib.hid hP
  go_enter Try.func13, Try.ntmps13
  go_wp2
  change Code.wp _ _ _ _ (((w.alloc (.cells (setL f).toArray 25)).alloc (.cells (setL fun _ => false).toArray 25)).alloc (.cells (setL fun _ => false).toArray 25))
  rw [← hW, ← HP.out]
  clear hW hP
  go_loopw [1, 6] (fun v1 v6 wr => ∃ i y : Nat, v1 = .int .u64 (y : Int) ∧ v6 = .int .i64 (i : Int) ∧ i ≤ 64 ∧ Hid (y = n / 2 ^ cntF f i ∧ Bk wr P 25 (setL f) ∧ Bk wr (P + 1) 25 (setL fun _ => false) ∧ Bk wr (P + 2) 25 (setL fun j => decide (j < i) && (f j && n.testBit (cntF f j))) ∧ Below P w wr)) (fun _ v6 _ => 64 - (intOf v6).toNat)
  case atStart => exact ⟨0, n, rfl, rfl, by omega, Lib.hid ⟨by simp [cntF], HN.out.1, HN.out.2.1, by simpa using HN.out.2.2.1, HN.out.2.2.2⟩⟩
  case round =>
    obtain ⟨i, y, rfl, rfl, hi, HR⟩ := hrel
    clear HN
    rcases Nat.lt_or_ge i 64 with hlt | hge
    · have hc0 := HR.out.2.1.c i (set_at _ hlt)
      have hc := HR.out.2.2.2.1.c i (set_at _ hlt)
      have hf := HR.out.2.2.2.1.fz i
      have hyn : y < 18446744073709551616 := by rw [HR.out.1]; have := Nat.div_le_self n (2 ^ cntF f i); unfold Wd at hn; omega
      have hbi : ((y : Int) % 2 == 1) = decide (y % 2 = 1) := by rw [Bool.eq_iff_iff, beq_iff_eq, decide_eq_true_eq]; omega
      obtain ⟨z, hz0⟩ : ∃ z, z = y / 2 := ⟨_, rfl⟩
      have hxi : (y : Int) / 2 = (z : Int) := by omega
      have hzi : IntKind.u64.wrap (z : Int) = (z : Int) := by rw [IntKind.wrap_u64]; omega
      have HZ := Lib.hid hz0
      cases hfi : f i with
      | true =>
        rw [hfi] at hc0
        have hnx : Hid (setL (updF (fun j => decide (j < i) && (f j && n.testBit (cntF f j))) i (decide (y % 2 = 1))) = setL (fun j => decide (j < i + 1) && (f j && n.testBit (cntF f j)))) := Lib.hid (set_ext fun j hj => by
          unfold updF
          split
          · rename_i e; rw [e, decide_eq_true (show i < i + 1 by omega), Bool.true_and, hfi, Bool.true_and, bit_div, HR.out.1]
          · rename_i e; rw [show decide (j < i + 1) = decide (j < i) from decide_eq_decide.2 (by omega)])
        have HF := Lib.hid hfi
        clear hz0 hfi hn
        go_wp2
        go_roundw
        case rel =>
          refine ⟨i + 1, z, rfl, by go_num, by omega, Lib.hid ⟨by rw [HZ.out, HR.out.1, cntF, HF.out]; exact half_pow _ _, HR.out.2.1.other (by omega) _ _, HR.out.2.2.1.other (by omega) _ _, ?_, HR.out.2.2.2.2.setCell (p := ⟨P + 2, i, none⟩) (by show P ≤ P + 2; omega) _⟩⟩
          rw [← hnx.out, ← set_set]
          exact HR.out.2.2.2.1.set _ _
        case measure => simp [intOf]; omega
      | false =>
        rw [hfi] at hc0
        have hnx : Hid (setL (fun j => decide (j < i) && (f j && n.testBit (cntF f j))) = setL (fun j => decide (j < i + 1) && (f j && n.testBit (cntF f j)))) := Lib.hid (set_ext fun j hj => by
          rcases Nat.lt_trichotomy j i with h | h | h
          · rw [decide_eq_true h, decide_eq_true (show j < i + 1 by omega)]
          · rw [h, hfi]; simp
          · rw [decide_eq_false (show ¬ j < i by omega), decide_eq_false (show ¬ j < i + 1 by omega)])
        have HF := Lib.hid hfi
        clear hz0 hfi hn hc hf hxi hzi HZ hbi
        go_wp2
        go_roundw
        case rel => exact ⟨i + 1, y, rfl, by go_num, by omega, Lib.hid ⟨by rw [HR.out.1, cntF, HF.out]; rfl, HR.out.2.1, HR.out.2.2.1, by rw [← hnx.out]; exact HR.out.2.2.2.1, HR.out.2.2.2.2⟩⟩
        case measure => simp [intOf]; omega
    · obtain rfl : i = 64 := by omega
      have HS := Lib.hid (set_ext (f := fun j => decide (j < 64) && (f j && n.testBit (cntF f j))) (g := fun j => f j && n.testBit (cntF f j)) fun j hj => by rw [decide_eq_true hj, Bool.true_and])
      have h2 := HR.out.2.2.2.1
      rw [HS.out] at h2
      have H2 := Lib.hid h2
      clear h2
      go_wp2_with (first
        | (refine wpList_load_set rfl (.tmp 5) rfl rfl H2.out ?_)
        | (refine wpList_store_set rfl (.tmp 4) (.tmp 21) rfl rfl rfl HR.out.2.2.1 (set_len _) ?_; intro w2 k1 k2 k3; have K1 := Lib.hid k1; have K3 := Lib.hid (HR.out.2.2.2.2.trans (k3 P (by omega))); clear k1 k2 k3))
      exact bodyPost_ret (res_set rfl rfl K1.out) rfl ⟨rfl, by rw [← HP.out]; exact K3.out⟩
abbrev natI (l : List Nat) : List Int := l.map fun (x : Nat) => (x : Int)
theorem natI_snoc (l : List Nat) (x : Nat) : natI (l ++ [x]) = natI l ++ [(x : Int)] := by simp [natI]
set_option maxHeartbeats 1000000 in
theorem rnums_any (f : Nat → Bool) (w : World) : Calls Try.prog 15 #[setV f] w fun e w' => ∃ v F, e = .returned v ∧ Ir w' w.heap.size F v (natI (numsF f 64)) ∧ Below w.heap.size w w' := by
  obtain ⟨W, hW⟩ : ∃ W, W = w.alloc (.cells (setL f).toArray 25) := ⟨_, rfl⟩
  obtain ⟨P, hP⟩ : ∃ P, P = w.heap.size := ⟨_, rfl⟩
  have HN := Lib.hid (show Bk W P 25 (setL f) ∧ Below P w W by rw [hW, hP]; exact ⟨Bk.new w _ _, (Below.refl _ w).alloc (Nat.le_refl _) _⟩)
  have HP := Lib.hid hP
  go_enter Try.func15, Try.ntmps15
  go_wp2
  change Code.wp _ _ _ _ (w.alloc (.cells (setL f).toArray 25))
  rw [← hW, ← HP.out]
  clear hW hP
  go_loopw [3, 4] (fun v3 v4 wr => ∃ (i : Nat) (F : List Nat), v4 = .int .i64 (i : Int) ∧ i ≤ 64 ∧ Hid (Bk wr P 25 (setL f) ∧ Ir wr (P + 1) F v3 (natI (numsF f i)) ∧ Below P w wr ∧ P + 1 ≤ wr.heap.size)) (fun _ v4 _ => 64 - (intOf v4).toNat)
  case atStart => exact ⟨0, [], rfl, by omega, Lib.hid ⟨HN.out.1, Ir.nil _ _, HN.out.2, HN.out.1.lt⟩⟩
  case round =>
    obtain ⟨i, F, rfl, hi, HR⟩ := hrel
    clear HN
    rcases Nat.lt_or_ge i 64 with hlt | hge
    · have hc := HR.out.1.c i (set_at _ hlt)
      cases hfi : f i with
      | true =>
        rw [hfi] at hc
        have HF := Lib.hid hfi
        have hl : (natI (numsF f i)).length ≤ 64 := by rw [List.length_map, nums_len]; have := cntF_le f i; omega
        have HL := Lib.hid hl
        clear hfi hl
        go_wp2_with (at_builtin; refine wpList_ir1 (w0 := wr) rfl (.tmp 12) (.tmp 14) rfl HR.out.2.1 (i : Int) rfl rfl rfl (by have := HL.out; omega) HR.out.2.2.2 ?_; intro v' F' w' k1 k2 k3; have K := Lib.hid (And.intro k1 (And.intro k2 k3)); clear k1 k2 k3)
        go_roundw
        case rel =>
          obtain ⟨k1, k2, k3⟩ := K.out
          have hb : Below P wr w' := k2.toBelow (by have := HR.out.2.2.2; omega) (fun x hx => by have := (HR.out.2.1.ty x hx).1; omega)
          refine ⟨i + 1, F', by go_num, by omega, Lib.hid ⟨HR.out.1.out k2 (fun hx => by have := (HR.out.2.1.ty P hx).1; omega), by rw [nums_yes HF.out, natI_snoc]; exact k1, HR.out.2.2.1.trans hb, Nat.le_trans HR.out.2.2.2 k2.size⟩⟩
        case measure => simp [intOf]; omega
      | false =>
        rw [hfi] at hc
        have HF := Lib.hid hfi
        clear hfi
        go_wp2
        go_roundw
        case rel => exact ⟨i + 1, F, by go_num, by omega, Lib.hid ⟨HR.out.1, by rw [nums_no HF.out]; exact HR.out.2.1, HR.out.2.2⟩⟩
        case measure => simp [intOf]; omega
    · obtain rfl : i = 64 := by omega
      go_wp2
      go_ret
      rw [← HP.out]
      exact ⟨_, F, rfl, HR.out.2.1.weak (by omega), HR.out.2.2.1⟩
end Go.Proofs.Ytngfopnefmknoaa
