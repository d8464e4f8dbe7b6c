/- Masks: the sequence of the subsets. -/
import Derived.Test.YtngfopnefmknoaaDoorMkEach
import Derived.Test.YtngfopnefmknoaaDoorMkSub
import Derived.Laws.Bits64b
set_option linter.all false
namespace Go.Proofs.YtngfopnefmknoaaDoor
open Go.RowKit Go.Shelf
attribute [local go_sem] Oper.semAt_some
set_option maxRecDepth 100000
theorem subsets_any (m : Nat) (w : World) : Calls Tryd.prog 36 #[.int .u64 (m : Int)] w fun e w' =>
    e = .returned (.func (.func 42) #[] #[.pointer (some ⟨w.heap.size, 0, none⟩)]) ∧ w' = w.alloc (.cells #[.int .u64 (m : Int)] 23) := by
  go_enter Tryd.func36, Tryd.ntmps36
  go_wp2
  go_ret
  exact ⟨rfl, rfl⟩
theorem sub_le {m k : Nat} (h : Wd m) (hk : k < topM m) : subM m k ≤ m := by
  rcases Nat.lt_or_ge k (topM m - 1) with h1 | h1
  · have := sub_rise h1 (show topM m - 1 < topM m by omega)
    rw [sub_last h] at this
    omega
  · rw [show k = topM m - 1 by omega, sub_last h]
    exact Nat.le_refl _
set_option maxHeartbeats 4000000 in
theorem subs1_any (n rb : Nat) (m : Nat) (hm : Wd m) (lw : Nat) (J Jx : Nat → World → Prop) (W : World) (hn : 1 ≤ n)
    (hS : ∀ k A, J k A → Boxed A rb 23 (.int .u64 (m : Int)))
    (hY : ∀ k W1, k < topM m → J k W1 → YieldAt Fence.wide (n - 1) Tryd.prog lw #[.int .u64 ((subM m k : Nat) : Int)] W1 fun e W' =>
      (e = .returned (.bool true) ∧ J (k + 1) W') ∨ (e = .returned (.bool false) ∧ Jx (k + 1) W')) (h0 : J 0 W) :
    CallsIn Fence.wide n Tryd.prog 42 #[.func (.yield lw) #[] #[], .pointer (some ⟨rb, 0, none⟩)] W fun e W' => (∃ v, e = .returned v) ∧
      (J (topM m) W' ∨ ∃ k, k < topM m ∧ Jx (k + 1) W') := by
  have hs := hS _ _ h0
  have hbox := hs.cell
  have HS := Lib.hid hS
  have HY := Lib.hid hY
  have H0 := Lib.hid h0
  have HT := Lib.hid (top_pos m)
  clear hS hY h0 hs
  refine callsIn_of_wp Tryd.func42 rfl trivial ?_ rfl
  simp only [Tryd.ntmps42, List.size_toArray, List.length_cons, List.length_nil, Nat.reduceAdd, Nat.reduceSub, Array.replicate_succ, Array.replicate_zero, List.push_toArray, List.append_toArray, List.nil_append, List.cons_append]
  gi_wp2
  gi_loopw [3] (fun v wr => ∃ k s : Nat, v = .int .u64 (s : Int) ∧ Hid (s = subM m k ∧ k < topM m ∧ J k wr)) (fun v wr => m - (intOf v).toNat)
  case atStart => exact ⟨0, 0, rfl, Lib.hid ⟨(sub_zero m).symm, HT.out, H0.out⟩⟩
  case round =>
    obtain ⟨k, s, rfl, HR⟩ := hrel
    clear hbox
    obtain ⟨fn, tmps, assign, body, hy, hR⟩ := HY.out k _ HR.out.2.1 HR.out.2.2
    rw [← HR.out.1] at hy
    have HRY := Lib.hid hR
    have hsd : Wd s := by rw [HR.out.1]; exact wd_sub m k
    clear hR
    gi_wp2_with fail
    refine HRY.out.mono ?_
    rintro e W3 (⟨rfl, hJ3⟩ | ⟨rfl, hJx3⟩)
    · have hb3 := (HS.out _ _ hJ3).cell
      have HJ3 := Lib.hid hJ3
      clear hJ3 hy
      rcases Nat.lt_or_ge k (topM m - 1) with hlt | hge
      · have hne : ((s : Int) != (m : Int)) = true := by
          rw [bne_iff_ne]
          intro e
          have e2 : subM m k = m := by rw [← HR.out.1]; omega
          have := (sub_end hm HR.out.2.1).1 e2
          omega
        have hlt2 : s < subM m (k + 1) := by rw [HR.out.1]; exact sub_rise (by omega) (by omega)
        have hle2 : subM m (k + 1) ≤ m := sub_le hm (by omega)
        have hst := sub_step m k hm
        rw [← HR.out.1] at hst
        have hw1 := wrap_sub_u64_nat s m (18446744073709551616 - m) (by unfold Wd at hm; omega)
        have hw2 := bits_and_u64_nat ((s + (18446744073709551616 - m)) % 18446744073709551616) m (by omega) hm
        rw [hst] at hw2
        have HN := Lib.hid (show k + 1 < topM m by omega)
        obtain ⟨u, hu⟩ : ∃ u, u = subM m (k + 1) := ⟨_, rfl⟩
        rw [← hu] at hlt2 hle2 hw2
        have HU := Lib.hid hu
        generalize (s + (18446744073709551616 - m)) % 18446744073709551616 = y at hw1 hw2
        clear hst hu hlt hsd
        gi_wp2_with fail
        go_roundw
        case rel => exact ⟨k + 1, u, rfl, Lib.hid ⟨HU.out, HN.out, HJ3.out⟩⟩
        case measure => simp [intOf]; omega
      · have e1 : k = topM m - 1 := by have := HR.out.2.1; omega
        have e2 : s = m := by rw [HR.out.1]; exact (sub_end hm HR.out.2.1).2 e1
        have hne : ((m : Int) != (m : Int)) = false := by simp
        have HE := Lib.hid (show J (topM m) W3 by have := HR.out.2.1; rw [show topM m = k + 1 by omega]; exact HJ3.out)
        subst e2
        clear hge e1 hsd HR
        gi_wp2_with fail
        refine ⟨rfl, _, results_none rfl _ _ _, ?_⟩
        exact ⟨⟨_, rfl⟩, .inl HE.out⟩
    · have HJX := Lib.hid hJx3
      clear hJx3 hy
      gi_wp2_with fail
      refine ⟨rfl, _, results_none rfl _ _ _, ?_⟩
      exact ⟨⟨_, rfl⟩, .inr ⟨k, HR.out.2.1, HJX.out⟩⟩
end Go.Proofs.YtngfopnefmknoaaDoor
