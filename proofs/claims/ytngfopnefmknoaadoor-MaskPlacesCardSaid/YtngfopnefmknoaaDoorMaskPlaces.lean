/- MaskPlaces: the walk. -/
import Derived.Test.YtngfopnefmknoaaDoorMkAwake
set_option linter.all false
namespace Go.Proofs.YtngfopnefmknoaaDoor
open Go.RowKit Go.Shelf
set_option maxRecDepth 100000
theorem sel_next (f : Nat → Bool) {j : Nat} (hj : j ≤ 64) : selF f (cntF f j : Int) = nextF f ((j : Int) - 1) := by
  have h := next_spec f ((j : Int) - 1) (by omega)
  rw [show ((j : Int) - 1 + 1).toNat = j by omega] at h
  cases hn : nextF f ((j : Int) - 1) with
  | none =>
    rw [hn] at h
    refine sel_none fun i hi hf => ?_
    have hij : i < j := by
      rcases Nat.lt_or_ge i j with h1 | h1
      · exact h1
      · rw [h i h1 hi] at hf; cases hf
    have := cntF_lt f hij hf
    omega
  | some k =>
    rw [hn] at h
    obtain ⟨h1, h2, h3, h4⟩ := h
    exact sel_some h2 h3 (by rw [cnt_same h1 h4])
theorem cnt_more {f g : Nat → Bool} {i : Nat} (hi : i < 64) (h1 : f i = false) (h2 : g i = true) (h3 : ∀ j, j ≠ i → g j = f j) : cntF g 64 = cntF f 64 + 1 := by
  obtain ⟨c, hc⟩ : ∃ c, 64 = i + 1 + c := ⟨63 - i, by omega⟩
  have e1 : cntF g (i + 1 + c) = cntF g (i + 1) + cntF (fun j => g (i + 1 + j)) c := cntF_add g (i + 1) c
  have e2 : cntF f (i + 1 + c) = cntF f (i + 1) + cntF (fun j => f (i + 1 + j)) c := cntF_add f (i + 1) c
  have e3 : cntF g (i + 1) = cntF g i + 1 := by rw [cntF, h2]; rfl
  have e4 : cntF f (i + 1) = cntF f i := by rw [cntF, h1]; rfl
  have e5 : cntF g i = cntF f i := cntF_ext i fun j hj => h3 j (by omega)
  have e6 : cntF (fun j => g (i + 1 + j)) c = cntF (fun j => f (i + 1 + j)) c := cntF_ext c fun j hj => h3 _ (by omega)
  rw [hc]
  omega
theorem with_bit (m i j : Nat) (hi : i < 64) : (m ||| onlyM (i : Int)).testBit j = if j = i then true else m.testBit j := by
  rw [Nat.testBit_or, only_bit]
  by_cases e : j = i
  · subst e; rw [if_pos rfl, decide_eq_true (by omega), Bool.or_true]
  · rw [if_neg e, decide_eq_false (by omega), Bool.or_false]
theorem without_bit (m i j : Nat) (hi : i < 64) : (lessM m (onlyM (i : Int))).testBit j = if j = i then false else m.testBit j := by
  rw [less_bit, only_bit]
  by_cases e : j = i
  · subst e; rw [if_pos rfl, decide_eq_true (by omega)]; simp
  · rw [if_neg e, decide_eq_false (by omega)]; simp
theorem with_same {m i : Nat} (hm : Wd m) (hi : i < 64) (h : m.testBit i = true) : m ||| onlyM (i : Int) = m := by
  refine eq_bits (wd_or hm (wd_only _)) hm fun j hj => ?_
  rw [with_bit m i j hi]
  split
  · rename_i e; rw [e, h]
  · rfl
theorem without_same {m i : Nat} (hm : Wd m) (hi : i < 64) (h : m.testBit i = false) : lessM m (onlyM (i : Int)) = m := by
  refine eq_bits (wd_less _ hm) hm fun j hj => ?_
  rw [without_bit m i j hi]
  split
  · rename_i e; rw [e, h]
  · rfl
theorem cnt_with {m i : Nat} (hi : i < 64) (h : m.testBit i = false) : cntF (m ||| onlyM (i : Int)).testBit 64 = cntF m.testBit 64 + 1 :=
  cnt_more hi h (by rw [with_bit m i i hi, if_pos rfl]) fun j hj => by rw [with_bit m i j hi, if_neg hj]
theorem cnt_without {m i : Nat} (hi : i < 64) (h : m.testBit i = true) : cntF m.testBit 64 = cntF (lessM m (onlyM (i : Int))).testBit 64 + 1 :=
  cnt_more hi (by rw [without_bit m i i hi, if_pos rfl]) h fun j hj => by rw [without_bit m i j hi, if_neg hj]
set_option maxHeartbeats 8000000 in
theorem maskplaces_walk {m : Nat} (hm : Wd m) (w : World) (hG : GlobM w) : Calls Tryd.prog 6 #[.int .u64 (m : Int)] w fun e w' => e = .returned (.bool true) ∧ Below w.heap.size w w' := by
  have HA := Lib.hid (awake_any w hG)
  have HG := Lib.hid hG
  have HM := Lib.hid hm
  have C1 := Lib.hid (fun W => count_any hm W)
  have hle := cntF_le m.testBit 64
  obtain ⟨cc, hcc⟩ : ∃ cc, cc = cntF m.testBit 64 := ⟨_, rfl⟩
  rw [← hcc] at C1 hle
  have HCC := Lib.hid hcc
  have u1 : IntKind.u64.wrap (m : Int) = (m : Int) := by rw [IntKind.wrap_u64]; unfold Wd at hm; omega
  clear hG hm hcc
  go_enter Tryd.func6, Tryd.ntmps6
  go_wp2_with fail
  refine HA.out.mono ?_
  rintro e w1 ⟨rfl, hb1⟩
  have HB1 := Lib.hid hb1
  clear hb1 HA
  go_wp2_with fail
  go_loopw [4, 5] (fun v4 v5 wr => ∃ (c : Nat) (i : Int), v4 = .int .i64 (c : Int) ∧ v5 = .int .i64 i ∧ -1 ≤ i ∧ i ≤ 64 ∧ Hid (c = cntF m.testBit i.toNat ∧ Below w.heap.size w wr)) (fun _ v5 _ => (64 - intOf v5).toNat)
  case atStart => exact ⟨0, -1, rfl, rfl, by omega, by omega, Lib.hid ⟨rfl, HB1.out⟩⟩
  case round =>
    obtain ⟨c, i, rfl, rfl, hi0, hi1, HR⟩ := hrel
    clear HB1
    by_cases hlt : i < 64
    · have hg := globM_below HG.out HR.out.2 (Nat.le_refl _)
      have hin : In i := by unfold In; omega
      have hin1 : In (i + 1) := by unfold In; omega
      have n1 : IntKind.i64.wrap (i + 1) = i + 1 := by rw [IntKind.wrap_i64]; omega
      have N1 := Lib.hid (next_any HM.out i hin wr hg)
      have R1 := Lib.hid (rank_any HM.out (i + 1) hin1 wr)
      have hrk : rankF m.testBit (i + 1) = cntF m.testBit (i + 1).toNat := by unfold rankF; rw [show min (i + 1).toNat 64 = (i + 1).toNat by omega]
      rw [hrk] at R1
      have hr1 : cntF m.testBit (i + 1).toNat ≤ (i + 1).toNat := cntF_le _ _
      have S1 := Lib.hid (select_any HM.out (cntF m.testBit (i + 1).toNat : Int) (by unfold In; omega) wr hg)
      have hsn := sel_next m.testBit (j := (i + 1).toNat) (by omega)
      rw [show (((i + 1).toNat : Nat) : Int) - 1 = i by omega] at hsn
      rw [hsn] at S1
      obtain ⟨r, hr⟩ : ∃ r, r = nextF m.testBit i := ⟨_, rfl⟩
      rw [← hr] at N1 S1
      obtain ⟨x, hx⟩ : ∃ x, x = ((r.getD 0 : Nat) : Int) := ⟨_, rfl⟩
      obtain ⟨y, hy⟩ : ∃ y, y = r.isSome := ⟨_, rfl⟩
      unfold SelP at S1
      unfold optV at N1 S1
      rw [← hx, ← hy] at N1 S1
      have R2 := Lib.hid (fun W => rank_any HM.out (max i 0) (by unfold In; omega) W)
      have hrk2 : rankF m.testBit (max i 0) = c := by unfold rankF; rw [HR.out.1, show min (max i 0).toNat 64 = i.toNat by omega]
      rw [hrk2] at R2
      generalize cntF m.testBit (i + 1).toNat = q at R1 S1
      clear hrk hsn hr hx hy hrk2 hr1 hg hin1
      have t1 : (x != x) = false := by simp
      have t2 : (y != y) = false := by simp
      have t3 : ((c : Int) != (c : Int)) = false := by simp
      go_upto_region 10 with (first
        | (go_at_call 11; (with_reducible refine N1.out.mono ?_); rintro e w' ⟨rfl, rfl⟩)
        | (go_at_call 21; (with_reducible refine R1.out.mono ?_); rintro e w' ⟨rfl, rfl⟩)
        | (go_at_call 9; (with_reducible refine S1.out.mono ?_); rintro e w3 ⟨rfl, hb3⟩; have HB3 := Lib.hid (HR.out.2.trans (hb3.mono HR.out.2.size)); clear hb3))
      clear N1 R1 S1
      rcases (show i = -1 ∨ 0 ≤ i by omega) with he | he
      · subst he
        rw [show max (-1 : Int) 0 = 0 from rfl] at R2
        go_wp2_with (go_at_call 21; (with_reducible refine (R2.out _).mono ?_); rintro e w' ⟨rfl, rfl⟩)
        go_roundw
        case rel => exact ⟨c, 0, rfl, rfl, by omega, by omega, Lib.hid ⟨HR.out.1, HB3.out⟩⟩
        case measure => simp [intOf]
      · obtain ⟨k, rfl⟩ := Int.eq_ofNat_of_zero_le he
        rw [show max (k : Int) 0 = (k : Int) by omega] at R2
        have hk : k < 64 := by omega
        have hc := HR.out.1
        rw [Int.toNat_natCast] at hc
        have hcl : c ≤ k := by rw [hc]; exact cntF_le _ _
        have hg3 := globM_below HG.out HB3.out (Nat.le_refl _)
        have H1 := Lib.hid (fun W => has_any HM.out (k : Int) hin W)
        rw [has_bit HM.out] at H1
        have W1 := Lib.hid (fun W => with_any HM.out (k : Int) hin W)
        have W2 := Lib.hid (fun W => without_any HM.out (k : Int) hin W)
        have W3 := Lib.hid (fun W => count_any (wd_or HM.out (wd_only (k : Int))) W)
        have W4 := Lib.hid (fun W => count_any (wd_less (onlyM (k : Int)) HM.out) W)
        have l1 := cntF_le (m ||| onlyM (k : Int)).testBit 64
        have l2 := cntF_le (lessM m (onlyM (k : Int))).testBit 64
        have em : max (k : Int) 0 = (k : Int) := by omega
        cases hb : m.testBit k with
        | true =>
          rw [hb] at H1
          rw [with_same HM.out hk hb] at W1
          have hcw := cnt_without hk hb
          rw [← HCC.out] at hcw
          have S2 := Lib.hid (select_any HM.out (c : Int) (by unfold In; omega) w3 hg3)
          rw [sel_some hk hb (by rw [hc])] at S2
          unfold SelP optV at S2
          simp only [Option.getD_some, Option.isSome_some] at S2
          have HNC := Lib.hid (show c + 1 = cntF m.testBit (k + 1) by rw [cntF, hb, hc]; rfl)
          generalize cntF (lessM m (onlyM (k : Int))).testBit 64 = c2 at W4 hcw l2
          generalize lessM m (onlyM (k : Int)) = m2 at W2 W4
          have a1 : IntKind.i64.wrap ((cc : Int) - 1) = (c2 : Int) := by rw [IntKind.wrap_i64]; omega
          have a2 : IntKind.i64.wrap ((c : Int) + 1) = (c : Int) + 1 := by rw [IntKind.wrap_i64]; omega
          clear hb hcw l1 l2 hc W3 hg3
          go_wp2_with (first
            | (go_at_call 21; (with_reducible refine (R2.out _).mono ?_); rintro e w' ⟨rfl, rfl⟩)
            | (go_at_call 13; (with_reducible refine (H1.out _).mono ?_); rintro e w' ⟨rfl, rfl⟩)
            | (go_at_call 18; (with_reducible refine (W2.out _).mono ?_); rintro e w' ⟨rfl, rfl⟩)
            | (go_at_call 15; (with_reducible refine (W1.out _).mono ?_); rintro e w' ⟨rfl, rfl⟩)
            | (go_at_call 23; (with_reducible refine (W4.out _).mono ?_); rintro e w' ⟨rfl, rfl⟩)
            | (go_at_call 23; (with_reducible refine (C1.out _).mono ?_); rintro e w' ⟨rfl, rfl⟩)
            | (go_at_call 9; (with_reducible refine S2.out.mono ?_); rintro e w5 ⟨rfl, hb5⟩; have HB5 := Lib.hid (HB3.out.trans (hb5.mono HB3.out.size)); clear hb5))
          go_roundw
          case rel => exact ⟨c + 1, (k : Int) + 1, by go_num, rfl, by omega, by omega, Lib.hid ⟨by rw [HNC.out, show ((k : Int) + 1).toNat = k + 1 by omega], HB5.out⟩⟩
          case measure => simp [intOf]; omega
        | false =>
          rw [hb] at H1
          rw [without_same HM.out hk hb] at W2
          have hcw := cnt_with hk hb
          rw [← HCC.out] at hcw
          have HNC := Lib.hid (show c = cntF m.testBit (k + 1) by rw [cntF, hb, hc]; rfl)
          generalize cntF (m ||| onlyM (k : Int)).testBit 64 = c2 at W3 hcw l1
          generalize m ||| onlyM (k : Int) = m2 at W1 W3
          have a1 : IntKind.i64.wrap ((cc : Int) + 1) = (c2 : Int) := by rw [IntKind.wrap_i64]; omega
          clear hb hcw l1 l2 hc W4 hg3
          go_wp2_with (first
            | (go_at_call 21; (with_reducible refine (R2.out _).mono ?_); rintro e w' ⟨rfl, rfl⟩)
            | (go_at_call 13; (with_reducible refine (H1.out _).mono ?_); rintro e w' ⟨rfl, rfl⟩)
            | (go_at_call 18; (with_reducible refine (W2.out _).mono ?_); rintro e w' ⟨rfl, rfl⟩)
            | (go_at_call 15; (with_reducible refine (W1.out _).mono ?_); rintro e w' ⟨rfl, rfl⟩)
            | (go_at_call 23; (with_reducible refine (W3.out _).mono ?_); rintro e w' ⟨rfl, rfl⟩)
            | (go_at_call 23; (with_reducible refine (C1.out _).mono ?_); rintro e w' ⟨rfl, rfl⟩))
          go_roundw
          case rel => exact ⟨c, (k : Int) + 1, rfl, rfl, by omega, by omega, Lib.hid ⟨by rw [HNC.out, show ((k : Int) + 1).toNat = k + 1 by omega], HB3.out⟩⟩
          case measure => simp [intOf]; omega
    · obtain rfl : i = 64 := by omega
      have HE := Lib.hid (show c = cc by rw [HR.out.1, HCC.out]; rfl)
      have t1 : ((c : Int) == (cc : Int)) = true := by rw [HE.out]; simp
      go_wp2_with (go_at_call 23; (with_reducible refine (C1.out _).mono ?_); rintro e w' ⟨rfl, rfl⟩)
      go_ret
      exact ⟨rfl, HR.out.2⟩
end Go.Proofs.YtngfopnefmknoaaDoor
