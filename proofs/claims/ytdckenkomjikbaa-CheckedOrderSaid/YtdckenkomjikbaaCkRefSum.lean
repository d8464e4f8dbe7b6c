/- The reference's sum of a list. -/
import Derived.Test.YtdckenkomjikbaaCkRef
import Derived.Deep.RegionWith
namespace Go.Proofs.Ytdckenkomjikbaa
open Go.RowKit
set_option maxRecDepth 100000

theorem sum_lim (l : List Int) (h : AllIn l) (hm : l.length ≤ 140737488355328) (k : Nat) : -P10 900 < sumTo l k ∧ sumTo l k < P10 900 := by
  have h2 : AllIn (l.take k) := fun x hx => h x (List.mem_of_mem_take hx)
  have h3 := sum_bd _ h2
  have h4 : (l.take k).length ≤ l.length := by simp; omega
  unfold sumTo
  exact in_P 900 (by decide) (by omega)
theorem num0 (w : World) : NumAt w (.agg #[.bool false, .slice none 0 0]) 0 := ⟨false, none, 0, 0, [], rfl, ⟨rfl, Nat.le_refl _, Nat.zero_le _, Dig.nil.allIn, .inl ⟨rfl, rfl, rfl⟩⟩, Dig.nil, Can.nil, rfl⟩

set_option maxHeartbeats 8000000 in
theorem refsum_some {b o n cap : Nat} {l : List Int} {w : World} (hl : l.length = n) (hm : n ≤ 140737488355328) (ha : AllIn l) (hn : 0 < n) (hnc : n ≤ cap) (hcm : cap ≤ maxLen) (hc : ∀ i (h : i < l.length), w.cell? ⟨b, o + i, none⟩ = some (.int .i64 l[i])) :
    Calls Try.prog 22 #[.slice (some ⟨b, o, none⟩) n cap] w (Ans w (fitV l.sum) (fitE l.sum)) := by
  unfold maxLen at hcm
  have hlt : b < w.heap.size := by have := World.block_lt_of_cell? w _ (hc 0 (by omega)); simpa using this
  obtain ⟨W0, hW0⟩ : ∃ W0, W0 = w.alloc (.cells #[.bool false, .slice none 0 0] 39) := ⟨_, rfl⟩
  have hB0 : Below w.heap.size w W0 := by rw [hW0]; exact (Below.refl w.heap.size w).alloc (Nat.le_refl _) _
  have hb0 : Box2 W0 w.heap.size (.bool false) (.slice none 0 0) := by rw [hW0]; exact heap_alloc_new _ _
  have HC : Hid (∀ W, Below w.heap.size w W → ∀ i (h : i < l.length), W.cell? ⟨b, o + i, none⟩ = some (.int .i64 l[i])) := Lib.hid fun W hW i h => (hW.cell (p := ⟨b, o + i, none⟩) hlt).trans (hc i h)
  have HLim := Lib.hid (sum_lim l ha (by omega))
  have HL := Lib.hid hl
  have HW0 := Lib.hid hW0
  have HB0 := Lib.hid hB0
  have Hb0 := Lib.hid hb0
  clear hW0 hB0 hb0 hl hc
  go_enter Try.func22, Try.ntmps22
  go_wp2_with fail
  rw [← HW0.out]
  go_loopw [5] (fun i wr => ∃ (k : Nat) (x : Bool) (a : Option Addr) (m c : Nat), i = .int .i64 k ∧ k ≤ n ∧ Hid (NumAt wr (.agg #[.bool x, .slice a m c]) (sumTo l k)) ∧ Hid (Box2 wr w.heap.size (.bool x) (.slice a m c)) ∧ Hid (Below w.heap.size w wr))
    (fun i _ => n - (intOf i).toNat)
  case atStart => exact ⟨0, false, none, 0, 0, rfl, Nat.zero_le _, Lib.hid (num0 _), Hb0, HB0⟩
  case round =>
    obtain ⟨k, x, a, m, c, rfl, hk, HN, HX, HB⟩ := hrel
    by_cases hlt : k < n
    · have hkl : k < l.length := by rw [HL.out]; exact hlt
      have hcell := HC.out wr HB.out k hkl
      have hin := Lib.hid (ha.get k hkl)
      have c0 := HX.out.c0
      have c1 := HX.out.c1
      have f0 := HX.out.fz 0
      have f1 := HX.out.fz 1
      have hlx := HX.out.lt
      go_wp2_with fail
      go_region_with (first
        | (go_at_call 30; refine (of_any l[k] _ hin.out).mono ?_; rintro e w1 ⟨v1, rfl, hv1, hb1⟩; have hB1 : Below wr.heap.size wr w1 := ((Below.refl wr.heap.size wr).drew).trans hb1; have hv1 := Lib.hid hv1; have HX1 := Lib.hid (HX.out.keep hB1 hlx); have HN1 := Lib.hid (HN.out.below hB1 (Nat.le_refl _)); have g0 := HX1.out.c0; have g1 := HX1.out.c1; have g3 := HC.out w1 (HB.out.trans (hB1.mono HB.out.size)) k hkl; have hB1 := Lib.hid hB1; clear hb1)
        | (go_at_call 31; refine (numadd_any HN1.out hv1.out (HLim.out k) (In.P hin.out _ (by decide))).mono ?_; rintro e w3 ⟨v3, rfl, ⟨x3, a3, n3, c3, d3, rfl, r3⟩, hb3⟩; have HB3 := Lib.hid (HB.out.trans ((hB1.out.trans (hb3.mono hB1.out.size)).mono HB.out.size)); have r3 := Lib.hid r3; have HX3 := Lib.hid (HX1.out.keep hb3 HX1.out.lt); have q0 := HX3.out.c0; have q1 := HX3.out.c1; have q2 := HX3.out.fz 0; have q3 := HX3.out.fz 1; have q4 := HX3.out.lt; clear hb3))
      all_goals
        have hN3 : NumAt ((w3.setCell ⟨w.heap.size, 0, none⟩ (.bool x3)).setCell ⟨w.heap.size, 1, none⟩ (.slice a3 n3 c3)) (.agg #[.bool x3, .slice a3 n3 c3]) (sumTo l (k + 1)) :=
          ⟨x3, a3, n3, c3, d3, rfl, (r3.out.1.set HX3.out _).set (HX3.out.set0 _) _, r3.out.2.1, r3.out.2.2.1, by rw [← sumTo_step l k hkl]; exact r3.out.2.2.2⟩
        have hX3 := (HX3.out.set0 (.bool x3)).set1 (.slice a3 n3 c3)
        have hB3 : Below w.heap.size w ((w3.setCell ⟨w.heap.size, 0, none⟩ (.bool x3)).setCell ⟨w.heap.size, 1, none⟩ (.slice a3 n3 c3)) := (HB3.out.setCell (Nat.le_refl _) _).setCell (Nat.le_refl _) _
        have hN3 := Lib.hid hN3
        have hX3 := Lib.hid hX3
        have hB3 := Lib.hid hB3
        go_wp2
        go_roundw
        case rel => exact ⟨k + 1, x3, a3, n3, c3, by go_num, by omega, hN3, hX3, hB3⟩
        case measure => simp [intOf]; omega
    · have hs : sumTo l k = l.sum := by unfold sumTo; rw [List.take_of_length_le (by rw [HL.out]; omega)]
      rw [hs] at HN
      clear hs
      have t1 : decide (k < n) = false := by simpa using hlt
      have c0 := HX.out.c0
      have c1 := HX.out.c1
      go_wp2_with (go_at_call 32; refine (numint_any HN.out).mono ?_; rintro e w4 ⟨rfl, hb4⟩; have HB4 := Lib.hid (HB.out.trans (hb4.mono HB.out.size)); clear hb4)
      go_ret2
      exact ⟨rfl, HB4.out⟩

theorem refsum_none (a : Option Addr) (cap : Nat) (w : World) :
    Calls Try.prog 22 #[.slice a 0 cap] w (Ans w (fitV 0) (fitE 0)) := by
  obtain ⟨W0, hW0⟩ : ∃ W0, W0 = w.alloc (.cells #[.bool false, .slice none 0 0] 39) := ⟨_, rfl⟩
  have hB0 : Below w.heap.size w W0 := by rw [hW0]; exact (Below.refl w.heap.size w).alloc (Nat.le_refl _) _
  have hb0 : Box2 W0 w.heap.size (.bool false) (.slice none 0 0) := by rw [hW0]; exact heap_alloc_new _ _
  have c0 := hb0.c0
  have c1 := hb0.c1
  have HW0 := Lib.hid hW0
  have HB0 := Lib.hid hB0
  clear hW0 hB0 hb0
  go_enter Try.func22, Try.ntmps22
  go_wp2_with fail
  rw [← HW0.out]
  refine wp_loop_rounds 1 ?_
  rw [rounds_succ]
  go_wp2_with (go_at_call 32; refine (numint_any (num0 _)).mono ?_; rintro e w4 ⟨rfl, hb4⟩; have HB4 := Lib.hid (HB0.out.trans (hb4.mono HB0.out.size)); clear hb4)
  go_ret2
  exact ⟨rfl, HB4.out⟩

theorem refsum_any {w : World} {a : Option Addr} {n cap : Nat} {l : List Int} (h : Ints w a n cap l) (hm : n ≤ 140737488355328) :
    Calls Try.prog 22 #[.slice a n cap] w (Ans w (fitV l.sum) (fitE l.sum)) := by
  have h' := h
  obtain ⟨h1, h2, h3, h5, h4⟩ := h'
  rcases Nat.eq_zero_or_pos n with rfl | hn
  · obtain rfl : l = [] := List.length_eq_zero_iff.1 h1
    exact refsum_none a cap w
  · obtain ⟨b, o, rfl, hc⟩ := h.cell hn
    exact refsum_some h1 hm h5 hn h2 h3 hc
end Go.Proofs.Ytdckenkomjikbaa
