/- The reference's product of a list. -/
import Derived.Test.YtdckenkomjikbaaCkRefSum
import Derived.Test.YtdckenkomjikbaaCkProd
namespace Go.Proofs.Ytdckenkomjikbaa
open Go.RowKit
set_option maxRecDepth 100000

theorem prd_ne {l : List Int} (h : ∀ x ∈ l, x ≠ 0) : prd l ≠ 0 := by
  induction l with
  | nil => simp [prd]
  | cons x l ih => exact Int.mul_ne_zero (h x (by simp)) (ih fun y hy => h y (by simp [hy]))
theorem prd_grow {l : List Int} (h : ∀ x ∈ l, x ≠ 0) (k : Nat) : (prd (l.take k)).natAbs ≤ (prd l).natAbs := by
  conv => rhs; rw [← List.take_append_drop k l, prd_append, Int.natAbs_mul]
  have : prd (l.drop k) ≠ 0 := prd_ne fun x hx => h x (List.mem_of_mem_drop hx)
  have h1 : 1 ≤ (prd (l.drop k)).natAbs := by omega
  have := Nat.mul_le_mul_left (prd (l.take k)).natAbs h1
  omega
theorem prd_out {l : List Int} (h : ∀ x ∈ l, x ≠ 0) (k : Nat) {ds : List Int} {b : Bool} (hc : Can ds) (hd : Dig ds) (hs : (if b then -val ds else val ds) = prd (l.take k)) (hn : 40 < ds.length) : fitV (prd l) = 0 ∧ fitE (prd l) = 30 := by
  have g := prd_grow h k
  have hv : P10 40 ≤ val ds := by
    rcases hc with rfl | hc
    · simp at hn
    · exact Int.le_trans (P10_mono (by omega)) hc
  have e : P10 40 = 10000000000000000000000000000000000000000 := by decide
  have : prd l < -9223372036854775808 ∨ 9223372036854775807 < prd l := by
    cases b <;> simp at hs <;> omega
  exact ⟨fitV_no this, fitE_no this⟩
theorem prd_lim {ds : List Int} {b : Bool} {p : Int} (hd : Dig ds) (hs : (if b then -val ds else val ds) = p) (hn : ds.length ≤ 40) : -P10 300 < p ∧ p < P10 300 := by
  have h1 := val_lt hd
  have h2 := val_pos hd
  have h3 := P10_mono (show ds.length ≤ 300 by omega)
  cases b <;> simp at hs <;> omega
theorem ne_mem {l : List Int} (h : ∀ j (hj : j < l.length), l[j] ≠ 0) : ∀ x ∈ l, x ≠ 0 := fun x hx => by
  obtain ⟨j, hj, rfl⟩ := List.mem_iff_getElem.1 hx
  exact h j hj

set_option maxHeartbeats 8000000 in
theorem refprod_some {b o n cap : Nat} {l : List Int} {w : World} (hl : l.length = n) (ha : AllIn l) (hn : 0 < n) (hnc : n ≤ cap) (hcm : cap ≤ maxLen) (hc : ∀ i (h : i < l.length), w.cell? ⟨b, o + i, none⟩ = some (.int .i64 l[i])) :
    Calls Try.prog 24 #[.slice (some ⟨b, o, none⟩) n cap] w (Ans w (fitV (prd l)) (fitE (prd l))) := by
  unfold maxLen at hcm
  have hlt : b < w.heap.size := by have := World.block_lt_of_cell? w _ (hc 0 (by omega)); simpa using this
  have HC : Hid (∀ W, Below w.heap.size w W → ∀ i (h : i < l.length), W.cell? ⟨b, o + i, none⟩ = some (.int .i64 l[i])) := Lib.hid fun W hW i h => (hW.cell (p := ⟨b, o + i, none⟩) hlt).trans (hc i h)
  have HL := Lib.hid hl
  clear hl
  go_enter Try.func24, Try.ntmps24
  go_wp2_with fail
  go_loop [4] (fun i => ∃ k : Nat, i = .int .i64 k ∧ k ≤ n ∧ Hid (∀ j (hj : j < l.length), j < k → l[j] ≠ 0)) (fun i => n - (intOf i).toNat)
  case atStart => exact ⟨0, rfl, Nat.zero_le _, Lib.hid fun j hj h => absurd h (by omega)⟩
  case round =>
    obtain ⟨k, rfl, hk, HZ⟩ := hrel
    by_cases hlt : k < n
    · have hkl : k < l.length := by rw [HL.out]; exact hlt
      have hcell := hc k hkl
      by_cases h0 : l[k] = 0
      · have t1 : (l[k] == 0) = true := by simp [h0]
        have V := Lib.hid (prd_zero l k hkl h0)
        clear h0
        go_wp2
        go_ret2
        exact ⟨ret2 (by rw [V.out]; rfl) (by rw [V.out]; rfl), Below.refl _ _⟩
      · have t1 : (l[k] == 0) = false := by simpa using h0
        have HN : Hid (∀ j (hj : j < l.length), j < k + 1 → l[j] ≠ 0) := Lib.hid fun j hj h => by
          rcases Nat.lt_or_ge j k with h2 | h2
          · exact HZ.out j hj h2
          · obtain rfl : j = k := by omega
            exact h0
        clear h0
        go_wp2
        go_round
        case rel => exact ⟨k + 1, by go_num, by omega, HN⟩
        case measure => simp [intOf]; omega
    · have hall := Lib.hid (ne_mem fun j hj => HZ.out j hj (by have := HL.out; omega))
      have t1 : decide (k < n) = false := by simpa using hlt
      clear hc HZ
      go_wp2_with (go_at_call 30; refine (of_any 1 _ (by unfold In; omega)).mono ?_; rintro e w0 ⟨v0, rfl, ⟨x0, a0, m0, c0, d0, rfl, r0⟩, hb0⟩; have r0 := Lib.hid r0; have hb0 := Lib.hid hb0)
      have hX0 : Box2 (w0.alloc (.cells #[.bool x0, .slice a0 m0 c0] 39)) w0.heap.size (.bool x0) (.slice a0 m0 c0) := heap_alloc_new _ _
      have hB1 : Below w.heap.size w (w0.alloc (.cells #[.bool x0, .slice a0 m0 c0] 39)) := hb0.out.alloc hb0.out.size _
      have hR1 : Ints (w0.alloc (.cells #[.bool x0, .slice a0 m0 c0] 39)) a0 m0 c0 d0 := r0.out.1.below ((Below.refl _ w0).alloc (Nat.le_refl _) _) (Nat.le_refl _)
      have hm0 : m0 ≤ 40 := by
        have h1 := r0.out.2.2.1.len (k := 1) (by have := r0.out.2.2.2; have := val_pos r0.out.2.1; have e : P10 1 = 10 := by decide
                                                 cases x0 <;> simp at this <;> simp_all <;> omega)
        have := r0.out.1.1; omega
      have hg : w.heap.size ≤ w0.heap.size := hb0.out.size
      generalize w0.heap.size = g at hX0 hg ⊢
      generalize w0.alloc (.cells #[.bool x0, .slice a0 m0 c0] 39) = W1 at hX0 hB1 hR1 ⊢
      have hR1 := Lib.hid hR1
      have hX0 := Lib.hid hX0
      have hB1 := Lib.hid hB1
      go_loopw [6] (fun i wr => ∃ (k : Nat) (x : Bool) (a : Option Addr) (m c : Nat) (ds : List Int), i = .int .i64 k ∧ k ≤ n ∧ m ≤ 40 ∧ Hid (Ints wr a m c ds ∧ Dig ds ∧ Can ds ∧ (if x then -val ds else val ds) = prd (l.take k)) ∧ Hid (Box2 wr g (.bool x) (.slice a m c)) ∧ Hid (Below w.heap.size w wr))
        (fun i _ => n - (intOf i).toNat)
      case atStart => exact ⟨0, x0, a0, m0, c0, d0, rfl, Nat.zero_le _, hm0, Lib.hid ⟨hR1.out, r0.out.2.1, r0.out.2.2.1, r0.out.2.2.2⟩, hX0, hB1⟩
      case round =>
        clear hX0 hB1 hR1 hm0
        obtain ⟨k, x, a, m, c, ds, rfl, hk, hm40, HR, HX, HB⟩ := hrel
        have HN : Hid (NumAt wr (.agg #[.bool x, .slice a m c]) (prd (l.take k))) := Lib.hid ⟨x, a, m, c, ds, rfl, HR.out⟩
        by_cases hlt : k < n
        · have hkl : k < l.length := by rw [HL.out]; exact hlt
          have hcell := HC.out wr HB.out k hkl
          have hin := Lib.hid (ha.get k hkl)
          have HLim := Lib.hid (prd_lim HR.out.2.1 HR.out.2.2.2 (by rw [HR.out.1.1]; exact hm40))
          have c0 := HX.out.c0
          have c1 := HX.out.c1
          have f0 := HX.out.fz 0
          have f1 := HX.out.fz 1
          have hlx := HX.out.lt
          go_wp2_with fail
          go_region_with (first
            | (go_at_call 30; refine (of_any l[k] _ hin.out).mono ?_; rintro e w1 ⟨v1, rfl, hv1, hb1⟩; have hB1 : Below wr.heap.size wr w1 := ((Below.refl wr.heap.size wr).drew).trans hb1; have hv1 := Lib.hid hv1; have HX1 := Lib.hid (HX.out.keep hB1 hlx); have HN1 := Lib.hid (HN.out.below hB1 (Nat.le_refl _)); have g0 := HX1.out.c0; have g1 := HX1.out.c1; have g3 := HC.out w1 (HB.out.trans (hB1.mono HB.out.size)) k hkl; have hB1 := Lib.hid hB1; clear hb1)
            | (go_at_call 37; refine (nummul_any HN1.out hv1.out HLim.out (In.P hin.out _ (by decide))).mono ?_; rintro e w3 ⟨v3, rfl, ⟨x3, a3, n3, c3, d3, rfl, r3⟩, hb3⟩; have HB3 := Lib.hid (HB.out.trans ((hB1.out.trans (hb3.mono hB1.out.size)).mono HB.out.size)); have r3 := Lib.hid r3; have HX3 := Lib.hid (HX1.out.keep hb3 HX1.out.lt); have q0 := HX3.out.c0; have q1 := HX3.out.c1; have q2 := HX3.out.fz 0; have q3 := HX3.out.fz 1; have q4 := HX3.out.lt; clear hb3))
          all_goals
            have hR3 : Ints ((w3.setCell ⟨g, 0, none⟩ (.bool x3)).setCell ⟨g, 1, none⟩ (.slice a3 n3 c3)) a3 n3 c3 d3 ∧ Dig d3 ∧ Can d3 ∧ (if x3 then -val d3 else val d3) = prd (l.take (k + 1)) :=
              ⟨(r3.out.1.set HX3.out _).set (HX3.out.set0 _) _, r3.out.2.1, r3.out.2.2.1, by rw [prd_step l k hkl]; exact r3.out.2.2.2⟩
            have hX3 := (HX3.out.set0 (.bool x3)).set1 (.slice a3 n3 c3)
            have hB3 : Below w.heap.size w ((w3.setCell ⟨g, 0, none⟩ (.bool x3)).setCell ⟨g, 1, none⟩ (.slice a3 n3 c3)) := (HB3.out.setCell hg _).setCell hg _
            have hR3 := Lib.hid hR3
            have y1 := hX3.c1
            have hX3 := Lib.hid hX3
            have hB3 := Lib.hid hB3
            clear q0 q1 q2 q3 c0 c1 f0 f1
            by_cases h40 : 40 < n3
            · have V := Lib.hid (prd_out hall.out (k + 1) hR3.out.2.2.1 hR3.out.2.1 hR3.out.2.2.2 (by rw [hR3.out.1.1]; exact h40))
              have t1 : decide ((40 : Int) < (n3 : Int)) = true := decide_eq_true (by omega)
              have t2 : decide (40 < n3) = true := decide_eq_true h40
              clear h40
              go_wp2
              go_ret2
              exact ⟨ret2 V.out.1.symm V.out.2.symm, hB3.out⟩
            · have t1 : decide ((40 : Int) < (n3 : Int)) = false := decide_eq_false (by omega)
              have t2 : decide (40 < n3) = false := decide_eq_false h40
              go_wp2
              go_roundw
              case rel => exact ⟨k + 1, x3, a3, n3, c3, d3, by go_num, by omega, by omega, hR3, hX3, hB3⟩
              case measure => simp [intOf]; omega
        · have hs : prd (l.take k) = prd l := by rw [List.take_of_length_le (by rw [HL.out]; omega)]
          rw [hs] at HN
          clear hs
          have t1 : decide (k < n) = false := by simpa using hlt
          have c0 := HX.out.c0
          have c1 := HX.out.c1
          go_wp2_with (go_at_call 32; refine (numint_any HN.out).mono ?_; rintro e w4 ⟨rfl, hb4⟩; have HB4 := Lib.hid (HB.out.trans (hb4.mono HB.out.size)); clear hb4)
          go_ret2
          exact ⟨rfl, HB4.out⟩

theorem refprod_none (a : Option Addr) (cap : Nat) (w : World) :
    Calls Try.prog 24 #[.slice a 0 cap] w (Ans w (fitV 1) (fitE 1)) := by
  go_enter Try.func24, Try.ntmps24
  go_wp2_with fail
  refine wp_loop_rounds 1 ?_
  rw [rounds_succ]
  go_wp2_with (go_at_call 30; refine (of_any 1 _ (by unfold In; omega)).mono ?_; rintro e w0 ⟨v0, rfl, ⟨x0, a0, m0, c0, d0, rfl, r0⟩, hb0⟩; have r0 := Lib.hid r0; have hb0 := Lib.hid hb0)
  have hX0 : Box2 (w0.alloc (.cells #[.bool x0, .slice a0 m0 c0] 39)) w0.heap.size (.bool x0) (.slice a0 m0 c0) := heap_alloc_new _ _
  have hB1 : Below w.heap.size w (w0.alloc (.cells #[.bool x0, .slice a0 m0 c0] 39)) := hb0.out.alloc hb0.out.size _
  have hR1 : NumAt (w0.alloc (.cells #[.bool x0, .slice a0 m0 c0] 39)) (.agg #[.bool x0, .slice a0 m0 c0]) 1 := ⟨x0, a0, m0, c0, d0, rfl, r0.out.1.below ((Below.refl _ w0).alloc (Nat.le_refl _) _) (Nat.le_refl _), r0.out.2⟩
  have c0 := hX0.c0
  have c1 := hX0.c1
  have hR1 := Lib.hid hR1
  have hB1 := Lib.hid hB1
  clear hX0
  refine wp_loop_rounds 1 ?_
  rw [rounds_succ]
  go_wp2_with (go_at_call 32; refine (numint_any hR1.out).mono ?_; rintro e w4 ⟨rfl, hb4⟩; have HB4 := Lib.hid (hB1.out.trans (hb4.mono hB1.out.size)); clear hb4)
  go_ret2
  exact ⟨rfl, HB4.out⟩

theorem refprod_any {w : World} {a : Option Addr} {n cap : Nat} {l : List Int} (h : Ints w a n cap l) :
    Calls Try.prog 24 #[.slice a n cap] w (Ans w (fitV (prd l)) (fitE (prd l))) := by
  have h' := h
  obtain ⟨h1, h2, h3, h5, h4⟩ := h'
  rcases Nat.eq_zero_or_pos n with rfl | hn
  · obtain rfl : l = [] := List.length_eq_zero_iff.1 h1
    exact refprod_none a cap w
  · obtain ⟨b, o, rfl, hc⟩ := h.cell hn
    exact refprod_some h1 h5 hn h2 h3 hc
end Go.Proofs.Ytdckenkomjikbaa
