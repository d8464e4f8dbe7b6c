/- Whether a node may stand without children. -/
import Derived.Test.YtddeoemkjedonaaDoorMEbName
import Derived.Test.YtddeoemkjedonaaDoorMEbSmall
import Derived.Test.YtddeoemkjedonaaDoorMVReal
import Derived.Test.YtddeoemkjedonaaDoorFloatOrder
import Derived.Laws.Rows
namespace Go.Proofs.YtddeoemkjedonaaDoor
open Go.RowKit Go.Shelf
set_option maxRecDepth 100000

/-- a box of cells -/
def Bx (w : World) (g : Nat) (T : TypeId) (cs : List Value) : Prop := w.heap[g]? = some (.cells cs.toArray T (0, 0))
theorem Bx.c {w : World} {g : Nat} {T : TypeId} {cs : List Value} (h : Bx w g T cs) (j : Nat) {v : Value} (hj : cs[j]? = some v) : w.cell? ⟨g, j, none⟩ = some v := by
  rw [cell_of_row w g j _ _ _ h]
  simpa using hj
theorem Bx.fz {w : World} {g : Nat} {T : TypeId} {cs : List Value} (h : Bx w g T cs) (j : Nat) : w.frozen? ⟨g, j, none⟩ = false := frozen_of_row w g j _ _ h
theorem Bx.lt {w : World} {g : Nat} {T : TypeId} {cs : List Value} (h : Bx w g T cs) : g < w.heap.size := lt_of_block h
theorem Bx.keep {w w' : World} {B g : Nat} {T : TypeId} {cs : List Value} (h : Bx w g T cs) (hb : Below B w w') (hg : g < B) : Bx w' g T cs := (hb.block g hg).trans h
theorem Bx.set {w : World} {g : Nat} {T : TypeId} {cs : List Value} (h : Bx w g T cs) (j : Nat) (v : Value) : Bx (w.setCell ⟨g, j, none⟩ v) g T (cs.set j v) := by
  have := heap_setCell_same w g j _ _ v h
  unfold Bx
  rw [this]
  simp
theorem Bx.other {w : World} {g h : Nat} {T : TypeId} {cs : List Value} (hx : Bx w g T cs) (hne : g ≠ h) (j : Nat) (v : Value) : Bx (w.setCell ⟨h, j, none⟩ v) g T cs := (Below.heap_setCell w ⟨h, j, none⟩ v g hne).trans hx
theorem Bx.new (w : World) (T : TypeId) (cs : List Value) : Bx (w.alloc (.cells cs.toArray T)) w.heap.size T cs := heap_alloc_new _ _

def litV (l : Lf) : Value := valV (leafN l).vk (leafN l).vi (leafN l).rl 0 0 (leafN l).tx
theorem cmp_lt {a b : Int} (h : a < b) : compare a b = .lt := by
  show compareOfLessAndEq a b = .lt
  unfold compareOfLessAndEq
  rw [if_pos h]
theorem cmp_gt {a b : Int} (h : b < a) : compare a b = .gt := by
  show compareOfLessAndEq a b = .gt
  unfold compareOfLessAndEq
  rw [if_neg (by omega), if_neg (by omega)]
theorem cmp_eq (a : Int) : compare a a = .eq := by
  show compareOfLessAndEq a a = .eq
  unfold compareOfLessAndEq
  rw [if_neg (by omega), if_pos rfl]
theorem ord_le {b : Nat} (hb : b < 9223372036854775808) : (FloatKind.f64.format.order b 9218868437227405311 == some Ordering.lt || FloatKind.f64.format.order b 9218868437227405311 == some Ordering.eq) = decide (b < 9218868437227405312) := by
  show (Ieee.double.order b 9218868437227405311 == some Ordering.lt || Ieee.double.order b 9218868437227405311 == some Ordering.eq) = _
  by_cases h : b < 9218868437227405312
  · have hn : nanB b = false := by unfold nanB rungB; exact decide_eq_false (by omega)
    have hn2 : nanB 9218868437227405311 = false := by decide
    have k1 : keyI b = b := by unfold keyI negB rungB; rw [show b / 9223372036854775808 = 0 by omega]; simp; omega
    have k2 : keyI 9218868437227405311 = 9218868437227405311 := by decide
    rw [order_key _ _ hn hn2, k1, k2, decide_eq_true h]
    rcases Nat.lt_or_ge b 9218868437227405311 with h2 | h2
    · rw [show compare (b : Int) 9218868437227405311 = .lt from cmp_lt (by omega)]
      rfl
    · obtain rfl : b = 9218868437227405311 := by omega
      decide
  · rw [decide_eq_false h]
    by_cases hn : nanB b = true
    · rw [order_nan_l _ _ hn]; rfl
    · have hn' : nanB b = false := by simpa using hn
      have hn2 : nanB 9218868437227405311 = false := by decide
      have k1 : keyI b = b := by unfold keyI negB rungB; rw [show b / 9223372036854775808 = 0 by omega]; simp; omega
      have k2 : keyI 9218868437227405311 = 9218868437227405311 := by decide
      rw [order_key _ _ hn' hn2, k1, k2, show compare (b : Int) 9218868437227405311 = .gt from cmp_gt (by omega)]
      rfl
set_option maxHeartbeats 2000000 in
theorem isLit_any (l : Lf) (hv : ∀ t, l ≠ .var t) (hr : ∀ b, l = .real b → b < 18446744073709551616) (w : World) :
    Calls Tryd.prog 56 #[litV l] w fun e w' => e = .returned (.bool (okL l)) ∧ Below w.heap.size w w' := by
  cases l with
  | var t => exact absurd rfl (hv t)
  | int v =>
    have HB : Hid (Below w.heap.size w (w.alloc (.cells #[.int .i64 1, .int .i64 v, .float .f64 0, .complex .f64 0 0, .string ⟨#[]⟩] 53))) := Lib.hid ((Below.refl _ w).alloc (Nat.le_refl _) _)
    show Calls Tryd.prog 56 #[.agg #[.int .i64 1, .int .i64 v, .float .f64 0, .complex .f64 0 0, .string ⟨#[]⟩]] w fun e w' => e = .returned (.bool (decide (0 ≤ v))) ∧ Below w.heap.size w w'
    clear hv hr
    go_enter Tryd.func56, Tryd.ntmps56
    go_wp2
    go_ret
    exact ⟨rfl, HB.out⟩
  | real b =>
    have hb := hr b rfl
    have HB : Hid (Below w.heap.size w (w.alloc (.cells #[.int .i64 2, .int .i64 0, .float .f64 b, .complex .f64 0 0, .string ⟨#[]⟩] 53))) := Lib.hid ((Below.refl _ w).alloc (Nat.le_refl _) _)
    show Calls Tryd.prog 56 #[.agg #[.int .i64 2, .int .i64 0, .float .f64 b, .complex .f64 0 0, .string ⟨#[]⟩]] w fun e w' => e = .returned (.bool (decide (b < 9218868437227405312))) ∧ Below w.heap.size w w'
    have HS := Lib.hid (fun W => sign_any b hb W)
    by_cases h1 : 9223372036854775808 ≤ b
    · have D1 : Hid (decide (9223372036854775808 ≤ b) = true) := Lib.hid (decide_eq_true h1)
      have D2 : Hid (decide (b < 9218868437227405312) = false) := Lib.hid (decide_eq_false (by omega))
      clear hv hr hb h1
      go_enter Tryd.func56, Tryd.ntmps56
      go_wp2_with (go_at_call 62; refine (HS.out _).mono ?_; rintro e w' ⟨rfl, rfl⟩; rw [D1.out])
      go_ret
      exact ⟨by rw [D2.out]; rfl, HB.out⟩
    · have D1 : Hid (decide (9223372036854775808 ≤ b) = false) := Lib.hid (decide_eq_false h1)
      have h2 := ord_le (b := b) (by omega)
      generalize decide (b < 9218868437227405312) = r at h2 ⊢
      clear hv hr hb h1
      go_enter Tryd.func56, Tryd.ntmps56
      go_wp2_with (go_at_call 62; refine (HS.out _).mono ?_; rintro e w' ⟨rfl, rfl⟩; rw [D1.out])
      go_ret
      exact ⟨by first | rfl | (congr 2), HB.out⟩
  | text t =>
    have HB : Hid (Below w.heap.size w (w.alloc (.cells #[.int .i64 4, .int .i64 0, .float .f64 0, .complex .f64 0 0, .string t] 53))) := Lib.hid ((Below.refl _ w).alloc (Nat.le_refl _) _)
    show Calls Tryd.prog 56 #[.agg #[.int .i64 4, .int .i64 0, .float .f64 0, .complex .f64 0 0, .string t]] w fun e w' => e = .returned (.bool (decide (t.size ≤ 256))) ∧ Below w.heap.size w w'
    have HM := Lib.hid (fun W => may_any 4 0 0 0 0 t W)
    unfold valV at HM
    clear hv hr
    go_enter Tryd.func56, Tryd.ntmps56
    go_wp2_with (go_at_call 53; refine (HM.out _).mono ?_; rintro e w1 ⟨rfl, hb1⟩; have HB1 := Lib.hid (HB.out.trans (hb1.mono HB.out.size)); clear hb1)
    go_ret
    exact ⟨rfl, HB1.out⟩
  | bool b =>
    have HB : Hid (Below w.heap.size w (w.alloc (.cells #[.int .i64 5, .int .i64 (if b then 1 else 0), .float .f64 0, .complex .f64 0 0, .string ⟨#[]⟩] 53))) := Lib.hid ((Below.refl _ w).alloc (Nat.le_refl _) _)
    show Calls Tryd.prog 56 #[.agg #[.int .i64 5, .int .i64 (if b then 1 else 0), .float .f64 0, .complex .f64 0 0, .string ⟨#[]⟩]] w fun e w' => e = .returned (.bool true) ∧ Below w.heap.size w w'
    have HM := Lib.hid (fun W => may_any 5 (if b then 1 else 0) 0 0 0 ⟨#[]⟩ W)
    have HMB : Hid (mayB 5 (if b then 1 else 0) ⟨#[]⟩ = true) := Lib.hid (by cases b <;> decide)
    unfold valV at HM
    generalize (if b then (1 : Int) else 0) = bi at HB HM HMB ⊢
    clear hv hr
    go_enter Tryd.func56, Tryd.ntmps56
    go_wp2_with (go_at_call 53; refine (HM.out _).mono ?_; rintro e w1 ⟨rfl, hb1⟩; have HB1 := Lib.hid (HB.out.trans (hb1.mono HB.out.size)); clear hb1)
    go_ret
    exact ⟨by rw [HMB.out]; rfl, HB1.out⟩
set_option maxHeartbeats 2000000 in
theorem isLeaf_any (l : Lf) (hr : ∀ b, l = .real b → b < 18446744073709551616) (w : World) (hT : Tab w) (hg : 0 < w.heap.size) :
    Calls Tryd.prog 49 #[ndV (leafN l)] w fun e w' => e = .returned (.bool (okL l)) ∧ Below w.heap.size w w' := by
  by_cases hv : ∃ t, l = .var t
  · obtain ⟨t, rfl⟩ := hv
    show Calls Tryd.prog 49 #[.agg #[.int .i64 2, .int .i64 0, .int .i64 0, .string t, .int .i64 0, .int .i64 0, .float .f64 0, .complex .f64 0 0, .string ⟨#[]⟩]] w fun e w' => e = .returned (.bool (nameB t.data.toList && !(t.data.toList == [116, 114, 117, 101]) && !(t.data.toList == [102, 97, 108, 115, 101]) && decide (wordK t.data.toList = 0))) ∧ Below w.heap.size w w'
    have hB : Below w.heap.size w (w.alloc (.cells #[.int .i64 2, .int .i64 0, .int .i64 0, .string t, .int .i64 0, .int .i64 0, .float .f64 0, .complex .f64 0 0, .string ⟨#[]⟩] 55)) := (Below.refl _ w).alloc (Nat.le_refl _) _
    have HN := Lib.hid (fun W => isName_any t W)
    have HW := Lib.hid (word_any t _ (hT.of_block (hB.block _ hg)) (by have := hB.size; omega))
    have HB := Lib.hid hB
    have e1 : (t.toList == [116, 114, 117, 101]) = (t.data.toList == [116, 114, 117, 101]) := by rw [tl_dat]
    have e2 : (t.toList == [102, 97, 108, 115, 101]) = (t.data.toList == [102, 97, 108, 115, 101]) := by rw [tl_dat]
    cases hn : nameB t.data.toList with
    | false =>
      have HNB := Lib.hid hn
      clear hr hT hB e1 e2 hn
      go_enter Tryd.func49, Tryd.ntmps49
      go_wp2_with (go_at_call 57; refine (HN.out _).mono ?_; rintro e w' ⟨rfl, rfl⟩; rw [HNB.out])
      go_ret
      exact ⟨by simp, HB.out⟩
    | true =>
      have HNB := Lib.hid hn
      cases h1 : (t.data.toList == [116, 114, 117, 101]) with
      | true =>
        rw [h1] at e1
        clear hr hT hB e2 hn h1
        go_enter Tryd.func49, Tryd.ntmps49
        go_wp2_with (go_at_call 57; refine (HN.out _).mono ?_; rintro e w' ⟨rfl, rfl⟩; rw [HNB.out])
        go_ret
        exact ⟨by simp, HB.out⟩
      | false =>
        rw [h1] at e1
        cases h2 : (t.data.toList == [102, 97, 108, 115, 101]) with
        | true =>
          rw [h2] at e2
          clear hr hT hB hn h1 h2
          go_enter Tryd.func49, Tryd.ntmps49
          go_wp2_with (go_at_call 57; refine (HN.out _).mono ?_; rintro e w' ⟨rfl, rfl⟩; rw [HNB.out])
          go_ret
          exact ⟨by simp, HB.out⟩
        | false =>
          rw [h2] at e2
          generalize wordK t.data.toList = K at HW ⊢
          have hd : (((K : Nat) : Int) == 0) = decide (K = 0) := by
            by_cases h0 : K = 0
            · subst h0; rfl
            · rw [decide_eq_false h0]; exact beq_eq_false_iff_ne.2 (by omega)
          generalize decide (K = 0) = d at hd ⊢
          clear hr hT hB hn h1 h2
          go_enter Tryd.func49, Tryd.ntmps49
          go_wp2_with (first | (go_at_call 57; refine (HN.out _).mono ?_; rintro e w' ⟨rfl, rfl⟩; rw [HNB.out]) | (go_at_call 44; refine HW.out.mono ?_; rintro e w1 ⟨rfl, hb1⟩; have HB1 := Lib.hid (HB.out.trans (hb1.mono HB.out.size)); clear hb1))
          go_ret
          exact ⟨by first | rfl | simp, HB1.out⟩
  · have hv2 : ∀ t, l ≠ .var t := fun t h => hv ⟨t, h⟩
    have hL := fun W => isLit_any l hv2 hr W
    have hk : (leafN l).k = 1 ∧ (leafN l).a = 0 ∧ (leafN l).b = 0 ∧ (leafN l).nm = ⟨#[]⟩ ∧ (leafN l).re = 0 ∧ (leafN l).im = 0 := by
      cases l with
      | var t => exact absurd rfl (hv2 t)
      | int v => exact ⟨rfl, rfl, rfl, rfl, rfl, rfl⟩
      | real v => exact ⟨rfl, rfl, rfl, rfl, rfl, rfl⟩
      | text v => exact ⟨rfl, rfl, rfl, rfl, rfl, rfl⟩
      | bool v => exact ⟨rfl, rfl, rfl, rfl, rfl, rfl⟩
    obtain ⟨k1, k2, k3, k4, k5, k6⟩ := hk
    unfold litV valV at hL
    unfold ndV
    rw [k1, k2, k3, k4, k5, k6]
    generalize (leafN l).vk = vk at hL ⊢
    generalize (leafN l).vi = vi at hL ⊢
    generalize (leafN l).rl = rl at hL ⊢
    generalize (leafN l).tx = tx at hL ⊢
    have HL := Lib.hid hL
    have HB : Hid (Below w.heap.size w (w.alloc (.cells #[.int .i64 1, .int .i64 0, .int .i64 0, .string ⟨#[]⟩, .int .i64 vk, .int .i64 vi, .float .f64 rl, .complex .f64 0 0, .string tx] 55))) := Lib.hid ((Below.refl _ w).alloc (Nat.le_refl _) _)
    clear hL hT hr hv hv2 k1 k2 k3 k4 k5 k6
    go_enter Tryd.func49, Tryd.ntmps49
    go_wp2_with (go_at_call 56; refine (HL.out _).mono ?_; rintro e w1 ⟨rfl, hb1⟩; have HB1 := Lib.hid (HB.out.trans (hb1.mono HB.out.size)); clear hb1)
    go_ret
    exact ⟨rfl, HB1.out⟩
end Go.Proofs.YtddeoemkjedonaaDoor
