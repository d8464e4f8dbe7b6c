/- The reference's answers on two numbers. -/
import Derived.Test.YtdckenkomjikbaaCkNumMul
namespace Go.Proofs.Ytdckenkomjikbaa
open Go.RowKit
set_option maxRecDepth 100000

def Ans (w : World) (x e : Int) (en : Ending) (w' : World) : Prop := en = .returned (.tuple #[.int .i64 x, .int .i64 e]) ∧ Below w.heap.size w w'
theorem in_P (k : Nat) (hk : 40 ≤ k) {a : Int} (h : -100000000000000000000000000000000000000 < a ∧ a < 100000000000000000000000000000000000000) : -P10 k < a ∧ a < P10 k := by
  have e : P10 38 = 100000000000000000000000000000000000000 := by decide
  have := P10_mono (show 38 ≤ k by omega); omega
theorem In.P {a : Int} (h : In a) (k : Nat) (hk : 40 ≤ k) : -P10 k < a ∧ a < P10 k := in_P k hk (by obtain ⟨_, _⟩ := h; omega)

theorem refadd_any (a b : Int) (w : World) (ha : In a) (hb : In b) :
    Calls Try.prog 10 #[.int .i64 a, .int .i64 b] w (Ans w (fitV (a + b)) (fitE (a + b))) := by
  have ha' := Lib.hid ha
  have hb' := Lib.hid hb
  clear ha hb
  go_enter Try.func10, Try.ntmps10
  go_wp2_with fail
  refine (of_any a w ha'.out).mono ?_
  rintro e w1 ⟨v1, rfl, hv1, hb1⟩
  have hv1 := Lib.hid hv1
  have hb1 := Lib.hid hb1
  go_wp2_with fail
  refine (of_any b w1 hb'.out).mono ?_
  rintro e w2 ⟨v2, rfl, hv2, hb2⟩
  have hv1 := Lib.hid (hv1.out.below hb2 (Nat.le_refl _))
  have hv2 := Lib.hid hv2
  have hb2 := Lib.hid (hb1.out.trans (hb2.mono hb1.out.size))
  go_wp2_with fail
  refine (numadd_any hv1.out hv2.out (ha'.out.P _ (by decide)) (hb'.out.P _ (by decide))).mono ?_
  rintro e w3 ⟨v3, rfl, hv3, hb3⟩
  have hv3 := Lib.hid hv3
  have hb3 := Lib.hid (hb2.out.trans (hb3.mono hb2.out.size))
  go_wp2_with fail
  refine (numint_any hv3.out).mono ?_
  rintro e w4 ⟨rfl, hb4⟩
  have hb4 := Lib.hid (hb3.out.trans (hb4.mono hb3.out.size))
  go_wp2
  go_ret2
  exact ⟨rfl, hb4.out⟩

theorem refsub_any (a b : Int) (w : World) (ha : In a) (hb : In b) :
    Calls Try.prog 12 #[.int .i64 a, .int .i64 b] w (Ans w (fitV (a - b)) (fitE (a - b))) := by
  have ha' := Lib.hid ha
  have hb' := Lib.hid hb
  have hn : Hid (-P10 900 < -b ∧ -b < P10 900) := Lib.hid (in_P 900 (by decide) (by obtain ⟨_, _⟩ := hb; omega))
  have hs := Lib.hid (Int.sub_eq_add_neg (a := a) (b := b))
  clear ha hb
  go_enter Try.func12, Try.ntmps12
  go_wp2_with fail
  refine (of_any a w ha'.out).mono ?_
  rintro e w1 ⟨v1, rfl, hv1, hb1⟩
  have hv1 := Lib.hid hv1
  have hb1 := Lib.hid hb1
  go_wp2_with fail
  refine (of_any b w1 hb'.out).mono ?_
  rintro e w2 ⟨v2, rfl, hv2, hb2⟩
  have hv1 := Lib.hid (hv1.out.below hb2 (Nat.le_refl _))
  have hv2 := Lib.hid hv2
  have hb2 := Lib.hid (hb1.out.trans (hb2.mono hb1.out.size))
  go_wp2_with fail
  refine (numneg_any hv2.out).mono ?_
  rintro e w2' ⟨v2', rfl, hv2', hb2'⟩
  have hv1 := Lib.hid (hv1.out.below hb2' (Nat.le_refl _))
  have hv2 := Lib.hid hv2'
  have hb2 := Lib.hid (hb2.out.trans (hb2'.mono hb2.out.size))
  go_wp2_with fail
  refine (numadd_any hv1.out hv2.out (ha'.out.P _ (by decide)) hn.out).mono ?_
  rintro e w3 ⟨v3, rfl, hv3, hb3⟩
  have hv3 := Lib.hid hv3
  have hb3 := Lib.hid (hb2.out.trans (hb3.mono hb2.out.size))
  go_wp2_with fail
  refine (numint_any hv3.out).mono ?_
  rintro e w4 ⟨rfl, hb4⟩
  have hb4 := Lib.hid (hb3.out.trans (hb4.mono hb3.out.size))
  go_wp2
  go_ret2
  exact ⟨ret2 (by rw [hs.out]) (by rw [hs.out]), hb4.out⟩

theorem refmul_any (a b : Int) (w : World) (ha : In a) (hb : In b) :
    Calls Try.prog 14 #[.int .i64 a, .int .i64 b] w (Ans w (fitV (a * b)) (fitE (a * b))) := by
  have ha' := Lib.hid ha
  have hb' := Lib.hid hb
  clear ha hb
  go_enter Try.func14, Try.ntmps14
  go_wp2_with fail
  refine (of_any a w ha'.out).mono ?_
  rintro e w1 ⟨v1, rfl, hv1, hb1⟩
  have hv1 := Lib.hid hv1
  have hb1 := Lib.hid hb1
  go_wp2_with fail
  refine (of_any b w1 hb'.out).mono ?_
  rintro e w2 ⟨v2, rfl, hv2, hb2⟩
  have hv1 := Lib.hid (hv1.out.below hb2 (Nat.le_refl _))
  have hv2 := Lib.hid hv2
  have hb2 := Lib.hid (hb1.out.trans (hb2.mono hb1.out.size))
  go_wp2_with fail
  refine (nummul_any hv1.out hv2.out (ha'.out.P _ (by decide)) (hb'.out.P _ (by decide))).mono ?_
  rintro e w3 ⟨v3, rfl, hv3, hb3⟩
  have hv3 := Lib.hid hv3
  have hb3 := Lib.hid (hb2.out.trans (hb3.mono hb2.out.size))
  go_wp2_with fail
  refine (numint_any hv3.out).mono ?_
  rintro e w4 ⟨rfl, hb4⟩
  have hb4 := Lib.hid (hb3.out.trans (hb4.mono hb3.out.size))
  go_wp2
  go_ret2
  exact ⟨rfl, hb4.out⟩

theorem refneg_any (a : Int) (w : World) (ha : In a) :
    Calls Try.prog 16 #[.int .i64 a] w (Ans w (fitV (-a)) (fitE (-a))) := by
  have ha' := Lib.hid ha
  clear ha
  go_enter Try.func16, Try.ntmps16
  go_wp2_with fail
  refine (of_any a w ha'.out).mono ?_
  rintro e w1 ⟨v1, rfl, hv1, hb1⟩
  have hv1 := Lib.hid hv1
  have hb1 := Lib.hid hb1
  go_wp2_with fail
  refine (numneg_any hv1.out).mono ?_
  rintro e w3 ⟨v3, rfl, hv3, hb3⟩
  have hv3 := Lib.hid hv3
  have hb3 := Lib.hid (hb1.out.trans (hb3.mono hb1.out.size))
  go_wp2_with fail
  refine (numint_any hv3.out).mono ?_
  rintro e w4 ⟨rfl, hb4⟩
  have hb4 := Lib.hid (hb3.out.trans (hb4.mono hb3.out.size))
  go_wp2
  go_ret2
  exact ⟨rfl, hb4.out⟩

theorem far_any (a : Int) (w : World) (ha : In a) :
    Calls Try.prog 38 #[.int .i64 a] w fun e w' => e = .returned (.int .u64 (a.natAbs : Int)) ∧ w = w' := by
  obtain ⟨h1, h2⟩ := ha
  by_cases h : a < 0
  · go_enter Try.func38, Try.ntmps38
    go_wp2
    go_ret
    exact ⟨ret1 (by omega), rfl⟩
  · go_enter Try.func38, Try.ntmps38
    go_wp2
    go_ret
    exact ⟨ret1 (by omega), rfl⟩
end Go.Proofs.Ytdckenkomjikbaa
