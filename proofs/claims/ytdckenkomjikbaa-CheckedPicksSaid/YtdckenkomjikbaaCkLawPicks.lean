/- Numbers that follow one another have remainders by n that follow one another, from n - 1 on to 0, within 0 and n - 1, and n numbers further on it is the same: for every two ints, no condition. -/
import Derived.Test.YtdckenkomjikbaaRows
import Derived.WalkKit
import Derived.ProofKit
import Derived.OpenShut
import Derived.Test.YtdckenkomjikbaaCkAwake
namespace Go.Proofs.Ytdckenkomjikbaa.checkedPicks
open Go.ChangeShapes Go.WideShapes Go.ChangeAt Go.RowKit
set_option linter.unusedVariables false      -- a walk need not use every 'w<i>' (that an integer argument fits its kind)

theorem own : ownKnob Try.prog.godebug = none := by kernel_rfl

theorem euc_bd {a n : Int} (h : 1 ≤ n) : 0 ≤ eucV a n ∧ eucV a n < n := by
  rw [eucV_yes h]; exact ⟨Int.emod_nonneg a (by omega), Int.emod_lt_of_pos a (by omega)⟩
theorem euc_next {a n : Int} (h : 1 ≤ n) (h2 : eucV a n + 1 < n) : eucV (a + 1) n = eucV a n + 1 := by
  have b := euc_bd (a := a) h
  have e := eucV_yes (a := a) h
  rw [e] at b h2 ⊢
  refine (eucV_yes h).trans (emod_of (a / n) (by omega) h2 ?_)
  have := Int.emod_add_mul_ediv a n; omega
theorem euc_wrap {a n : Int} (h : 1 ≤ n) (h2 : ¬ eucV a n + 1 < n) : eucV (a + 1) n = 0 ∧ eucV a n + 1 = n := by
  have b := euc_bd (a := a) h
  have e := eucV_yes (a := a) h
  rw [e] at b h2 ⊢
  refine ⟨(eucV_yes h).trans (emod_of (a / n + 1) (Int.le_refl 0) (by omega) ?_), by omega⟩
  have := Int.emod_add_mul_ediv a n
  rw [Int.mul_add]; omega
theorem euc_round {a n : Int} (h : 1 ≤ n) : eucV (a + n) n = eucV a n := by
  rw [eucV_yes h, eucV_yes h]; exact Int.add_emod_right a n
theorem euc_low {a n : Int} (h : 1 ≤ n) (h0 : 0 ≤ a) (h2 : a < n) : eucV a n = a := by
  rw [eucV_yes h]; exact Int.emod_eq_of_lt h0 h2
theorem grown_of {w w' : World} (h : ∃ c t, w.alloc (.cells c t) = w') : Grown w w' := by
  obtain ⟨c, t, rfl⟩ := h; exact (Grown.refl w).alloc c t

set_option maxHeartbeats 2000000 in
theorem walk (a0 : Int) (a1 : Int) (w0 : (Lit.int .i64 a0).wf = true) (w1 : (Lit.int .i64 a1).wf = true) (w : World) :
    Calls Try.prog 8 #[.int .i64 a0, .int .i64 a1] w fun e w' => e = .returned (.bool true) ∧ Grown w w' := by
  have i0 := in_of_wf w0
  have i1 := in_of_wf w1
  obtain ⟨j1, j2⟩ := i0
  obtain ⟨m1, m2⟩ := i1
  clear w0 w1
  have I0 : Hid (In a0) := Lib.hid ⟨j1, j2⟩
  have I1 : Hid (In a1) := Lib.hid ⟨m1, m2⟩
  by_cases hn : a1 < 1
  · have V : eucV a0 a1 = 0 := eucV_no hn
    have E : eucE a1 = 2 := eucE_no hn
    go_enter Try.func8, Try.ntmps8
    go_wp2_with (first
      | (go_at_call 27; refine (awake_any _).mono ?_; rintro e w' ⟨rfl, hg⟩; have G := Lib.hid (grown_of hg); clear hg)
      | (go_at_call 25; refine (euclid_any a0 a1 _ I0.out I1.out).mono ?_; rintro e w' ⟨rfl, rfl⟩))
    go_ret
    exact ⟨rfl, G.out⟩
  · have B := euc_bd (a := a0) (by omega : 1 ≤ a1)
    have E : eucE a1 = 0 := eucE_yes (by omega)
    have R := euc_round (a := a0) (by omega : 1 ≤ a1)
    have L := fun h0 h2 => euc_low (a := a0) (by omega : 1 ≤ a1) h0 h2
    have N := fun h => euc_next (a := a0) (by omega : 1 ≤ a1) h
    have M := fun h => euc_wrap (a := a0) (by omega : 1 ≤ a1) h
    have K0 := fun w => euclid_any a0 a1 w I0.out I1.out
    have K1 := fun h w => euclid_any (a0 + 1) a1 w (And.intro (by omega) h) I1.out
    have K2 := fun (h : a0 < 0) w => euclid_any (a0 + a1) a1 w (And.intro (by omega) (by omega)) I1.out
    rw [R] at K2
    rw [E] at K0 K1 K2
    revert B L N M K0 K1 K2
    generalize eucV a0 a1 = r
    generalize eucV (a0 + 1) a1 = s
    clear R E
    intro B L N M K0 K1 K2
    obtain ⟨b1, b2⟩ := B
    have K0 := Lib.hid K0
    have K1 := Lib.hid K1
    have K2 := Lib.hid K2
    by_cases hm : a0 < 9223372036854775807
    · by_cases ht : r + 1 < a1
      · obtain rfl := N ht
        have e1 := Int.emod_eq_of_lt (by omega : 0 ≤ r + 1) ht
        have t1 : (r + 1 == a1) = false := by simp; omega
        clear N M
        by_cases h0 : a0 < 0
        · clear L
          go_enter Try.func8, Try.ntmps8
          go_wp2_with (first
            | (go_at_call 27; refine (awake_any _).mono ?_; rintro e w' ⟨rfl, hg⟩; have G := Lib.hid (grown_of hg); clear hg)
            | (go_at_call 25; (with_reducible refine (K0.out _).mono ?_); rintro e w' ⟨rfl, rfl⟩)
            | (go_at_call 25; (with_reducible refine (K1.out (by omega) _).mono ?_); rintro e w' ⟨rfl, rfl⟩)
            | (go_at_call 25; (with_reducible refine (K2.out (by omega) _).mono ?_); rintro e w' ⟨rfl, rfl⟩))
          go_ret
          exact ⟨rfl, G.out⟩
        · by_cases h1 : a0 < a1
          · obtain rfl := L (by omega) h1
            clear L
            go_enter Try.func8, Try.ntmps8
            go_wp2_with (first
              | (go_at_call 27; refine (awake_any _).mono ?_; rintro e w' ⟨rfl, hg⟩; have G := Lib.hid (grown_of hg); clear hg)
              | (go_at_call 25; (with_reducible refine (K0.out _).mono ?_); rintro e w' ⟨rfl, rfl⟩)
              | (go_at_call 25; (with_reducible refine (K1.out (by omega) _).mono ?_); rintro e w' ⟨rfl, rfl⟩)
              | (go_at_call 25; (with_reducible refine (K2.out (by omega) _).mono ?_); rintro e w' ⟨rfl, rfl⟩))
            go_ret
            exact ⟨rfl, G.out⟩
          · clear L
            go_enter Try.func8, Try.ntmps8
            go_wp2_with (first
              | (go_at_call 27; refine (awake_any _).mono ?_; rintro e w' ⟨rfl, hg⟩; have G := Lib.hid (grown_of hg); clear hg)
              | (go_at_call 25; (with_reducible refine (K0.out _).mono ?_); rintro e w' ⟨rfl, rfl⟩)
              | (go_at_call 25; (with_reducible refine (K1.out (by omega) _).mono ?_); rintro e w' ⟨rfl, rfl⟩)
              | (go_at_call 25; (with_reducible refine (K2.out (by omega) _).mono ?_); rintro e w' ⟨rfl, rfl⟩))
            go_ret
            exact ⟨rfl, G.out⟩
      · obtain ⟨rfl, e⟩ := M ht
        have e1 : (r + 1) % a1 = 0 := by rw [e]; exact Int.emod_self
        have t1 : (r + 1 == a1) = true := by simp [e]
        clear N M e
        by_cases h0 : a0 < 0
        · clear L
          go_enter Try.func8, Try.ntmps8
          go_wp2_with (first
            | (go_at_call 27; refine (awake_any _).mono ?_; rintro e w' ⟨rfl, hg⟩; have G := Lib.hid (grown_of hg); clear hg)
            | (go_at_call 25; (with_reducible refine (K0.out _).mono ?_); rintro e w' ⟨rfl, rfl⟩)
            | (go_at_call 25; (with_reducible refine (K1.out (by omega) _).mono ?_); rintro e w' ⟨rfl, rfl⟩)
            | (go_at_call 25; (with_reducible refine (K2.out (by omega) _).mono ?_); rintro e w' ⟨rfl, rfl⟩))
          go_ret
          exact ⟨rfl, G.out⟩
        · by_cases h1 : a0 < a1
          · obtain rfl := L (by omega) h1
            clear L
            go_enter Try.func8, Try.ntmps8
            go_wp2_with (first
              | (go_at_call 27; refine (awake_any _).mono ?_; rintro e w' ⟨rfl, hg⟩; have G := Lib.hid (grown_of hg); clear hg)
              | (go_at_call 25; (with_reducible refine (K0.out _).mono ?_); rintro e w' ⟨rfl, rfl⟩)
              | (go_at_call 25; (with_reducible refine (K1.out (by omega) _).mono ?_); rintro e w' ⟨rfl, rfl⟩)
              | (go_at_call 25; (with_reducible refine (K2.out (by omega) _).mono ?_); rintro e w' ⟨rfl, rfl⟩))
            go_ret
            exact ⟨rfl, G.out⟩
          · clear L
            go_enter Try.func8, Try.ntmps8
            go_wp2_with (first
              | (go_at_call 27; refine (awake_any _).mono ?_; rintro e w' ⟨rfl, hg⟩; have G := Lib.hid (grown_of hg); clear hg)
              | (go_at_call 25; (with_reducible refine (K0.out _).mono ?_); rintro e w' ⟨rfl, rfl⟩)
              | (go_at_call 25; (with_reducible refine (K1.out (by omega) _).mono ?_); rintro e w' ⟨rfl, rfl⟩)
              | (go_at_call 25; (with_reducible refine (K2.out (by omega) _).mono ?_); rintro e w' ⟨rfl, rfl⟩))
            go_ret
            exact ⟨rfl, G.out⟩
    · have h0 : ¬ a0 < 0 := by omega
      have h1 : ¬ a0 < a1 := by omega
      clear N M L
      go_enter Try.func8, Try.ntmps8
      go_wp2_with (first
        | (go_at_call 27; refine (awake_any _).mono ?_; rintro e w' ⟨rfl, hg⟩; have G := Lib.hid (grown_of hg); clear hg)
        | (go_at_call 25; (with_reducible refine (K0.out _).mono ?_); rintro e w' ⟨rfl, rfl⟩)
        | (go_at_call 25; (with_reducible refine (K1.out (by omega) _).mono ?_); rintro e w' ⟨rfl, rfl⟩)
        | (go_at_call 25; (with_reducible refine (K2.out (by omega) _).mono ?_); rintro e w' ⟨rfl, rfl⟩))
      go_ret
      exact ⟨rfl, G.out⟩

set_option maxRecDepth 100000 in
theorem lifted (os : Os) (started : os.Started) (H : Type) (enc : TypeId × Value → H) :
    ReturnsInHanded {} Try.checked os 8 .any (Rows.checkedPicksSpec.pre6 enc Try.prog Try.f8 Rows.checkedPicksRow.domain false) (Rows.checkedPicksSpec.post enc Try.prog Try.f8 false true false false) := by
  refine returnsInHanded_of_change (C := Try.checked) own started (by kernel_rfl) Try.func8
    (ChangeSpec.witness6 (enc := enc) (C := Try.checked) false ⟨#[], #[.int .i64 0, .int .i64 0], []⟩ 8 (by kernel_rfl) (by kernel_rfl) (by kernel_rfl) (by kernel_rfl)) ?_
  intro W base args ds gs before hval0 hW hcnd _
  have hval : ∀ (j : Nat) t v, Try.f8.params[j]? = some t → args[j]? = some v → Value.okWide Try.prog W .any base t v := hval0
  have hW' := hW
  obtain ⟨p, q, hA0, hV, rfl, hfz, hnd⟩ := hW
  have hA : DataW.TrodAll enc Try.prog W 0 (fun _ => true) true Try.f8.params.toList args.toList ds p := hA0
  rw [Try.params8] at hA hval
  obtain ⟨v0, vs0, d0, ds0, p0, q0, hargs, rfl, rfl, h0, r0⟩ := trodAll_cons hA
  obtain ⟨v1, vs1, d1, ds1, p1, q1, rfl, rfl, rfl, h1, r1⟩ := trodAll_cons r0
  obtain ⟨rfl, rfl, rfl⟩ := trodAll_nil r1
  obtain rfl : args = #[v0, v1] := by cases args; simp_all
  obtain ⟨rfl, rfl⟩ := trodVars_none hV
  obtain ⟨a0, rfl, rfl, rfl, w0⟩ := open_int Try.underlying3 (hval 0 3 v0 rfl rfl) h0
  obtain ⟨a1, rfl, rfl, rfl, w1⟩ := open_int Try.underlying3 (hval 1 3 v1 rfl rfl) h1
  clear hA0 hval0
  simp only [List.append_nil] at hW'
  refine (walk a0 a1 w0 w1 W).mono fun e W' ⟨he, hg⟩ => ?_
  subst he
  exact ⟨_, rfl, post_of_same (pa := []) (pv := []) hW' (fun _ _ _ => (trodAll_cons_mk (shut_bool Try.underlying4 _) trodAll_mk0)) (fun sp _ => (trodAll_cons_mk (shut_int Try.underlying3 w0) (trodAll_cons_mk (shut_int Try.underlying3 w1) trodAll_mk0))) (fun _ _ => rfl) rfl
    (hg.frame _) hg.2.1 (ok_one (by kernel_rfl) rfl (okWide_bool_mk Try.underlying4 _))⟩

theorem over : Rows.checkedPicksRow.holds Try.pinned (OpenSpec.ofChange Rows.checkedPicksSpec) :=
  OpenClaim.holds_of_wide 8 Try.f8 rfl rfl rfl rfl rfl rfl rfl ⟨rfl, rfl, rfl, rfl, rfl⟩ rfl rfl rfl rfl rfl (by kernel_rfl) Try.func8 (by kernel_rfl)
    (of_decide_eq_true (by kernel_rfl)) (by unfold Func.isWrapper; first | (rw [if_pos (by decide +kernel)]; kernel_rfl) | (rw [if_neg (by decide +kernel)]; exact ⟨rfl, rfl⟩))
    (fun os started H enc _ => lifted os started H enc)

theorem proved : Rows.CheckedPicksSaid :=
  over
#print axioms proved
end Go.Proofs.Ytdckenkomjikbaa.checkedPicks
