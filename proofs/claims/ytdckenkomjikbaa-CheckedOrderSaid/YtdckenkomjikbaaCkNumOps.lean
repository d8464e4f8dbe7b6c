/- The reference's numbers: sums, the other sign, back to an int. -/
import Derived.Test.YtdckenkomjikbaaCkNum
namespace Go.Proofs.Ytdckenkomjikbaa
open Go.RowKit
set_option maxRecDepth 100000

theorem of_any (a : Int) (w : World) (ha : In a) : Calls Try.prog 30 #[.int .i64 a] w (NumP w a) := by
  obtain ⟨h1, h2⟩ := ha
  rcases Int.lt_or_le a 0 with h | h
  · obtain ⟨x, rfl⟩ : ∃ x : Nat, a = -(x : Int) := ⟨a.natAbs, by omega⟩
    exact of_neg x w (by omega) (by omega)
  · obtain ⟨x, rfl⟩ : ∃ x : Nat, a = (x : Int) := ⟨a.natAbs, by omega⟩
    exact of_pos x w (by omega)

theorem numneg_any {w : World} {v : Value} {s : Int} (h : NumAt w v s) :
    Calls Try.prog 33 #[v] w (NumP w (-s)) := by
  obtain ⟨b, a, n, cap, ds, rfl, hI, hD, hC, hs⟩ := h
  have hZ := hC.zero
  rw [hI.1] at hZ
  have HI := Lib.hid hI
  have HD := Lib.hid hD
  have HC := Lib.hid hC
  clear hI hD hC
  have HB0 : Hid (∀ u, Below w.heap.size w ((w.alloc (.cells #[.bool b, .slice a n cap] 39)).alloc (.cells #[.bool u, .slice a n cap] 39))) := Lib.hid fun u => ((Below.refl w.heap.size w).alloc (Nat.le_refl _) _).alloc (by simp) _
  have key : ∀ u : Bool, (if u then -val ds else val ds) = -s → Hid (∀ W, W = ((w.alloc (.cells #[.bool b, .slice a n cap] 39)).alloc (.cells #[.bool u, .slice a n cap] 39)) → NumP w (-s) (.returned (.agg #[.bool u, .slice a n cap])) W) := fun u hu => Lib.hid fun W hW => by
    subst hW
    exact ⟨_, rfl, ⟨u, a, n, cap, ds, rfl, HI.out.below (HB0.out u) (Nat.le_refl _), HD.out, HC.out, hu⟩, HB0.out u⟩
  cases b
  · rcases Nat.eq_zero_or_pos n with rfl | hn
    · have K := key false (by have := hZ.1 rfl; simp [this] at hs ⊢; omega)
      clear key hZ hs
      go_enter Try.func33, Try.ntmps33
      go_wp2
      exact bodyPost_ret (v := .agg #[.bool false, .slice a 0 cap]) (by simp [results, Try.results33, go_sem]) rfl (K.out _ rfl)
    · have K := key true (by simp at hs ⊢; omega)
      have t1 : decide ((0 : Int) < (n : Int)) = true := by simp; omega
      clear key hZ hs
      go_enter Try.func33, Try.ntmps33
      go_wp2
      exact bodyPost_ret (v := .agg #[.bool true, .slice a n cap]) (by simp [results, Try.results33, go_sem]) rfl (K.out _ rfl)
  · have K := key false (by simp at hs ⊢; omega)
    clear key hZ hs
    go_enter Try.func33, Try.ntmps33
    go_wp2
    exact bodyPost_ret (v := .agg #[.bool false, .slice a n cap]) (by simp [results, Try.results33, go_sem]) rfl (K.out _ rfl)

/-- the number that digits stand for, the highest first: m of them are left -/
theorem horner {ds : List Int} (hd : Dig ds) {m : Nat} (hm : m < ds.length) (hv : val ds ≤ 9223372036854775808) :
    0 ≤ ds[m] ∧ ds[m] ≤ 9 ∧ 0 ≤ val (ds.drop (m + 1)) ∧ val (ds.drop (m + 1)) ≤ 922337203685477580 + 1 ∧ val (ds.drop m) = 10 * val (ds.drop (m + 1)) + ds[m] ∧ val (ds.drop m) ≤ 9223372036854775808 := by
  have h1 := hd.get m hm
  have h2 := val_pos (hd.drop (m + 1))
  have h3 := val_drop ds m hm
  have h4 := val_split ds m (by omega)
  have h5 := val_pos (hd.take m)
  have h6 := P10_pos m
  have h7 : val (ds.drop m) ≤ P10 m * val (ds.drop m) := by
    have := Int.mul_le_mul_of_nonneg_right h6 (val_pos (hd.drop m)); omega
  refine ⟨h1.1, h1.2, h2, by omega, by omega, by omega⟩

/-- what is known of the greatest number's digits -/
theorem most_val {b : Bool} {ds : List Int} {m : Int} (hd : Dig ds) (hm : 0 < m) (h : (if b then -val ds else val ds) = m) : val ds = m := by
  have := val_pos hd
  cases b <;> simp at h <;> omega
theorem run_field1 (x y : Value) (w : World) : (Instr.field 39 (.agg #[x, y]) 1).run Try.prog w = .ok y w := by kernel_rfl
theorem one_dig : Dig [1] := fun d h => by simp at h; subst h; omega
theorem one_can : Can [1] := .inr (by decide)
theorem ints_one (w : World) : Ints (w.alloc (.cells #[.int .i64 1] 3)) (some ⟨w.heap.size, 0, none⟩) 1 1 [1] :=
  ⟨rfl, Nat.le_refl _, by decide, one_dig.allIn, .inr ⟨_, rfl, fun i hi => by
    obtain rfl : i = 0 := by simpa using hi
    have hadd : (⟨w.heap.size, 0, none⟩ : Addr).add 0 = ⟨w.heap.size, 0, none⟩ := by unfold Addr.add; simp
    rw [hadd, World.cell?_alloc_new]; rfl⟩⟩

set_option maxHeartbeats 2000000 in
theorem numint_zero_false {w : World} {a : Option Addr} {cap : Nat} {ds : List Int} (hI : Ints w a 0 cap ds) (hD : Dig ds) (hC : Can ds) (hv : val ds = 0) :
    Calls Try.prog 32 #[.agg #[.bool false, .slice a 0 cap]] w fun e w' => e = .returned (.tuple #[.int .i64 (fitV (val ds)), .int .i64 (fitE (val ds))]) ∧ Below w.heap.size w w' := by
  have hvp := val_pos hD
  have V : Hid (fitV (val ds) = 0) := Lib.hid (by rw [hv]; rfl)
  have E : Hid (fitE (val ds) = 0) := Lib.hid (by rw [hv]; rfl)
  obtain ⟨W0, hW0⟩ : ∃ W0, W0 = w.alloc (.cells #[.bool false, .slice a 0 cap] 39) := ⟨_, rfl⟩
  have hB0 : Below w.heap.size w W0 := by rw [hW0]; exact (Below.refl w.heap.size w).alloc (Nat.le_refl _) _
  have hz0 : W0.heap.size = w.heap.size + 1 := by rw [hW0]; simp
  have hb0 : Box2 W0 w.heap.size (.bool false) (.slice a 0 cap) := by rw [hW0]; exact heap_alloc_new _ _
  have HK : Hid (∀ W, Below W0.heap.size W0 W → Box2 W w.heap.size (.bool false) (.slice a 0 cap) ∧ Ints W a 0 cap ds ∧ Below w.heap.size w W) := Lib.hid fun W hW =>
    ⟨hb0.keep hW (by omega), hI.below (hB0.trans (hW.mono (by omega))) (Nat.le_refl _), hB0.trans (hW.mono (by omega))⟩
  have HW0 := Lib.hid hW0
  have HZ0 := Lib.hid hz0
  have hc0 := hb0.c0
  have hc1 := hb0.c1
  have HD := Lib.hid hD
  have HC := Lib.hid hC
  have Hbnd := Lib.hid hv
  have Hpos := Lib.hid hvp
  clear hW0 hz0 hB0 hb0 hD hC hI hv hvp
  go_enter Try.func32, Try.ntmps32
  go_wp2_with fail
  rw [← HW0.out]
  (refine (of_any _ _ (by unfold In; omega)).mono ?_; rintro e w1 ⟨v1, rfl, ⟨bm, am, nm, cm, dm, rfl, hIm, hDm, hCm, hsm⟩, hb1⟩)
  have hvm := most_val hDm (by omega) hsm
  have hrf := fun w => run_field1 (.bool bm) (.slice am nm cm) w
  have hb1' := hb1
  have c0 := (HK.out w1 hb1).1.c0
  have c1 := (HK.out w1 hb1).1.c1
  have HIm := Lib.hid hIm
  have HDm := Lib.hid hDm
  have HCm := Lib.hid hCm
  have HVm := Lib.hid hvm
  have HB1 := Lib.hid hb1
  clear hsm hb1 hIm hDm hCm hvm hb1' hc0 hc1
  have T : decide (val dm < val ds) = false := by rw [HVm.out]; have := Hbnd.out; have := Hpos.out; simp; omega
  go_wp2_with fail
  refine (less_any HIm.out (HK.out w1 HB1.out).2.1 HDm.out HD.out HCm.out HC.out).mono ?_
  rintro e w3 ⟨rfl, q, rfl⟩
  have hb3 := below_drewN HB1.out q
  generalize w1.drewN q = w3 at hb3 ⊢
  clear c0 c1
  have c0 := (HK.out w3 hb3).1.c0
  have c1 := (HK.out w3 hb3).1.c1
  have HB3 := Lib.hid (HK.out w3 hb3).2.2
  have HI3 := Lib.hid (HK.out w3 hb3).2.1
  clear hb3
  go_wp2
  refine wp_loop_rounds 1 ?_
  rw [rounds_succ]
  go_wp2
  go_ret2
  exact ⟨ret2 V.out.symm E.out.symm, HB3.out⟩

set_option maxHeartbeats 2000000 in
theorem numint_fit_false {w : World} {x o n cap : Nat} {ds : List Int} (hI : Ints w (some ⟨x, o, none⟩) n cap ds) (hD : Dig ds) (hC : Can ds) (hn : 0 < n) (hv : val ds ≤ 9223372036854775807) :
    Calls Try.prog 32 #[.agg #[.bool false, .slice (some ⟨x, o, none⟩) n cap]] w fun e w' => e = .returned (.tuple #[.int .i64 (fitV (val ds)), .int .i64 (fitE (val ds))]) ∧ Below w.heap.size w w' := by
  have hvp := val_pos hD
  have V : Hid (fitV (val ds) = (val ds)) := Lib.hid (by rw [fitV_yes (by omega) (by omega)])
  have E : Hid (fitE (val ds) = 0) := Lib.hid (by rw [fitE_yes (by omega) (by omega)])
  obtain ⟨W0, hW0⟩ : ∃ W0, W0 = w.alloc (.cells #[.bool false, .slice (some ⟨x, o, none⟩) n cap] 39) := ⟨_, rfl⟩
  have hB0 : Below w.heap.size w W0 := by rw [hW0]; exact (Below.refl w.heap.size w).alloc (Nat.le_refl _) _
  have hz0 : W0.heap.size = w.heap.size + 1 := by rw [hW0]; simp
  have hb0 : Box2 W0 w.heap.size (.bool false) (.slice (some ⟨x, o, none⟩) n cap) := by rw [hW0]; exact heap_alloc_new _ _
  have HK : Hid (∀ W, Below W0.heap.size W0 W → Box2 W w.heap.size (.bool false) (.slice (some ⟨x, o, none⟩) n cap) ∧ Ints W (some ⟨x, o, none⟩) n cap ds ∧ Below w.heap.size w W) := Lib.hid fun W hW =>
    ⟨hb0.keep hW (by omega), hI.below (hB0.trans (hW.mono (by omega))) (Nat.le_refl _), hB0.trans (hW.mono (by omega))⟩
  have HW0 := Lib.hid hW0
  have HZ0 := Lib.hid hz0
  have hc0 := hb0.c0
  have hc1 := hb0.c1
  have HLn := Lib.hid hI.1
  have HV : Hid (val ds ≤ 9223372036854775808) := Lib.hid (by omega)
  have HV2 : Hid (0 ≤ val ds ∧ val ds ≤ 9223372036854775807) := Lib.hid ⟨hvp, hv⟩
  have HD := Lib.hid hD
  have HC := Lib.hid hC
  have Hbnd := Lib.hid hv
  have Hpos := Lib.hid hvp
  clear hW0 hz0 hB0 hb0 hD hC hI hv hvp
  go_enter Try.func32, Try.ntmps32
  go_wp2_with fail
  rw [← HW0.out]
  (refine (of_any _ _ (by unfold In; omega)).mono ?_; rintro e w1 ⟨v1, rfl, ⟨bm, am, nm, cm, dm, rfl, hIm, hDm, hCm, hsm⟩, hb1⟩)
  have hvm := most_val hDm (by omega) hsm
  have hrf := fun w => run_field1 (.bool bm) (.slice am nm cm) w
  have hb1' := hb1
  have c0 := (HK.out w1 hb1).1.c0
  have c1 := (HK.out w1 hb1).1.c1
  have HIm := Lib.hid hIm
  have HDm := Lib.hid hDm
  have HCm := Lib.hid hCm
  have HVm := Lib.hid hvm
  have HB1 := Lib.hid hb1
  clear hsm hb1 hIm hDm hCm hvm hb1' hc0 hc1
  have T : decide (val dm < val ds) = false := by rw [HVm.out]; have := Hbnd.out; have := Hpos.out; simp; omega
  go_wp2_with fail
  refine (less_any HIm.out (HK.out w1 HB1.out).2.1 HDm.out HD.out HCm.out HC.out).mono ?_
  rintro e w3 ⟨rfl, q, rfl⟩
  have hb3 := below_drewN HB1.out q
  generalize w1.drewN q = w3 at hb3 ⊢
  clear c0 c1
  have c0 := (HK.out w3 hb3).1.c0
  have c1 := (HK.out w3 hb3).1.c1
  have HB3 := Lib.hid (HK.out w3 hb3).2.2
  have HI3 := Lib.hid (HK.out w3 hb3).2.1
  clear hb3
  obtain ⟨x', o', hxo, hcl⟩ := HI3.out.cell hn
  obtain ⟨rfl, rfl⟩ : x = x' ∧ o = o' := by simpa using hxo
  clear hxo
  have HX := Lib.hid hcl
  clear hcl
  have hle := HI3.out.2.1
  have hcm := HI3.out.2.2.1
  unfold maxLen at hcm
  go_wp2_with fail
  go_loop [5, 6] (fun u i => ∃ k : Nat, k ≤ n ∧ u = .int .u64 (val (ds.drop k)) ∧ i = .int .i64 ((k : Int) - 1)) (fun _ i => (intOf i + 1).toNat)
  case atStart => exact ⟨n, Nat.le_refl _, by rw [List.drop_eq_nil_of_le (by rw [HLn.out]; omega)]; rfl, rfl⟩
  case round =>
    obtain ⟨k, hk, rfl, rfl⟩ := hrel
    rcases Nat.eq_zero_or_pos k with rfl | hk0
    · have e4 : wrap64 (val (ds.drop 0)) = val ds := by rw [List.drop_zero]; exact IntWalk.wrap64_in _ (by have := HV2.out; omega)
      have E4 := Lib.hid e4
      clear e4
      go_wp2
      go_ret2
      first | exact ⟨ret2 (E4.out.trans V.out.symm) E.out.symm, HB3.out⟩ | exact ⟨ret2 V.out.symm E.out.symm, HB3.out⟩
    · obtain ⟨m, rfl⟩ : ∃ m, k = m + 1 := ⟨k - 1, by omega⟩
      have hml : m < ds.length := by rw [HLn.out]; omega
      have hcell := HX.out m hml
      obtain ⟨d0, d9, p0, p1, pe, p2⟩ := horner HD.out hml HV.out
      have e1 : IntKind.u64.wrap (10 * val (ds.drop (m + 1))) = 10 * val (ds.drop (m + 1)) := IntWalk.u64_in _ (by omega)
      have e2 : IntKind.u64.wrap (10 * val (ds.drop (m + 1)) + ds[m]) = 10 * val (ds.drop (m + 1)) + ds[m] := IntWalk.u64_in _ (by omega)
      have e3 : IntKind.u64.wrap ds[m] = ds[m] := IntWalk.u64_in _ (by omega)
      have PE := Lib.hid pe
      clear pe p0 p1 p2
      go_wp2
      go_round
      case rel => exact ⟨m, by omega, by rw [PE.out], rfl⟩
      case measure => simp [intOf]

set_option maxHeartbeats 2000000 in
theorem numint_over_false {w : World} {a : Option Addr} {n cap : Nat} {ds : List Int} (hI : Ints w a n cap ds) (hD : Dig ds) (hC : Can ds) (hv : 9223372036854775807 < val ds) :
    Calls Try.prog 32 #[.agg #[.bool false, .slice a n cap]] w fun e w' => e = .returned (.tuple #[.int .i64 (fitV (val ds)), .int .i64 (fitE (val ds))]) ∧ Below w.heap.size w w' := by
  have hvp := val_pos hD
  have V : Hid (fitV (val ds) = 0) := Lib.hid (by rw [fitV_no (by omega)])
  have E : Hid (fitE (val ds) = 30) := Lib.hid (by rw [fitE_no (by omega)])
  obtain ⟨W0, hW0⟩ : ∃ W0, W0 = w.alloc (.cells #[.bool false, .slice a n cap] 39) := ⟨_, rfl⟩
  have hB0 : Below w.heap.size w W0 := by rw [hW0]; exact (Below.refl w.heap.size w).alloc (Nat.le_refl _) _
  have hz0 : W0.heap.size = w.heap.size + 1 := by rw [hW0]; simp
  have hb0 : Box2 W0 w.heap.size (.bool false) (.slice a n cap) := by rw [hW0]; exact heap_alloc_new _ _
  have HK : Hid (∀ W, Below W0.heap.size W0 W → Box2 W w.heap.size (.bool false) (.slice a n cap) ∧ Ints W a n cap ds ∧ Below w.heap.size w W) := Lib.hid fun W hW =>
    ⟨hb0.keep hW (by omega), hI.below (hB0.trans (hW.mono (by omega))) (Nat.le_refl _), hB0.trans (hW.mono (by omega))⟩
  have HW0 := Lib.hid hW0
  have HZ0 := Lib.hid hz0
  have hc0 := hb0.c0
  have hc1 := hb0.c1
  have HD := Lib.hid hD
  have HC := Lib.hid hC
  have Hbnd := Lib.hid hv
  have Hpos := Lib.hid hvp
  clear hW0 hz0 hB0 hb0 hD hC hI hv hvp
  go_enter Try.func32, Try.ntmps32
  go_wp2_with fail
  rw [← HW0.out]
  (refine (of_any _ _ (by unfold In; omega)).mono ?_; rintro e w1 ⟨v1, rfl, ⟨bm, am, nm, cm, dm, rfl, hIm, hDm, hCm, hsm⟩, hb1⟩)
  have hvm := most_val hDm (by omega) hsm
  have hrf := fun w => run_field1 (.bool bm) (.slice am nm cm) w
  have hb1' := hb1
  have c0 := (HK.out w1 hb1).1.c0
  have c1 := (HK.out w1 hb1).1.c1
  have HIm := Lib.hid hIm
  have HDm := Lib.hid hDm
  have HCm := Lib.hid hCm
  have HVm := Lib.hid hvm
  have HB1 := Lib.hid hb1
  clear hsm hb1 hIm hDm hCm hvm hb1' hc0 hc1
  have T : decide (val dm < val ds) = true := by rw [HVm.out]; have := Hbnd.out; have := Hpos.out; simp; omega
  go_wp2_with fail
  refine (less_any HIm.out (HK.out w1 HB1.out).2.1 HDm.out HD.out HCm.out HC.out).mono ?_
  rintro e w3 ⟨rfl, q, rfl⟩
  have hb3 := below_drewN HB1.out q
  generalize w1.drewN q = w3 at hb3 ⊢
  clear c0 c1
  have c0 := (HK.out w3 hb3).1.c0
  have c1 := (HK.out w3 hb3).1.c1
  have HB3 := Lib.hid (HK.out w3 hb3).2.2
  have HI3 := Lib.hid (HK.out w3 hb3).2.1
  clear hb3
  go_wp2
  go_ret2
  exact ⟨ret2 V.out.symm E.out.symm, HB3.out⟩

set_option maxHeartbeats 2000000 in
theorem numint_zero_true {w : World} {a : Option Addr} {cap : Nat} {ds : List Int} (hI : Ints w a 0 cap ds) (hD : Dig ds) (hC : Can ds) (hv : val ds = 0) :
    Calls Try.prog 32 #[.agg #[.bool true, .slice a 0 cap]] w fun e w' => e = .returned (.tuple #[.int .i64 (fitV (-val ds)), .int .i64 (fitE (-val ds))]) ∧ Below w.heap.size w w' := by
  have hvp := val_pos hD
  have V : Hid (fitV (-val ds) = 0) := Lib.hid (by rw [hv]; rfl)
  have E : Hid (fitE (-val ds) = 0) := Lib.hid (by rw [hv]; rfl)
  obtain ⟨W0, hW0⟩ : ∃ W0, W0 = w.alloc (.cells #[.bool true, .slice a 0 cap] 39) := ⟨_, rfl⟩
  have hB0 : Below w.heap.size w W0 := by rw [hW0]; exact (Below.refl w.heap.size w).alloc (Nat.le_refl _) _
  have hz0 : W0.heap.size = w.heap.size + 1 := by rw [hW0]; simp
  have hb0 : Box2 W0 w.heap.size (.bool true) (.slice a 0 cap) := by rw [hW0]; exact heap_alloc_new _ _
  have HK : Hid (∀ W, Below W0.heap.size W0 W → Box2 W w.heap.size (.bool true) (.slice a 0 cap) ∧ Ints W a 0 cap ds ∧ Below w.heap.size w W) := Lib.hid fun W hW =>
    ⟨hb0.keep hW (by omega), hI.below (hB0.trans (hW.mono (by omega))) (Nat.le_refl _), hB0.trans (hW.mono (by omega))⟩
  have HW0 := Lib.hid hW0
  have HZ0 := Lib.hid hz0
  have hc0 := hb0.c0
  have hc1 := hb0.c1
  have HD := Lib.hid hD
  have HC := Lib.hid hC
  have Hbnd := Lib.hid hv
  have Hpos := Lib.hid hvp
  clear hW0 hz0 hB0 hb0 hD hC hI hv hvp
  go_enter Try.func32, Try.ntmps32
  go_wp2_with fail
  rw [← HW0.out]
  (refine (of_any _ _ (by unfold In; omega)).mono ?_; rintro e w1 ⟨v1, rfl, ⟨bm, am, nm, cm, dm, rfl, hIm, hDm, hCm, hsm⟩, hb1⟩)
  have hvm := most_val hDm (by omega) hsm
  have hrf := fun w => run_field1 (.bool bm) (.slice am nm cm) w
  have hb1' := hb1
  have c0 := (HK.out w1 hb1).1.c0
  have c1 := (HK.out w1 hb1).1.c1
  have HIm := Lib.hid hIm
  have HDm := Lib.hid hDm
  have HCm := Lib.hid hCm
  have HVm := Lib.hid hvm
  have HB1 := Lib.hid hb1
  clear hsm hb1 hIm hDm hCm hvm hb1' hc0 hc1
  have hnm : nm ≤ 1000 := by have h1 := HIm.out.1; have h2 := HCm.out.len (k := 19) (by rw [HVm.out]; decide); omega
  have HZ1 : Hid (W0.heap.size ≤ w1.heap.size) := HB1.out.size
  go_wp2_with fail
  refine (tog_any (HIm.out.below ((Below.refl _ w1).alloc (Nat.le_refl _) _) (Nat.le_refl _)) (ints_one w1) HDm.out one_dig hnm (by omega)).mono ?_
  rintro e w2 ⟨v2, d2, rfl, ⟨a2, cap2, rfl, hI2, hb2⟩, hv2, hd2, hc2, _⟩
  have hb2' : Below W0.heap.size W0 w2 := (HB1.out.alloc HZ1.out _).trans (hb2.mono (by have := HZ1.out; simp; omega))
  have hc2 := hc2 HCm.out one_can
  have T : decide (val d2 < val ds) = false := by rw [hv2, HVm.out]; have := Hbnd.out; have := Hpos.out; simp [val]; omega
  clear c0 c1
  have c0 := (HK.out w2 hb2').1.c0
  have c1 := (HK.out w2 hb2').1.c1
  have HB2 := Lib.hid hb2'
  have HI2 := Lib.hid hI2
  have HD2 := Lib.hid hd2
  have HC2 := Lib.hid hc2
  clear hb2 hb2' hI2 hv2 hd2 hc2
  go_wp2_with fail
  refine (less_any HI2.out (HK.out w2 HB2.out).2.1 HD2.out HD.out HC2.out HC.out).mono ?_
  rintro e w3 ⟨rfl, q, rfl⟩
  have hb3 := below_drewN HB2.out q
  generalize w2.drewN q = w3 at hb3 ⊢
  clear c0 c1
  have c0 := (HK.out w3 hb3).1.c0
  have c1 := (HK.out w3 hb3).1.c1
  have HB3 := Lib.hid (HK.out w3 hb3).2.2
  have HI3 := Lib.hid (HK.out w3 hb3).2.1
  clear hb3
  go_wp2
  refine wp_loop_rounds 1 ?_
  rw [rounds_succ]
  go_wp2
  go_ret2
  exact ⟨ret2 V.out.symm E.out.symm, HB3.out⟩

set_option maxHeartbeats 2000000 in
theorem numint_fit_true {w : World} {x o n cap : Nat} {ds : List Int} (hI : Ints w (some ⟨x, o, none⟩) n cap ds) (hD : Dig ds) (hC : Can ds) (hn : 0 < n) (hv : val ds ≤ 9223372036854775808) :
    Calls Try.prog 32 #[.agg #[.bool true, .slice (some ⟨x, o, none⟩) n cap]] w fun e w' => e = .returned (.tuple #[.int .i64 (fitV (-val ds)), .int .i64 (fitE (-val ds))]) ∧ Below w.heap.size w w' := by
  have hvp := val_pos hD
  have V : Hid (fitV (-val ds) = (-val ds)) := Lib.hid (by rw [fitV_yes (by omega) (by omega)])
  have E : Hid (fitE (-val ds) = 0) := Lib.hid (by rw [fitE_yes (by omega) (by omega)])
  obtain ⟨W0, hW0⟩ : ∃ W0, W0 = w.alloc (.cells #[.bool true, .slice (some ⟨x, o, none⟩) n cap] 39) := ⟨_, rfl⟩
  have hB0 : Below w.heap.size w W0 := by rw [hW0]; exact (Below.refl w.heap.size w).alloc (Nat.le_refl _) _
  have hz0 : W0.heap.size = w.heap.size + 1 := by rw [hW0]; simp
  have hb0 : Box2 W0 w.heap.size (.bool true) (.slice (some ⟨x, o, none⟩) n cap) := by rw [hW0]; exact heap_alloc_new _ _
  have HK : Hid (∀ W, Below W0.heap.size W0 W → Box2 W w.heap.size (.bool true) (.slice (some ⟨x, o, none⟩) n cap) ∧ Ints W (some ⟨x, o, none⟩) n cap ds ∧ Below w.heap.size w W) := Lib.hid fun W hW =>
    ⟨hb0.keep hW (by omega), hI.below (hB0.trans (hW.mono (by omega))) (Nat.le_refl _), hB0.trans (hW.mono (by omega))⟩
  have HW0 := Lib.hid hW0
  have HZ0 := Lib.hid hz0
  have hc0 := hb0.c0
  have hc1 := hb0.c1
  have HLn := Lib.hid hI.1
  have HV : Hid (val ds ≤ 9223372036854775808) := Lib.hid (by omega)
  have HV2 : Hid (0 ≤ val ds ∧ val ds ≤ 9223372036854775808) := Lib.hid ⟨hvp, hv⟩
  have HD := Lib.hid hD
  have HC := Lib.hid hC
  have Hbnd := Lib.hid hv
  have Hpos := Lib.hid hvp
  clear hW0 hz0 hB0 hb0 hD hC hI hv hvp
  go_enter Try.func32, Try.ntmps32
  go_wp2_with fail
  rw [← HW0.out]
  (refine (of_any _ _ (by unfold In; omega)).mono ?_; rintro e w1 ⟨v1, rfl, ⟨bm, am, nm, cm, dm, rfl, hIm, hDm, hCm, hsm⟩, hb1⟩)
  have hvm := most_val hDm (by omega) hsm
  have hrf := fun w => run_field1 (.bool bm) (.slice am nm cm) w
  have hb1' := hb1
  have c0 := (HK.out w1 hb1).1.c0
  have c1 := (HK.out w1 hb1).1.c1
  have HIm := Lib.hid hIm
  have HDm := Lib.hid hDm
  have HCm := Lib.hid hCm
  have HVm := Lib.hid hvm
  have HB1 := Lib.hid hb1
  clear hsm hb1 hIm hDm hCm hvm hb1' hc0 hc1
  have hnm : nm ≤ 1000 := by have h1 := HIm.out.1; have h2 := HCm.out.len (k := 19) (by rw [HVm.out]; decide); omega
  have HZ1 : Hid (W0.heap.size ≤ w1.heap.size) := HB1.out.size
  go_wp2_with fail
  refine (tog_any (HIm.out.below ((Below.refl _ w1).alloc (Nat.le_refl _) _) (Nat.le_refl _)) (ints_one w1) HDm.out one_dig hnm (by omega)).mono ?_
  rintro e w2 ⟨v2, d2, rfl, ⟨a2, cap2, rfl, hI2, hb2⟩, hv2, hd2, hc2, _⟩
  have hb2' : Below W0.heap.size W0 w2 := (HB1.out.alloc HZ1.out _).trans (hb2.mono (by have := HZ1.out; simp; omega))
  have hc2 := hc2 HCm.out one_can
  have T : decide (val d2 < val ds) = false := by rw [hv2, HVm.out]; have := Hbnd.out; have := Hpos.out; simp [val]; omega
  clear c0 c1
  have c0 := (HK.out w2 hb2').1.c0
  have c1 := (HK.out w2 hb2').1.c1
  have HB2 := Lib.hid hb2'
  have HI2 := Lib.hid hI2
  have HD2 := Lib.hid hd2
  have HC2 := Lib.hid hc2
  clear hb2 hb2' hI2 hv2 hd2 hc2
  go_wp2_with fail
  refine (less_any HI2.out (HK.out w2 HB2.out).2.1 HD2.out HD.out HC2.out HC.out).mono ?_
  rintro e w3 ⟨rfl, q, rfl⟩
  have hb3 := below_drewN HB2.out q
  generalize w2.drewN q = w3 at hb3 ⊢
  clear c0 c1
  have c0 := (HK.out w3 hb3).1.c0
  have c1 := (HK.out w3 hb3).1.c1
  have HB3 := Lib.hid (HK.out w3 hb3).2.2
  have HI3 := Lib.hid (HK.out w3 hb3).2.1
  clear hb3
  obtain ⟨x', o', hxo, hcl⟩ := HI3.out.cell hn
  obtain ⟨rfl, rfl⟩ : x = x' ∧ o = o' := by simpa using hxo
  clear hxo
  have HX := Lib.hid hcl
  clear hcl
  have hle := HI3.out.2.1
  have hcm := HI3.out.2.2.1
  unfold maxLen at hcm
  go_wp2_with fail
  go_loop [5, 6] (fun u i => ∃ k : Nat, k ≤ n ∧ u = .int .u64 (val (ds.drop k)) ∧ i = .int .i64 ((k : Int) - 1)) (fun _ i => (intOf i + 1).toNat)
  case atStart => exact ⟨n, Nat.le_refl _, by rw [List.drop_eq_nil_of_le (by rw [HLn.out]; omega)]; rfl, rfl⟩
  case round =>
    obtain ⟨k, hk, rfl, rfl⟩ := hrel
    rcases Nat.eq_zero_or_pos k with rfl | hk0
    · have e4 : wrap64 (IntKind.u64.wrap (-(val (ds.drop 0)))) = -val ds := by rw [List.drop_zero]; exact i64_of_neg (val_pos HD.out) HV.out
      have E4 := Lib.hid e4
      clear e4
      go_wp2
      go_ret2
      first | exact ⟨ret2 (E4.out.trans V.out.symm) E.out.symm, HB3.out⟩ | exact ⟨ret2 V.out.symm E.out.symm, HB3.out⟩
    · obtain ⟨m, rfl⟩ : ∃ m, k = m + 1 := ⟨k - 1, by omega⟩
      have hml : m < ds.length := by rw [HLn.out]; omega
      have hcell := HX.out m hml
      obtain ⟨d0, d9, p0, p1, pe, p2⟩ := horner HD.out hml HV.out
      have e1 : IntKind.u64.wrap (10 * val (ds.drop (m + 1))) = 10 * val (ds.drop (m + 1)) := IntWalk.u64_in _ (by omega)
      have e2 : IntKind.u64.wrap (10 * val (ds.drop (m + 1)) + ds[m]) = 10 * val (ds.drop (m + 1)) + ds[m] := IntWalk.u64_in _ (by omega)
      have e3 : IntKind.u64.wrap ds[m] = ds[m] := IntWalk.u64_in _ (by omega)
      have PE := Lib.hid pe
      clear pe p0 p1 p2
      go_wp2
      go_round
      case rel => exact ⟨m, by omega, by rw [PE.out], rfl⟩
      case measure => simp [intOf]

set_option maxHeartbeats 2000000 in
theorem numint_over_true {w : World} {a : Option Addr} {n cap : Nat} {ds : List Int} (hI : Ints w a n cap ds) (hD : Dig ds) (hC : Can ds) (hv : 9223372036854775808 < val ds) :
    Calls Try.prog 32 #[.agg #[.bool true, .slice a n cap]] w fun e w' => e = .returned (.tuple #[.int .i64 (fitV (-val ds)), .int .i64 (fitE (-val ds))]) ∧ Below w.heap.size w w' := by
  have hvp := val_pos hD
  have V : Hid (fitV (-val ds) = 0) := Lib.hid (by rw [fitV_no (by omega)])
  have E : Hid (fitE (-val ds) = 30) := Lib.hid (by rw [fitE_no (by omega)])
  obtain ⟨W0, hW0⟩ : ∃ W0, W0 = w.alloc (.cells #[.bool true, .slice a n cap] 39) := ⟨_, rfl⟩
  have hB0 : Below w.heap.size w W0 := by rw [hW0]; exact (Below.refl w.heap.size w).alloc (Nat.le_refl _) _
  have hz0 : W0.heap.size = w.heap.size + 1 := by rw [hW0]; simp
  have hb0 : Box2 W0 w.heap.size (.bool true) (.slice a n cap) := by rw [hW0]; exact heap_alloc_new _ _
  have HK : Hid (∀ W, Below W0.heap.size W0 W → Box2 W w.heap.size (.bool true) (.slice a n cap) ∧ Ints W a n cap ds ∧ Below w.heap.size w W) := Lib.hid fun W hW =>
    ⟨hb0.keep hW (by omega), hI.below (hB0.trans (hW.mono (by omega))) (Nat.le_refl _), hB0.trans (hW.mono (by omega))⟩
  have HW0 := Lib.hid hW0
  have HZ0 := Lib.hid hz0
  have hc0 := hb0.c0
  have hc1 := hb0.c1
  have HD := Lib.hid hD
  have HC := Lib.hid hC
  have Hbnd := Lib.hid hv
  have Hpos := Lib.hid hvp
  clear hW0 hz0 hB0 hb0 hD hC hI hv hvp
  go_enter Try.func32, Try.ntmps32
  go_wp2_with fail
  rw [← HW0.out]
  (refine (of_any _ _ (by unfold In; omega)).mono ?_; rintro e w1 ⟨v1, rfl, ⟨bm, am, nm, cm, dm, rfl, hIm, hDm, hCm, hsm⟩, hb1⟩)
  have hvm := most_val hDm (by omega) hsm
  have hrf := fun w => run_field1 (.bool bm) (.slice am nm cm) w
  have hb1' := hb1
  have c0 := (HK.out w1 hb1).1.c0
  have c1 := (HK.out w1 hb1).1.c1
  have HIm := Lib.hid hIm
  have HDm := Lib.hid hDm
  have HCm := Lib.hid hCm
  have HVm := Lib.hid hvm
  have HB1 := Lib.hid hb1
  clear hsm hb1 hIm hDm hCm hvm hb1' hc0 hc1
  have hnm : nm ≤ 1000 := by have h1 := HIm.out.1; have h2 := HCm.out.len (k := 19) (by rw [HVm.out]; decide); omega
  have HZ1 : Hid (W0.heap.size ≤ w1.heap.size) := HB1.out.size
  go_wp2_with fail
  refine (tog_any (HIm.out.below ((Below.refl _ w1).alloc (Nat.le_refl _) _) (Nat.le_refl _)) (ints_one w1) HDm.out one_dig hnm (by omega)).mono ?_
  rintro e w2 ⟨v2, d2, rfl, ⟨a2, cap2, rfl, hI2, hb2⟩, hv2, hd2, hc2, _⟩
  have hb2' : Below W0.heap.size W0 w2 := (HB1.out.alloc HZ1.out _).trans (hb2.mono (by have := HZ1.out; simp; omega))
  have hc2 := hc2 HCm.out one_can
  have T : decide (val d2 < val ds) = true := by rw [hv2, HVm.out]; have := Hbnd.out; have := Hpos.out; simp [val]; omega
  clear c0 c1
  have c0 := (HK.out w2 hb2').1.c0
  have c1 := (HK.out w2 hb2').1.c1
  have HB2 := Lib.hid hb2'
  have HI2 := Lib.hid hI2
  have HD2 := Lib.hid hd2
  have HC2 := Lib.hid hc2
  clear hb2 hb2' hI2 hv2 hd2 hc2
  go_wp2_with fail
  refine (less_any HI2.out (HK.out w2 HB2.out).2.1 HD2.out HD.out HC2.out HC.out).mono ?_
  rintro e w3 ⟨rfl, q, rfl⟩
  have hb3 := below_drewN HB2.out q
  generalize w2.drewN q = w3 at hb3 ⊢
  clear c0 c1
  have c0 := (HK.out w3 hb3).1.c0
  have c1 := (HK.out w3 hb3).1.c1
  have HB3 := Lib.hid (HK.out w3 hb3).2.2
  have HI3 := Lib.hid (HK.out w3 hb3).2.1
  clear hb3
  go_wp2
  go_ret2
  exact ⟨ret2 V.out.symm E.out.symm, HB3.out⟩

end Go.Proofs.Ytdckenkomjikbaa
