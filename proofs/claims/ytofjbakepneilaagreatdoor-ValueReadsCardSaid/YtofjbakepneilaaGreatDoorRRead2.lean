/- The reference's read, where it is no text and no complex number. -/
import Derived.Test.YtofjbakepneilaaGreatDoorRRead
namespace Go.Proofs.YtofjbakepneilaaGreatDoor
open Go.RowKit Go.Shelf
set_option maxRecDepth 100000

/-- what is told of a text that begins neither so nor so -/
def NumP (L : List UInt8) (e : Ending) : Prop :=
  (∃ n : Nat, numQ L = some n ∧ bAt L 0 ≠ 45 ∧ n < 9223372036854775808 ∧ e = .returned (.tuple #[valV 1 n 0 0 0 ⟨#[]⟩, .bool true])) ∨
  (∃ n : Nat, bAt L 0 = 45 ∧ numQ (L.drop 1) = some n ∧ n ≤ 9223372036854775808 ∧ e = .returned (.tuple #[valV 1 (-(n : Int)) 0 0 0 ⟨#[]⟩, .bool (decide (0 < n))])) ∨
  (((bAt L 0 ≠ 45 ∧ ∀ n, numQ L = some n → 9223372036854775808 ≤ n) ∨ (bAt L 0 = 45 ∧ ∀ n, numQ (L.drop 1) = some n → 9223372036854775808 < n)) ∧ e = .returned (.tuple #[valV 2 0 ((wF L).getD 0) 0 0 ⟨#[]⟩, .bool (wF L).isSome]))
set_option maxHeartbeats 8000000 in
theorem rread_num0 (s : ByteArray) (w : World) (hs : s.size = 0) (hm : s.size ≤ 140737488355328) (n1 : (s.toList == [116, 114, 117, 101]) = false) (n2 : (s.toList == [102, 97, 108, 115, 101]) = false) :
    Calls Tryz.prog 21 #[.string s] w fun e w' => NumP s.data.toList e ∧ Below w.heap.size w w' := by
  have sf : ∀ (p : Addr) (b : Nat) (mo : Mode) (w' : World), (store p (.float .f64 b) mo).run Tryz.prog w' = stored Tryz.prog w' p (.float .f64 b) mo := fun p b mo w' => run_store _ w' p _ mo rfl
  have sc : ∀ (p : Addr) (b c : Nat) (mo : Mode) (w' : World), (store p (.complex .f64 b c) mo).run Tryz.prog w' = stored Tryz.prog w' p (.complex .f64 b c) mo := fun p b c mo w' => run_store _ w' p _ mo rfl
  obtain ⟨W0, hW0, hB0, hb0⟩ := boxed w
  have HW0 := Lib.hid hW0
  have HB := Lib.hid hB0
  have HX := Lib.hid hb0
  have hz : w.heap.size < W0.heap.size := hb0.lt
  clear hW0 hB0 hb0
  have HM : Hid (bAt s.data.toList 0 ≠ 45) := Lib.hid (by rw [bAt_ge (by show s.size ≤ 0; omega)]; decide)
  have hA := fun W => number_any s hm W
  obtain ⟨A, hAA⟩ : ∃ A, numQ s.data.toList = A := ⟨_, rfl⟩
  rw [hAA] at hA
  have HA := Lib.hid hA
  have HAA := Lib.hid hAA
  clear hA hAA
  have hclr : True := trivial
  rcases A with _ | n
  · have HMM := HM
    have hfin : ∀ e, e = Ending.returned (.tuple #[valV 2 0 ((wF s.data.toList).getD 0) 0 0 ⟨#[]⟩, .bool (wF s.data.toList).isSome]) → NumP s.data.toList e := fun e h => .inr (.inr ⟨.inl ⟨HMM.out, fun n h => absurd (HAA.out.symm.trans h) (fun h => by cases h)⟩, h⟩)
    have hwe := fun W => weighed_any s hm W
    generalize wF s.data.toList = B at hwe hfin
    have HWE := Lib.hid hwe
    have HF := Lib.hid hfin
    clear hwe hfin
    rcases B with _ | b
    · clear hclr
      have f0 := HX.out.fz 0
      have f1 := HX.out.fz 1
      have f2 := HX.out.fz 2
      have f3 := HX.out.fz 3
      have f4 := HX.out.fz 4
      have c0 := HX.out.c0
      have c1 := HX.out.c1
      have c2 := HX.out.c2
      have c3 := HX.out.c3
      have c4 := HX.out.c4
      have hlt := HX.out.lt
      go_enter Tryz.func21, Tryz.ntmps21
      go_upto_region 1 with (fail)
      rw [← HW0.out]
      go_upto_region 17 with (fail)
      go_wp2_with (first | (go_at_call 45; refine (HA.out _).mono ?_; rintro e w' ⟨rfl, rfl⟩; simp only [numV, Option.getD_some, Option.isSome_some]) | (go_at_call 44; refine (HWE.out _).mono ?_; rintro e w' ⟨rfl, rfl⟩; simp only [wV, Option.getD_none, Option.isSome_none]))
      have Z := HX.out.put (.int .i64 2) (.int .i64 0) (.float .f64 0) (.complex .f64 0 0) (.string ⟨#[]⟩)
      unfold put5 at Z
      have z0 := Z.c0
      have z1 := Z.c1
      have z2 := Z.c2
      have z3 := Z.c3
      have z4 := Z.c4
      exact bodyPost_ret (v := .tuple #[valV 2 0 0 0 0 ⟨#[]⟩, .bool false]) (by simp [results, Tryz.results21, go_sem, z0, z1, z2, z3, z4, valV]) rfl ⟨HF.out _ rfl, below_put5 HB.out (Nat.le_refl _) _ _ _ _ _⟩
    · clear hclr
      have f0 := HX.out.fz 0
      have f1 := HX.out.fz 1
      have f2 := HX.out.fz 2
      have f3 := HX.out.fz 3
      have f4 := HX.out.fz 4
      have c0 := HX.out.c0
      have c1 := HX.out.c1
      have c2 := HX.out.c2
      have c3 := HX.out.c3
      have c4 := HX.out.c4
      have hlt := HX.out.lt
      go_enter Tryz.func21, Tryz.ntmps21
      go_upto_region 1 with (fail)
      rw [← HW0.out]
      go_upto_region 17 with (fail)
      go_wp2_with (first | (go_at_call 45; refine (HA.out _).mono ?_; rintro e w' ⟨rfl, rfl⟩; simp only [numV, Option.getD_some, Option.isSome_some]) | (go_at_call 44; refine (HWE.out _).mono ?_; rintro e w' ⟨rfl, rfl⟩; simp only [wV, Option.getD_none, Option.isSome_none]))
      have Z := HX.out.put (.int .i64 2) (.int .i64 0) (.float .f64 b) (.complex .f64 0 0) (.string ⟨#[]⟩)
      unfold put5 at Z
      have z0 := Z.c0
      have z1 := Z.c1
      have z2 := Z.c2
      have z3 := Z.c3
      have z4 := Z.c4
      exact bodyPost_ret (v := .tuple #[valV 2 0 b 0 0 ⟨#[]⟩, .bool true]) (by simp [results, Tryz.results21, go_sem, z0, z1, z2, z3, z4, valV]) rfl ⟨HF.out _ rfl, below_put5 HB.out (Nat.le_refl _) _ _ _ _ _⟩
  · have hn64 := numQ_lt HAA.out
    by_cases hbig : 9223372036854775808 ≤ n
    · have HMM := HM
      have HBG := Lib.hid hbig
      have g1 : decide ((n : Int) < 9223372036854775808) = false := decide_eq_false (by omega)
      have g2 : True := trivial
      have G1 : Nat → decide ((n : Int) < 9223372036854775808) = _ := fun _ => g1
      have G2 := Lib.hid g2
      clear hbig hn64 g1 g2
      have hfin : ∀ e, e = Ending.returned (.tuple #[valV 2 0 ((wF s.data.toList).getD 0) 0 0 ⟨#[]⟩, .bool (wF s.data.toList).isSome]) → NumP s.data.toList e := fun e h => .inr (.inr ⟨.inl ⟨HMM.out, fun m h => by have := Option.some.inj (HAA.out.symm.trans h); have := HBG.out; omega⟩, h⟩)
      have hwe := fun W => weighed_any s hm W
      generalize wF s.data.toList = B at hwe hfin
      have HWE := Lib.hid hwe
      have HF := Lib.hid hfin
      clear hwe hfin
      rcases B with _ | b
      · clear hclr
        have f0 := HX.out.fz 0
        have f1 := HX.out.fz 1
        have f2 := HX.out.fz 2
        have f3 := HX.out.fz 3
        have f4 := HX.out.fz 4
        have c0 := HX.out.c0
        have c1 := HX.out.c1
        have c2 := HX.out.c2
        have c3 := HX.out.c3
        have c4 := HX.out.c4
        have hlt := HX.out.lt
        go_enter Tryz.func21, Tryz.ntmps21
        go_upto_region 1 with (fail)
        rw [← HW0.out]
        go_upto_region 17 with (fail)
        have g1 := G1 0
        have g2 := G2.out
        go_wp2_with (first | (go_at_call 45; refine (HA.out _).mono ?_; rintro e w' ⟨rfl, rfl⟩; simp only [numV, Option.getD_some, Option.isSome_some]) | (go_at_call 44; refine (HWE.out _).mono ?_; rintro e w' ⟨rfl, rfl⟩; simp only [wV, Option.getD_none, Option.isSome_none]))
        have Z := HX.out.put (.int .i64 2) (.int .i64 0) (.float .f64 0) (.complex .f64 0 0) (.string ⟨#[]⟩)
        unfold put5 at Z
        have z0 := Z.c0
        have z1 := Z.c1
        have z2 := Z.c2
        have z3 := Z.c3
        have z4 := Z.c4
        exact bodyPost_ret (v := .tuple #[valV 2 0 0 0 0 ⟨#[]⟩, .bool false]) (by simp [results, Tryz.results21, go_sem, z0, z1, z2, z3, z4, valV]) rfl ⟨HF.out _ rfl, below_put5 HB.out (Nat.le_refl _) _ _ _ _ _⟩
      · clear hclr
        have f0 := HX.out.fz 0
        have f1 := HX.out.fz 1
        have f2 := HX.out.fz 2
        have f3 := HX.out.fz 3
        have f4 := HX.out.fz 4
        have c0 := HX.out.c0
        have c1 := HX.out.c1
        have c2 := HX.out.c2
        have c3 := HX.out.c3
        have c4 := HX.out.c4
        have hlt := HX.out.lt
        go_enter Tryz.func21, Tryz.ntmps21
        go_upto_region 1 with (fail)
        rw [← HW0.out]
        go_upto_region 17 with (fail)
        have g1 := G1 0
        have g2 := G2.out
        go_wp2_with (first | (go_at_call 45; refine (HA.out _).mono ?_; rintro e w' ⟨rfl, rfl⟩; simp only [numV, Option.getD_some, Option.isSome_some]) | (go_at_call 44; refine (HWE.out _).mono ?_; rintro e w' ⟨rfl, rfl⟩; simp only [wV, Option.getD_none, Option.isSome_none]))
        have Z := HX.out.put (.int .i64 2) (.int .i64 0) (.float .f64 b) (.complex .f64 0 0) (.string ⟨#[]⟩)
        unfold put5 at Z
        have z0 := Z.c0
        have z1 := Z.c1
        have z2 := Z.c2
        have z3 := Z.c3
        have z4 := Z.c4
        exact bodyPost_ret (v := .tuple #[valV 2 0 b 0 0 ⟨#[]⟩, .bool true]) (by simp [results, Tryz.results21, go_sem, z0, z1, z2, z3, z4, valV]) rfl ⟨HF.out _ rfl, below_put5 HB.out (Nat.le_refl _) _ _ _ _ _⟩
    · have g1 : decide ((n : Int) < 9223372036854775808) = true := decide_eq_true (by omega)
      have e1 : IntKind.i64.wrap (n : Int) = n := by rw [IntKind.wrap_i64]; omega
      have HF : Hid (NumP s.data.toList (Ending.returned (.tuple #[valV 1 n 0 0 0 ⟨#[]⟩, .bool true]))) := Lib.hid (.inl ⟨n, HAA.out, HM.out, by omega, rfl⟩)
      have G1 : Nat → decide ((n : Int) < 9223372036854775808) = _ := fun _ => g1
      clear hbig hclr hn64 g1
      have f0 := HX.out.fz 0
      have f1 := HX.out.fz 1
      have f2 := HX.out.fz 2
      have f3 := HX.out.fz 3
      have f4 := HX.out.fz 4
      have c0 := HX.out.c0
      have c1 := HX.out.c1
      have c2 := HX.out.c2
      have c3 := HX.out.c3
      have c4 := HX.out.c4
      have hlt := HX.out.lt
      go_enter Tryz.func21, Tryz.ntmps21
      go_upto_region 1 with (fail)
      rw [← HW0.out]
      go_upto_region 17 with (fail)
      have g1 := G1 0
      go_wp2_with (first | (go_at_call 45; refine (HA.out _).mono ?_; rintro e w' ⟨rfl, rfl⟩; simp only [numV, Option.getD_some, Option.isSome_some]) )
      have Z := HX.out.put (.int .i64 1) (.int .i64 n) (.float .f64 0) (.complex .f64 0 0) (.string ⟨#[]⟩)
      unfold put5 at Z
      have z0 := Z.c0
      have z1 := Z.c1
      have z2 := Z.c2
      have z3 := Z.c3
      have z4 := Z.c4
      exact bodyPost_ret (v := .tuple #[valV 1 n 0 0 0 ⟨#[]⟩, .bool true]) (by simp [results, Tryz.results21, go_sem, z0, z1, z2, z3, z4, valV]) rfl ⟨HF.out, below_put5 HB.out (Nat.le_refl _) _ _ _ _ _⟩
set_option maxHeartbeats 8000000 in
theorem rread_num1 (s : ByteArray) (w : World) (N : Nat) (hs : s.size = N + 1) (hN : Hid (N = 0)) (h0 : (s[0]'(by omega)) = 45) (hm : s.size ≤ 140737488355328) (n1 : (s.toList == [116, 114, 117, 101]) = false) (n2 : (s.toList == [102, 97, 108, 115, 101]) = false) :
    Calls Tryz.prog 21 #[.string s] w fun e w' => NumP s.data.toList e ∧ Below w.heap.size w w' := by
  have sf : ∀ (p : Addr) (b : Nat) (mo : Mode) (w' : World), (store p (.float .f64 b) mo).run Tryz.prog w' = stored Tryz.prog w' p (.float .f64 b) mo := fun p b mo w' => run_store _ w' p _ mo rfl
  have sc : ∀ (p : Addr) (b c : Nat) (mo : Mode) (w' : World), (store p (.complex .f64 b c) mo).run Tryz.prog w' = stored Tryz.prog w' p (.complex .f64 b c) mo := fun p b c mo w' => run_store _ w' p _ mo rfl
  obtain ⟨W0, hW0, hB0, hb0⟩ := boxed w
  have HW0 := Lib.hid hW0
  have HB := Lib.hid hB0
  have HX := Lib.hid hb0
  have hz : w.heap.size < W0.heap.size := hb0.lt
  clear hW0 hB0 hb0
  have hb0 : bAt s.data.toList 0 = s[0]'(by omega) := bAt_get (by omega)
  have HM : Hid (bAt s.data.toList 0 = 45) := Lib.hid (by rw [hb0]; exact h0)
  have q45 : (((s[0]'(by omega)).toNat : Int) == 45) = true := by rw [h0]; rfl
  have q34 : (((s[0]'(by omega)).toNat : Int) == 34) = false := by rw [h0]; rfl
  have q40 : (((s[0]'(by omega)).toNat : Int) == 40) = false := by rw [h0]; rfl
  have q0 : decide ((0 : Int) < (N : Int) + 1) = true := decide_eq_true (by omega)
  clear hb0 h0
  have d2 : decide ((2 : Int) ≤ (N : Int) + 1) = false := decide_eq_false (by have := hN.out; omega)
  have hA := fun W => number_any (s.extract 1 (N + 1)) (by rw [ByteArray.size_extract]; omega) W
  rw [ex_list, List.take_of_length_le (show s.data.toList.length ≤ N + 1 by show s.size ≤ N + 1; omega)] at hA
  obtain ⟨A, hAA⟩ : ∃ A, numQ (s.data.toList.drop 1) = A := ⟨_, rfl⟩
  rw [hAA] at hA
  have HA := Lib.hid hA
  have HAA := Lib.hid hAA
  clear hA hAA
  have hclr : True := trivial
  rcases A with _ | n
  · have HMM := HM
    have hfin : ∀ e, e = Ending.returned (.tuple #[valV 2 0 ((wF s.data.toList).getD 0) 0 0 ⟨#[]⟩, .bool (wF s.data.toList).isSome]) → NumP s.data.toList e := fun e h => .inr (.inr ⟨.inr ⟨HMM.out, fun n h => absurd (HAA.out.symm.trans h) (fun h => by cases h)⟩, h⟩)
    have hwe := fun W => weighed_any s hm W
    generalize wF s.data.toList = B at hwe hfin
    have HWE := Lib.hid hwe
    have HF := Lib.hid hfin
    clear hwe hfin
    rcases B with _ | b
    · clear hclr
      have f0 := HX.out.fz 0
      have f1 := HX.out.fz 1
      have f2 := HX.out.fz 2
      have f3 := HX.out.fz 3
      have f4 := HX.out.fz 4
      have c0 := HX.out.c0
      have c1 := HX.out.c1
      have c2 := HX.out.c2
      have c3 := HX.out.c3
      have c4 := HX.out.c4
      have hlt := HX.out.lt
      go_enter Tryz.func21, Tryz.ntmps21
      go_upto_region 1 with (fail)
      rw [← HW0.out]
      go_upto_region 17 with (fail)
      go_wp2_with (first | (go_at_call 45; refine (HA.out _).mono ?_; rintro e w' ⟨rfl, rfl⟩; simp only [numV, Option.getD_some, Option.isSome_some]) | (go_at_call 44; refine (HWE.out _).mono ?_; rintro e w' ⟨rfl, rfl⟩; simp only [wV, Option.getD_none, Option.isSome_none]))
      have Z := HX.out.put (.int .i64 2) (.int .i64 0) (.float .f64 0) (.complex .f64 0 0) (.string ⟨#[]⟩)
      unfold put5 at Z
      have z0 := Z.c0
      have z1 := Z.c1
      have z2 := Z.c2
      have z3 := Z.c3
      have z4 := Z.c4
      exact bodyPost_ret (v := .tuple #[valV 2 0 0 0 0 ⟨#[]⟩, .bool false]) (by simp [results, Tryz.results21, go_sem, z0, z1, z2, z3, z4, valV]) rfl ⟨HF.out _ rfl, below_put5 HB.out (Nat.le_refl _) _ _ _ _ _⟩
    · clear hclr
      have f0 := HX.out.fz 0
      have f1 := HX.out.fz 1
      have f2 := HX.out.fz 2
      have f3 := HX.out.fz 3
      have f4 := HX.out.fz 4
      have c0 := HX.out.c0
      have c1 := HX.out.c1
      have c2 := HX.out.c2
      have c3 := HX.out.c3
      have c4 := HX.out.c4
      have hlt := HX.out.lt
      go_enter Tryz.func21, Tryz.ntmps21
      go_upto_region 1 with (fail)
      rw [← HW0.out]
      go_upto_region 17 with (fail)
      go_wp2_with (first | (go_at_call 45; refine (HA.out _).mono ?_; rintro e w' ⟨rfl, rfl⟩; simp only [numV, Option.getD_some, Option.isSome_some]) | (go_at_call 44; refine (HWE.out _).mono ?_; rintro e w' ⟨rfl, rfl⟩; simp only [wV, Option.getD_none, Option.isSome_none]))
      have Z := HX.out.put (.int .i64 2) (.int .i64 0) (.float .f64 b) (.complex .f64 0 0) (.string ⟨#[]⟩)
      unfold put5 at Z
      have z0 := Z.c0
      have z1 := Z.c1
      have z2 := Z.c2
      have z3 := Z.c3
      have z4 := Z.c4
      exact bodyPost_ret (v := .tuple #[valV 2 0 b 0 0 ⟨#[]⟩, .bool true]) (by simp [results, Tryz.results21, go_sem, z0, z1, z2, z3, z4, valV]) rfl ⟨HF.out _ rfl, below_put5 HB.out (Nat.le_refl _) _ _ _ _ _⟩
  · have hn64 := numQ_lt HAA.out
    by_cases hbig : 9223372036854775808 < n
    · have HMM := HM
      have HBG := Lib.hid hbig
      have g1 : decide ((n : Int) < 9223372036854775808) = false := decide_eq_false (by omega)
      have g2 : ((n : Int) == 9223372036854775808) = false := beq_eq_false_iff_ne.2 (by omega)
      have G1 : Nat → decide ((n : Int) < 9223372036854775808) = _ := fun _ => g1
      have G2 := Lib.hid g2
      clear hbig hn64 g1 g2
      have hfin : ∀ e, e = Ending.returned (.tuple #[valV 2 0 ((wF s.data.toList).getD 0) 0 0 ⟨#[]⟩, .bool (wF s.data.toList).isSome]) → NumP s.data.toList e := fun e h => .inr (.inr ⟨.inr ⟨HMM.out, fun m h => by have := Option.some.inj (HAA.out.symm.trans h); have := HBG.out; omega⟩, h⟩)
      have hwe := fun W => weighed_any s hm W
      generalize wF s.data.toList = B at hwe hfin
      have HWE := Lib.hid hwe
      have HF := Lib.hid hfin
      clear hwe hfin
      rcases B with _ | b
      · clear hclr
        have f0 := HX.out.fz 0
        have f1 := HX.out.fz 1
        have f2 := HX.out.fz 2
        have f3 := HX.out.fz 3
        have f4 := HX.out.fz 4
        have c0 := HX.out.c0
        have c1 := HX.out.c1
        have c2 := HX.out.c2
        have c3 := HX.out.c3
        have c4 := HX.out.c4
        have hlt := HX.out.lt
        go_enter Tryz.func21, Tryz.ntmps21
        go_upto_region 1 with (fail)
        rw [← HW0.out]
        go_upto_region 17 with (fail)
        have g1 := G1 0
        have g2 := G2.out
        go_wp2_with (first | (go_at_call 45; refine (HA.out _).mono ?_; rintro e w' ⟨rfl, rfl⟩; simp only [numV, Option.getD_some, Option.isSome_some]) | (go_at_call 44; refine (HWE.out _).mono ?_; rintro e w' ⟨rfl, rfl⟩; simp only [wV, Option.getD_none, Option.isSome_none]))
        have Z := HX.out.put (.int .i64 2) (.int .i64 0) (.float .f64 0) (.complex .f64 0 0) (.string ⟨#[]⟩)
        unfold put5 at Z
        have z0 := Z.c0
        have z1 := Z.c1
        have z2 := Z.c2
        have z3 := Z.c3
        have z4 := Z.c4
        exact bodyPost_ret (v := .tuple #[valV 2 0 0 0 0 ⟨#[]⟩, .bool false]) (by simp [results, Tryz.results21, go_sem, z0, z1, z2, z3, z4, valV]) rfl ⟨HF.out _ rfl, below_put5 HB.out (Nat.le_refl _) _ _ _ _ _⟩
      · clear hclr
        have f0 := HX.out.fz 0
        have f1 := HX.out.fz 1
        have f2 := HX.out.fz 2
        have f3 := HX.out.fz 3
        have f4 := HX.out.fz 4
        have c0 := HX.out.c0
        have c1 := HX.out.c1
        have c2 := HX.out.c2
        have c3 := HX.out.c3
        have c4 := HX.out.c4
        have hlt := HX.out.lt
        go_enter Tryz.func21, Tryz.ntmps21
        go_upto_region 1 with (fail)
        rw [← HW0.out]
        go_upto_region 17 with (fail)
        have g1 := G1 0
        have g2 := G2.out
        go_wp2_with (first | (go_at_call 45; refine (HA.out _).mono ?_; rintro e w' ⟨rfl, rfl⟩; simp only [numV, Option.getD_some, Option.isSome_some]) | (go_at_call 44; refine (HWE.out _).mono ?_; rintro e w' ⟨rfl, rfl⟩; simp only [wV, Option.getD_none, Option.isSome_none]))
        have Z := HX.out.put (.int .i64 2) (.int .i64 0) (.float .f64 b) (.complex .f64 0 0) (.string ⟨#[]⟩)
        unfold put5 at Z
        have z0 := Z.c0
        have z1 := Z.c1
        have z2 := Z.c2
        have z3 := Z.c3
        have z4 := Z.c4
        exact bodyPost_ret (v := .tuple #[valV 2 0 b 0 0 ⟨#[]⟩, .bool true]) (by simp [results, Tryz.results21, go_sem, z0, z1, z2, z3, z4, valV]) rfl ⟨HF.out _ rfl, below_put5 HB.out (Nat.le_refl _) _ _ _ _ _⟩
    · obtain ⟨b, hb⟩ : ∃ b, decide (0 < n) = b := ⟨_, rfl⟩
      have HF : Hid (NumP s.data.toList (Ending.returned (.tuple #[valV 1 (-(n : Int)) 0 0 0 ⟨#[]⟩, .bool b]))) := Lib.hid (.inr (.inl ⟨n, HM.out, HAA.out, by omega, by rw [hb]⟩))
      have g3 : decide ((0 : Int) < (n : Int)) = b := by rw [← hb, decide_eq_decide]; omega
      obtain ⟨n1, hn1⟩ : ∃ n1, n1 = IntKind.i64.wrap (IntKind.u64.wrap ((n : Int) - 1)) := ⟨_, rfl⟩
      have hn2 := hn1
      rw [IntKind.wrap_i64, IntKind.wrap_u64] at hn2
      have e1 : IntKind.i64.wrap (-n1) = -n1 := by rw [IntKind.wrap_i64]; omega
      have e2 : IntKind.i64.wrap (-n1 - 1) = -(n : Int) := by rw [IntKind.wrap_i64]; omega
      have hn3 := hn1.symm
      have ho : (decide ((n : Int) < 9223372036854775808) = true) ∨ (decide ((n : Int) < 9223372036854775808) = false ∧ ((n : Int) == 9223372036854775808) = true) := by
        rcases Nat.lt_or_ge n 9223372036854775808 with h | h
        · exact .inl (decide_eq_true (by omega))
        · exact .inr ⟨decide_eq_false (by omega), beq_iff_eq.2 (by omega)⟩
      have HBb := Lib.hid hb
      clear hbig hclr hb hn1 hn2 hn64
      rcases ho with g1 | ⟨g1, g2⟩
      · skip
        have f0 := HX.out.fz 0
        have f1 := HX.out.fz 1
        have f2 := HX.out.fz 2
        have f3 := HX.out.fz 3
        have f4 := HX.out.fz 4
        have c0 := HX.out.c0
        have c1 := HX.out.c1
        have c2 := HX.out.c2
        have c3 := HX.out.c3
        have c4 := HX.out.c4
        have hlt := HX.out.lt
        go_enter Tryz.func21, Tryz.ntmps21
        go_upto_region 1 with (fail)
        rw [← HW0.out]
        go_upto_region 17 with (fail)
        go_wp2_with (first | (go_at_call 45; refine (HA.out _).mono ?_; rintro e w' ⟨rfl, rfl⟩; simp only [numV, Option.getD_some, Option.isSome_some]) )
        have Z := HX.out.put (.int .i64 1) (.int .i64 (-(n : Int))) (.float .f64 0) (.complex .f64 0 0) (.string ⟨#[]⟩)
        unfold put5 at Z
        have z0 := Z.c0
        have z1 := Z.c1
        have z2 := Z.c2
        have z3 := Z.c3
        have z4 := Z.c4
        exact bodyPost_ret (v := .tuple #[valV 1 (-(n : Int)) 0 0 0 ⟨#[]⟩, .bool b]) (by simp [results, Tryz.results21, go_sem, z0, z1, z2, z3, z4, valV, HBb.out]) rfl ⟨HF.out, below_put5 HB.out (Nat.le_refl _) _ _ _ _ _⟩
      · skip
        have f0 := HX.out.fz 0
        have f1 := HX.out.fz 1
        have f2 := HX.out.fz 2
        have f3 := HX.out.fz 3
        have f4 := HX.out.fz 4
        have c0 := HX.out.c0
        have c1 := HX.out.c1
        have c2 := HX.out.c2
        have c3 := HX.out.c3
        have c4 := HX.out.c4
        have hlt := HX.out.lt
        go_enter Tryz.func21, Tryz.ntmps21
        go_upto_region 1 with (fail)
        rw [← HW0.out]
        go_upto_region 17 with (fail)
        go_wp2_with (first | (go_at_call 45; refine (HA.out _).mono ?_; rintro e w' ⟨rfl, rfl⟩; simp only [numV, Option.getD_some, Option.isSome_some]) )
        have Z := HX.out.put (.int .i64 1) (.int .i64 (-(n : Int))) (.float .f64 0) (.complex .f64 0 0) (.string ⟨#[]⟩)
        unfold put5 at Z
        have z0 := Z.c0
        have z1 := Z.c1
        have z2 := Z.c2
        have z3 := Z.c3
        have z4 := Z.c4
        exact bodyPost_ret (v := .tuple #[valV 1 (-(n : Int)) 0 0 0 ⟨#[]⟩, .bool b]) (by simp [results, Tryz.results21, go_sem, z0, z1, z2, z3, z4, valV, HBb.out]) rfl ⟨HF.out, below_put5 HB.out (Nat.le_refl _) _ _ _ _ _⟩
set_option maxHeartbeats 8000000 in
theorem rread_num2 (s : ByteArray) (w : World) (N : Nat) (hs : s.size = N + 1) (hN : Hid (N = 0)) (h0 : (s[0]'(by omega)) ≠ 45) (hm : s.size ≤ 140737488355328) (n1 : (s.toList == [116, 114, 117, 101]) = false) (n2 : (s.toList == [102, 97, 108, 115, 101]) = false) :
    Calls Tryz.prog 21 #[.string s] w fun e w' => NumP s.data.toList e ∧ Below w.heap.size w w' := by
  have sf : ∀ (p : Addr) (b : Nat) (mo : Mode) (w' : World), (store p (.float .f64 b) mo).run Tryz.prog w' = stored Tryz.prog w' p (.float .f64 b) mo := fun p b mo w' => run_store _ w' p _ mo rfl
  have sc : ∀ (p : Addr) (b c : Nat) (mo : Mode) (w' : World), (store p (.complex .f64 b c) mo).run Tryz.prog w' = stored Tryz.prog w' p (.complex .f64 b c) mo := fun p b c mo w' => run_store _ w' p _ mo rfl
  obtain ⟨W0, hW0, hB0, hb0⟩ := boxed w
  have HW0 := Lib.hid hW0
  have HB := Lib.hid hB0
  have HX := Lib.hid hb0
  have hz : w.heap.size < W0.heap.size := hb0.lt
  clear hW0 hB0 hb0
  have hb0 : bAt s.data.toList 0 = s[0]'(by omega) := bAt_get (by omega)
  have HM : Hid (bAt s.data.toList 0 ≠ 45) := Lib.hid (by rw [hb0]; exact h0)
  have q45 : (((s[0]'(by omega)).toNat : Int) == 45) = false := beq_eq_false_iff_ne.2 (fun h => h0 (UInt8.toNat_inj.1 (by show (s[0]'(by omega)).toNat = 45; omega)))
  have q0 : decide ((0 : Int) < (N : Int) + 1) = true := decide_eq_true (by omega)
  clear hb0 h0
  have d2 : decide ((2 : Int) ≤ (N : Int) + 1) = false := decide_eq_false (by have := hN.out; omega)
  have hA := fun W => number_any s hm W
  obtain ⟨A, hAA⟩ : ∃ A, numQ s.data.toList = A := ⟨_, rfl⟩
  rw [hAA] at hA
  have HA := Lib.hid hA
  have HAA := Lib.hid hAA
  clear hA hAA
  have hclr : True := trivial
  rcases A with _ | n
  · have HMM := HM
    have hfin : ∀ e, e = Ending.returned (.tuple #[valV 2 0 ((wF s.data.toList).getD 0) 0 0 ⟨#[]⟩, .bool (wF s.data.toList).isSome]) → NumP s.data.toList e := fun e h => .inr (.inr ⟨.inl ⟨HMM.out, fun n h => absurd (HAA.out.symm.trans h) (fun h => by cases h)⟩, h⟩)
    have hwe := fun W => weighed_any s hm W
    generalize wF s.data.toList = B at hwe hfin
    have HWE := Lib.hid hwe
    have HF := Lib.hid hfin
    clear hwe hfin
    rcases B with _ | b
    · clear hclr
      have f0 := HX.out.fz 0
      have f1 := HX.out.fz 1
      have f2 := HX.out.fz 2
      have f3 := HX.out.fz 3
      have f4 := HX.out.fz 4
      have c0 := HX.out.c0
      have c1 := HX.out.c1
      have c2 := HX.out.c2
      have c3 := HX.out.c3
      have c4 := HX.out.c4
      have hlt := HX.out.lt
      go_enter Tryz.func21, Tryz.ntmps21
      go_upto_region 1 with (fail)
      rw [← HW0.out]
      go_upto_region 17 with (fail)
      go_wp2_with (first | (go_at_call 45; refine (HA.out _).mono ?_; rintro e w' ⟨rfl, rfl⟩; simp only [numV, Option.getD_some, Option.isSome_some]) | (go_at_call 44; refine (HWE.out _).mono ?_; rintro e w' ⟨rfl, rfl⟩; simp only [wV, Option.getD_none, Option.isSome_none]))
      have Z := HX.out.put (.int .i64 2) (.int .i64 0) (.float .f64 0) (.complex .f64 0 0) (.string ⟨#[]⟩)
      unfold put5 at Z
      have z0 := Z.c0
      have z1 := Z.c1
      have z2 := Z.c2
      have z3 := Z.c3
      have z4 := Z.c4
      exact bodyPost_ret (v := .tuple #[valV 2 0 0 0 0 ⟨#[]⟩, .bool false]) (by simp [results, Tryz.results21, go_sem, z0, z1, z2, z3, z4, valV]) rfl ⟨HF.out _ rfl, below_put5 HB.out (Nat.le_refl _) _ _ _ _ _⟩
    · clear hclr
      have f0 := HX.out.fz 0
      have f1 := HX.out.fz 1
      have f2 := HX.out.fz 2
      have f3 := HX.out.fz 3
      have f4 := HX.out.fz 4
      have c0 := HX.out.c0
      have c1 := HX.out.c1
      have c2 := HX.out.c2
      have c3 := HX.out.c3
      have c4 := HX.out.c4
      have hlt := HX.out.lt
      go_enter Tryz.func21, Tryz.ntmps21
      go_upto_region 1 with (fail)
      rw [← HW0.out]
      go_upto_region 17 with (fail)
      go_wp2_with (first | (go_at_call 45; refine (HA.out _).mono ?_; rintro e w' ⟨rfl, rfl⟩; simp only [numV, Option.getD_some, Option.isSome_some]) | (go_at_call 44; refine (HWE.out _).mono ?_; rintro e w' ⟨rfl, rfl⟩; simp only [wV, Option.getD_none, Option.isSome_none]))
      have Z := HX.out.put (.int .i64 2) (.int .i64 0) (.float .f64 b) (.complex .f64 0 0) (.string ⟨#[]⟩)
      unfold put5 at Z
      have z0 := Z.c0
      have z1 := Z.c1
      have z2 := Z.c2
      have z3 := Z.c3
      have z4 := Z.c4
      exact bodyPost_ret (v := .tuple #[valV 2 0 b 0 0 ⟨#[]⟩, .bool true]) (by simp [results, Tryz.results21, go_sem, z0, z1, z2, z3, z4, valV]) rfl ⟨HF.out _ rfl, below_put5 HB.out (Nat.le_refl _) _ _ _ _ _⟩
  · have hn64 := numQ_lt HAA.out
    by_cases hbig : 9223372036854775808 ≤ n
    · have HMM := HM
      have HBG := Lib.hid hbig
      have g1 : decide ((n : Int) < 9223372036854775808) = false := decide_eq_false (by omega)
      have g2 : True := trivial
      have G1 : Nat → decide ((n : Int) < 9223372036854775808) = _ := fun _ => g1
      have G2 := Lib.hid g2
      clear hbig hn64 g1 g2
      have hfin : ∀ e, e = Ending.returned (.tuple #[valV 2 0 ((wF s.data.toList).getD 0) 0 0 ⟨#[]⟩, .bool (wF s.data.toList).isSome]) → NumP s.data.toList e := fun e h => .inr (.inr ⟨.inl ⟨HMM.out, fun m h => by have := Option.some.inj (HAA.out.symm.trans h); have := HBG.out; omega⟩, h⟩)
      have hwe := fun W => weighed_any s hm W
      generalize wF s.data.toList = B at hwe hfin
      have HWE := Lib.hid hwe
      have HF := Lib.hid hfin
      clear hwe hfin
      rcases B with _ | b
      · clear hclr
        have f0 := HX.out.fz 0
        have f1 := HX.out.fz 1
        have f2 := HX.out.fz 2
        have f3 := HX.out.fz 3
        have f4 := HX.out.fz 4
        have c0 := HX.out.c0
        have c1 := HX.out.c1
        have c2 := HX.out.c2
        have c3 := HX.out.c3
        have c4 := HX.out.c4
        have hlt := HX.out.lt
        go_enter Tryz.func21, Tryz.ntmps21
        go_upto_region 1 with (fail)
        rw [← HW0.out]
        go_upto_region 17 with (fail)
        have g1 := G1 0
        have g2 := G2.out
        go_wp2_with (first | (go_at_call 45; refine (HA.out _).mono ?_; rintro e w' ⟨rfl, rfl⟩; simp only [numV, Option.getD_some, Option.isSome_some]) | (go_at_call 44; refine (HWE.out _).mono ?_; rintro e w' ⟨rfl, rfl⟩; simp only [wV, Option.getD_none, Option.isSome_none]))
        have Z := HX.out.put (.int .i64 2) (.int .i64 0) (.float .f64 0) (.complex .f64 0 0) (.string ⟨#[]⟩)
        unfold put5 at Z
        have z0 := Z.c0
        have z1 := Z.c1
        have z2 := Z.c2
        have z3 := Z.c3
        have z4 := Z.c4
        exact bodyPost_ret (v := .tuple #[valV 2 0 0 0 0 ⟨#[]⟩, .bool false]) (by simp [results, Tryz.results21, go_sem, z0, z1, z2, z3, z4, valV]) rfl ⟨HF.out _ rfl, below_put5 HB.out (Nat.le_refl _) _ _ _ _ _⟩
      · clear hclr
        have f0 := HX.out.fz 0
        have f1 := HX.out.fz 1
        have f2 := HX.out.fz 2
        have f3 := HX.out.fz 3
        have f4 := HX.out.fz 4
        have c0 := HX.out.c0
        have c1 := HX.out.c1
        have c2 := HX.out.c2
        have c3 := HX.out.c3
        have c4 := HX.out.c4
        have hlt := HX.out.lt
        go_enter Tryz.func21, Tryz.ntmps21
        go_upto_region 1 with (fail)
        rw [← HW0.out]
        go_upto_region 17 with (fail)
        have g1 := G1 0
        have g2 := G2.out
        go_wp2_with (first | (go_at_call 45; refine (HA.out _).mono ?_; rintro e w' ⟨rfl, rfl⟩; simp only [numV, Option.getD_some, Option.isSome_some]) | (go_at_call 44; refine (HWE.out _).mono ?_; rintro e w' ⟨rfl, rfl⟩; simp only [wV, Option.getD_none, Option.isSome_none]))
        have Z := HX.out.put (.int .i64 2) (.int .i64 0) (.float .f64 b) (.complex .f64 0 0) (.string ⟨#[]⟩)
        unfold put5 at Z
        have z0 := Z.c0
        have z1 := Z.c1
        have z2 := Z.c2
        have z3 := Z.c3
        have z4 := Z.c4
        exact bodyPost_ret (v := .tuple #[valV 2 0 b 0 0 ⟨#[]⟩, .bool true]) (by simp [results, Tryz.results21, go_sem, z0, z1, z2, z3, z4, valV]) rfl ⟨HF.out _ rfl, below_put5 HB.out (Nat.le_refl _) _ _ _ _ _⟩
    · have g1 : decide ((n : Int) < 9223372036854775808) = true := decide_eq_true (by omega)
      have e1 : IntKind.i64.wrap (n : Int) = n := by rw [IntKind.wrap_i64]; omega
      have HF : Hid (NumP s.data.toList (Ending.returned (.tuple #[valV 1 n 0 0 0 ⟨#[]⟩, .bool true]))) := Lib.hid (.inl ⟨n, HAA.out, HM.out, by omega, rfl⟩)
      have G1 : Nat → decide ((n : Int) < 9223372036854775808) = _ := fun _ => g1
      clear hbig hclr hn64 g1
      have f0 := HX.out.fz 0
      have f1 := HX.out.fz 1
      have f2 := HX.out.fz 2
      have f3 := HX.out.fz 3
      have f4 := HX.out.fz 4
      have c0 := HX.out.c0
      have c1 := HX.out.c1
      have c2 := HX.out.c2
      have c3 := HX.out.c3
      have c4 := HX.out.c4
      have hlt := HX.out.lt
      go_enter Tryz.func21, Tryz.ntmps21
      go_upto_region 1 with (fail)
      rw [← HW0.out]
      go_upto_region 17 with (fail)
      have g1 := G1 0
      go_wp2_with (first | (go_at_call 45; refine (HA.out _).mono ?_; rintro e w' ⟨rfl, rfl⟩; simp only [numV, Option.getD_some, Option.isSome_some]) )
      have Z := HX.out.put (.int .i64 1) (.int .i64 n) (.float .f64 0) (.complex .f64 0 0) (.string ⟨#[]⟩)
      unfold put5 at Z
      have z0 := Z.c0
      have z1 := Z.c1
      have z2 := Z.c2
      have z3 := Z.c3
      have z4 := Z.c4
      exact bodyPost_ret (v := .tuple #[valV 1 n 0 0 0 ⟨#[]⟩, .bool true]) (by simp [results, Tryz.results21, go_sem, z0, z1, z2, z3, z4, valV]) rfl ⟨HF.out, below_put5 HB.out (Nat.le_refl _) _ _ _ _ _⟩
set_option maxHeartbeats 8000000 in
theorem rread_num3 (s : ByteArray) (w : World) (N : Nat) (hs : s.size = N + 1) (hN : 1 ≤ N) (h0 : (s[0]'(by omega)) = 45) (hm : s.size ≤ 140737488355328) (n1 : (s.toList == [116, 114, 117, 101]) = false) (n2 : (s.toList == [102, 97, 108, 115, 101]) = false) :
    Calls Tryz.prog 21 #[.string s] w fun e w' => NumP s.data.toList e ∧ Below w.heap.size w w' := by
  have sf : ∀ (p : Addr) (b : Nat) (mo : Mode) (w' : World), (store p (.float .f64 b) mo).run Tryz.prog w' = stored Tryz.prog w' p (.float .f64 b) mo := fun p b mo w' => run_store _ w' p _ mo rfl
  have sc : ∀ (p : Addr) (b c : Nat) (mo : Mode) (w' : World), (store p (.complex .f64 b c) mo).run Tryz.prog w' = stored Tryz.prog w' p (.complex .f64 b c) mo := fun p b c mo w' => run_store _ w' p _ mo rfl
  obtain ⟨W0, hW0, hB0, hb0⟩ := boxed w
  have HW0 := Lib.hid hW0
  have HB := Lib.hid hB0
  have HX := Lib.hid hb0
  have hz : w.heap.size < W0.heap.size := hb0.lt
  clear hW0 hB0 hb0
  have hb0 : bAt s.data.toList 0 = s[0]'(by omega) := bAt_get (by omega)
  have HM : Hid (bAt s.data.toList 0 = 45) := Lib.hid (by rw [hb0]; exact h0)
  have q45 : (((s[0]'(by omega)).toNat : Int) == 45) = true := by rw [h0]; rfl
  have q34 : (((s[0]'(by omega)).toNat : Int) == 34) = false := by rw [h0]; rfl
  have q40 : (((s[0]'(by omega)).toNat : Int) == 40) = false := by rw [h0]; rfl
  have q0 : decide ((0 : Int) < (N : Int) + 1) = true := decide_eq_true (by omega)
  clear hb0 h0
  have d2 : decide ((2 : Int) ≤ (N : Int) + 1) = true := decide_eq_true (by omega)
  have hA := fun W => number_any (s.extract 1 (N + 1)) (by rw [ByteArray.size_extract]; omega) W
  rw [ex_list, List.take_of_length_le (show s.data.toList.length ≤ N + 1 by show s.size ≤ N + 1; omega)] at hA
  obtain ⟨A, hAA⟩ : ∃ A, numQ (s.data.toList.drop 1) = A := ⟨_, rfl⟩
  rw [hAA] at hA
  have HA := Lib.hid hA
  have HAA := Lib.hid hAA
  clear hA hAA
  have hclr : True := trivial
  rcases A with _ | n
  · have HMM := HM
    have hfin : ∀ e, e = Ending.returned (.tuple #[valV 2 0 ((wF s.data.toList).getD 0) 0 0 ⟨#[]⟩, .bool (wF s.data.toList).isSome]) → NumP s.data.toList e := fun e h => .inr (.inr ⟨.inr ⟨HMM.out, fun n h => absurd (HAA.out.symm.trans h) (fun h => by cases h)⟩, h⟩)
    have hwe := fun W => weighed_any s hm W
    generalize wF s.data.toList = B at hwe hfin
    have HWE := Lib.hid hwe
    have HF := Lib.hid hfin
    clear hwe hfin
    rcases B with _ | b
    · clear hclr
      have f0 := HX.out.fz 0
      have f1 := HX.out.fz 1
      have f2 := HX.out.fz 2
      have f3 := HX.out.fz 3
      have f4 := HX.out.fz 4
      have c0 := HX.out.c0
      have c1 := HX.out.c1
      have c2 := HX.out.c2
      have c3 := HX.out.c3
      have c4 := HX.out.c4
      have hlt := HX.out.lt
      go_enter Tryz.func21, Tryz.ntmps21
      go_upto_region 1 with (fail)
      rw [← HW0.out]
      go_upto_region 17 with (fail)
      go_wp2_with (first | (go_at_call 45; refine (HA.out _).mono ?_; rintro e w' ⟨rfl, rfl⟩; simp only [numV, Option.getD_some, Option.isSome_some]) | (go_at_call 44; refine (HWE.out _).mono ?_; rintro e w' ⟨rfl, rfl⟩; simp only [wV, Option.getD_none, Option.isSome_none]))
      have Z := HX.out.put (.int .i64 2) (.int .i64 0) (.float .f64 0) (.complex .f64 0 0) (.string ⟨#[]⟩)
      unfold put5 at Z
      have z0 := Z.c0
      have z1 := Z.c1
      have z2 := Z.c2
      have z3 := Z.c3
      have z4 := Z.c4
      exact bodyPost_ret (v := .tuple #[valV 2 0 0 0 0 ⟨#[]⟩, .bool false]) (by simp [results, Tryz.results21, go_sem, z0, z1, z2, z3, z4, valV]) rfl ⟨HF.out _ rfl, below_put5 HB.out (Nat.le_refl _) _ _ _ _ _⟩
    · clear hclr
      have f0 := HX.out.fz 0
      have f1 := HX.out.fz 1
      have f2 := HX.out.fz 2
      have f3 := HX.out.fz 3
      have f4 := HX.out.fz 4
      have c0 := HX.out.c0
      have c1 := HX.out.c1
      have c2 := HX.out.c2
      have c3 := HX.out.c3
      have c4 := HX.out.c4
      have hlt := HX.out.lt
      go_enter Tryz.func21, Tryz.ntmps21
      go_upto_region 1 with (fail)
      rw [← HW0.out]
      go_upto_region 17 with (fail)
      go_wp2_with (first | (go_at_call 45; refine (HA.out _).mono ?_; rintro e w' ⟨rfl, rfl⟩; simp only [numV, Option.getD_some, Option.isSome_some]) | (go_at_call 44; refine (HWE.out _).mono ?_; rintro e w' ⟨rfl, rfl⟩; simp only [wV, Option.getD_none, Option.isSome_none]))
      have Z := HX.out.put (.int .i64 2) (.int .i64 0) (.float .f64 b) (.complex .f64 0 0) (.string ⟨#[]⟩)
      unfold put5 at Z
      have z0 := Z.c0
      have z1 := Z.c1
      have z2 := Z.c2
      have z3 := Z.c3
      have z4 := Z.c4
      exact bodyPost_ret (v := .tuple #[valV 2 0 b 0 0 ⟨#[]⟩, .bool true]) (by simp [results, Tryz.results21, go_sem, z0, z1, z2, z3, z4, valV]) rfl ⟨HF.out _ rfl, below_put5 HB.out (Nat.le_refl _) _ _ _ _ _⟩
  · have hn64 := numQ_lt HAA.out
    by_cases hbig : 9223372036854775808 < n
    · have HMM := HM
      have HBG := Lib.hid hbig
      have g1 : decide ((n : Int) < 9223372036854775808) = false := decide_eq_false (by omega)
      have g2 : ((n : Int) == 9223372036854775808) = false := beq_eq_false_iff_ne.2 (by omega)
      have G1 : Nat → decide ((n : Int) < 9223372036854775808) = _ := fun _ => g1
      have G2 := Lib.hid g2
      clear hbig hn64 g1 g2
      have hfin : ∀ e, e = Ending.returned (.tuple #[valV 2 0 ((wF s.data.toList).getD 0) 0 0 ⟨#[]⟩, .bool (wF s.data.toList).isSome]) → NumP s.data.toList e := fun e h => .inr (.inr ⟨.inr ⟨HMM.out, fun m h => by have := Option.some.inj (HAA.out.symm.trans h); have := HBG.out; omega⟩, h⟩)
      have hwe := fun W => weighed_any s hm W
      generalize wF s.data.toList = B at hwe hfin
      have HWE := Lib.hid hwe
      have HF := Lib.hid hfin
      clear hwe hfin
      rcases B with _ | b
      · clear hclr
        have f0 := HX.out.fz 0
        have f1 := HX.out.fz 1
        have f2 := HX.out.fz 2
        have f3 := HX.out.fz 3
        have f4 := HX.out.fz 4
        have c0 := HX.out.c0
        have c1 := HX.out.c1
        have c2 := HX.out.c2
        have c3 := HX.out.c3
        have c4 := HX.out.c4
        have hlt := HX.out.lt
        go_enter Tryz.func21, Tryz.ntmps21
        go_upto_region 1 with (fail)
        rw [← HW0.out]
        go_upto_region 17 with (fail)
        have g1 := G1 0
        have g2 := G2.out
        go_wp2_with (first | (go_at_call 45; refine (HA.out _).mono ?_; rintro e w' ⟨rfl, rfl⟩; simp only [numV, Option.getD_some, Option.isSome_some]) | (go_at_call 44; refine (HWE.out _).mono ?_; rintro e w' ⟨rfl, rfl⟩; simp only [wV, Option.getD_none, Option.isSome_none]))
        have Z := HX.out.put (.int .i64 2) (.int .i64 0) (.float .f64 0) (.complex .f64 0 0) (.string ⟨#[]⟩)
        unfold put5 at Z
        have z0 := Z.c0
        have z1 := Z.c1
        have z2 := Z.c2
        have z3 := Z.c3
        have z4 := Z.c4
        exact bodyPost_ret (v := .tuple #[valV 2 0 0 0 0 ⟨#[]⟩, .bool false]) (by simp [results, Tryz.results21, go_sem, z0, z1, z2, z3, z4, valV]) rfl ⟨HF.out _ rfl, below_put5 HB.out (Nat.le_refl _) _ _ _ _ _⟩
      · clear hclr
        have f0 := HX.out.fz 0
        have f1 := HX.out.fz 1
        have f2 := HX.out.fz 2
        have f3 := HX.out.fz 3
        have f4 := HX.out.fz 4
        have c0 := HX.out.c0
        have c1 := HX.out.c1
        have c2 := HX.out.c2
        have c3 := HX.out.c3
        have c4 := HX.out.c4
        have hlt := HX.out.lt
        go_enter Tryz.func21, Tryz.ntmps21
        go_upto_region 1 with (fail)
        rw [← HW0.out]
        go_upto_region 17 with (fail)
        have g1 := G1 0
        have g2 := G2.out
        go_wp2_with (first | (go_at_call 45; refine (HA.out _).mono ?_; rintro e w' ⟨rfl, rfl⟩; simp only [numV, Option.getD_some, Option.isSome_some]) | (go_at_call 44; refine (HWE.out _).mono ?_; rintro e w' ⟨rfl, rfl⟩; simp only [wV, Option.getD_none, Option.isSome_none]))
        have Z := HX.out.put (.int .i64 2) (.int .i64 0) (.float .f64 b) (.complex .f64 0 0) (.string ⟨#[]⟩)
        unfold put5 at Z
        have z0 := Z.c0
        have z1 := Z.c1
        have z2 := Z.c2
        have z3 := Z.c3
        have z4 := Z.c4
        exact bodyPost_ret (v := .tuple #[valV 2 0 b 0 0 ⟨#[]⟩, .bool true]) (by simp [results, Tryz.results21, go_sem, z0, z1, z2, z3, z4, valV]) rfl ⟨HF.out _ rfl, below_put5 HB.out (Nat.le_refl _) _ _ _ _ _⟩
    · obtain ⟨b, hb⟩ : ∃ b, decide (0 < n) = b := ⟨_, rfl⟩
      have HF : Hid (NumP s.data.toList (Ending.returned (.tuple #[valV 1 (-(n : Int)) 0 0 0 ⟨#[]⟩, .bool b]))) := Lib.hid (.inr (.inl ⟨n, HM.out, HAA.out, by omega, by rw [hb]⟩))
      have g3 : decide ((0 : Int) < (n : Int)) = b := by rw [← hb, decide_eq_decide]; omega
      obtain ⟨n1, hn1⟩ : ∃ n1, n1 = IntKind.i64.wrap (IntKind.u64.wrap ((n : Int) - 1)) := ⟨_, rfl⟩
      have hn2 := hn1
      rw [IntKind.wrap_i64, IntKind.wrap_u64] at hn2
      have e1 : IntKind.i64.wrap (-n1) = -n1 := by rw [IntKind.wrap_i64]; omega
      have e2 : IntKind.i64.wrap (-n1 - 1) = -(n : Int) := by rw [IntKind.wrap_i64]; omega
      have hn3 := hn1.symm
      have ho : (decide ((n : Int) < 9223372036854775808) = true) ∨ (decide ((n : Int) < 9223372036854775808) = false ∧ ((n : Int) == 9223372036854775808) = true) := by
        rcases Nat.lt_or_ge n 9223372036854775808 with h | h
        · exact .inl (decide_eq_true (by omega))
        · exact .inr ⟨decide_eq_false (by omega), beq_iff_eq.2 (by omega)⟩
      have HBb := Lib.hid hb
      clear hbig hclr hb hn1 hn2 hn64
      rcases ho with g1 | ⟨g1, g2⟩
      · skip
        have f0 := HX.out.fz 0
        have f1 := HX.out.fz 1
        have f2 := HX.out.fz 2
        have f3 := HX.out.fz 3
        have f4 := HX.out.fz 4
        have c0 := HX.out.c0
        have c1 := HX.out.c1
        have c2 := HX.out.c2
        have c3 := HX.out.c3
        have c4 := HX.out.c4
        have hlt := HX.out.lt
        go_enter Tryz.func21, Tryz.ntmps21
        go_upto_region 1 with (fail)
        rw [← HW0.out]
        go_upto_region 17 with (fail)
        go_wp2_with (first | (go_at_call 45; refine (HA.out _).mono ?_; rintro e w' ⟨rfl, rfl⟩; simp only [numV, Option.getD_some, Option.isSome_some]) )
        have Z := HX.out.put (.int .i64 1) (.int .i64 (-(n : Int))) (.float .f64 0) (.complex .f64 0 0) (.string ⟨#[]⟩)
        unfold put5 at Z
        have z0 := Z.c0
        have z1 := Z.c1
        have z2 := Z.c2
        have z3 := Z.c3
        have z4 := Z.c4
        exact bodyPost_ret (v := .tuple #[valV 1 (-(n : Int)) 0 0 0 ⟨#[]⟩, .bool b]) (by simp [results, Tryz.results21, go_sem, z0, z1, z2, z3, z4, valV, HBb.out]) rfl ⟨HF.out, below_put5 HB.out (Nat.le_refl _) _ _ _ _ _⟩
      · skip
        have f0 := HX.out.fz 0
        have f1 := HX.out.fz 1
        have f2 := HX.out.fz 2
        have f3 := HX.out.fz 3
        have f4 := HX.out.fz 4
        have c0 := HX.out.c0
        have c1 := HX.out.c1
        have c2 := HX.out.c2
        have c3 := HX.out.c3
        have c4 := HX.out.c4
        have hlt := HX.out.lt
        go_enter Tryz.func21, Tryz.ntmps21
        go_upto_region 1 with (fail)
        rw [← HW0.out]
        go_upto_region 17 with (fail)
        go_wp2_with (first | (go_at_call 45; refine (HA.out _).mono ?_; rintro e w' ⟨rfl, rfl⟩; simp only [numV, Option.getD_some, Option.isSome_some]) )
        have Z := HX.out.put (.int .i64 1) (.int .i64 (-(n : Int))) (.float .f64 0) (.complex .f64 0 0) (.string ⟨#[]⟩)
        unfold put5 at Z
        have z0 := Z.c0
        have z1 := Z.c1
        have z2 := Z.c2
        have z3 := Z.c3
        have z4 := Z.c4
        exact bodyPost_ret (v := .tuple #[valV 1 (-(n : Int)) 0 0 0 ⟨#[]⟩, .bool b]) (by simp [results, Tryz.results21, go_sem, z0, z1, z2, z3, z4, valV, HBb.out]) rfl ⟨HF.out, below_put5 HB.out (Nat.le_refl _) _ _ _ _ _⟩
set_option maxHeartbeats 8000000 in
theorem rread_num4 (s : ByteArray) (w : World) (N : Nat) (hs : s.size = N + 1) (hN : 1 ≤ N) (h0 : (s[0]'(by omega)) ≠ 45) (h34 : (s[0]'(by omega)) ≠ 34) (h40 : (s[0]'(by omega)) ≠ 40) (hm : s.size ≤ 140737488355328) (n1 : (s.toList == [116, 114, 117, 101]) = false) (n2 : (s.toList == [102, 97, 108, 115, 101]) = false) :
    Calls Tryz.prog 21 #[.string s] w fun e w' => NumP s.data.toList e ∧ Below w.heap.size w w' := by
  have sf : ∀ (p : Addr) (b : Nat) (mo : Mode) (w' : World), (store p (.float .f64 b) mo).run Tryz.prog w' = stored Tryz.prog w' p (.float .f64 b) mo := fun p b mo w' => run_store _ w' p _ mo rfl
  have sc : ∀ (p : Addr) (b c : Nat) (mo : Mode) (w' : World), (store p (.complex .f64 b c) mo).run Tryz.prog w' = stored Tryz.prog w' p (.complex .f64 b c) mo := fun p b c mo w' => run_store _ w' p _ mo rfl
  obtain ⟨W0, hW0, hB0, hb0⟩ := boxed w
  have HW0 := Lib.hid hW0
  have HB := Lib.hid hB0
  have HX := Lib.hid hb0
  have hz : w.heap.size < W0.heap.size := hb0.lt
  clear hW0 hB0 hb0
  have q34 : (((s[0]'(by omega)).toNat : Int) == 34) = false := beq_eq_false_iff_ne.2 (fun h => h34 (UInt8.toNat_inj.1 (by show (s[0]'(by omega)).toNat = 34; omega)))
  have q40 : (((s[0]'(by omega)).toNat : Int) == 40) = false := beq_eq_false_iff_ne.2 (fun h => h40 (UInt8.toNat_inj.1 (by show (s[0]'(by omega)).toNat = 40; omega)))
  have hb0 : bAt s.data.toList 0 = s[0]'(by omega) := bAt_get (by omega)
  have HM : Hid (bAt s.data.toList 0 ≠ 45) := Lib.hid (by rw [hb0]; exact h0)
  have q45 : (((s[0]'(by omega)).toNat : Int) == 45) = false := beq_eq_false_iff_ne.2 (fun h => h0 (UInt8.toNat_inj.1 (by show (s[0]'(by omega)).toNat = 45; omega)))
  have q0 : decide ((0 : Int) < (N : Int) + 1) = true := decide_eq_true (by omega)
  clear hb0 h0
  have d2 : decide ((2 : Int) ≤ (N : Int) + 1) = true := decide_eq_true (by omega)
  clear h34 h40
  have hA := fun W => number_any s hm W
  obtain ⟨A, hAA⟩ : ∃ A, numQ s.data.toList = A := ⟨_, rfl⟩
  rw [hAA] at hA
  have HA := Lib.hid hA
  have HAA := Lib.hid hAA
  clear hA hAA
  have hclr : True := trivial
  rcases A with _ | n
  · have HMM := HM
    have hfin : ∀ e, e = Ending.returned (.tuple #[valV 2 0 ((wF s.data.toList).getD 0) 0 0 ⟨#[]⟩, .bool (wF s.data.toList).isSome]) → NumP s.data.toList e := fun e h => .inr (.inr ⟨.inl ⟨HMM.out, fun n h => absurd (HAA.out.symm.trans h) (fun h => by cases h)⟩, h⟩)
    have hwe := fun W => weighed_any s hm W
    generalize wF s.data.toList = B at hwe hfin
    have HWE := Lib.hid hwe
    have HF := Lib.hid hfin
    clear hwe hfin
    rcases B with _ | b
    · clear hclr
      have f0 := HX.out.fz 0
      have f1 := HX.out.fz 1
      have f2 := HX.out.fz 2
      have f3 := HX.out.fz 3
      have f4 := HX.out.fz 4
      have c0 := HX.out.c0
      have c1 := HX.out.c1
      have c2 := HX.out.c2
      have c3 := HX.out.c3
      have c4 := HX.out.c4
      have hlt := HX.out.lt
      go_enter Tryz.func21, Tryz.ntmps21
      go_upto_region 1 with (fail)
      rw [← HW0.out]
      go_upto_region 17 with (fail)
      go_wp2_with (first | (go_at_call 45; refine (HA.out _).mono ?_; rintro e w' ⟨rfl, rfl⟩; simp only [numV, Option.getD_some, Option.isSome_some]) | (go_at_call 44; refine (HWE.out _).mono ?_; rintro e w' ⟨rfl, rfl⟩; simp only [wV, Option.getD_none, Option.isSome_none]))
      have Z := HX.out.put (.int .i64 2) (.int .i64 0) (.float .f64 0) (.complex .f64 0 0) (.string ⟨#[]⟩)
      unfold put5 at Z
      have z0 := Z.c0
      have z1 := Z.c1
      have z2 := Z.c2
      have z3 := Z.c3
      have z4 := Z.c4
      exact bodyPost_ret (v := .tuple #[valV 2 0 0 0 0 ⟨#[]⟩, .bool false]) (by simp [results, Tryz.results21, go_sem, z0, z1, z2, z3, z4, valV]) rfl ⟨HF.out _ rfl, below_put5 HB.out (Nat.le_refl _) _ _ _ _ _⟩
    · clear hclr
      have f0 := HX.out.fz 0
      have f1 := HX.out.fz 1
      have f2 := HX.out.fz 2
      have f3 := HX.out.fz 3
      have f4 := HX.out.fz 4
      have c0 := HX.out.c0
      have c1 := HX.out.c1
      have c2 := HX.out.c2
      have c3 := HX.out.c3
      have c4 := HX.out.c4
      have hlt := HX.out.lt
      go_enter Tryz.func21, Tryz.ntmps21
      go_upto_region 1 with (fail)
      rw [← HW0.out]
      go_upto_region 17 with (fail)
      go_wp2_with (first | (go_at_call 45; refine (HA.out _).mono ?_; rintro e w' ⟨rfl, rfl⟩; simp only [numV, Option.getD_some, Option.isSome_some]) | (go_at_call 44; refine (HWE.out _).mono ?_; rintro e w' ⟨rfl, rfl⟩; simp only [wV, Option.getD_none, Option.isSome_none]))
      have Z := HX.out.put (.int .i64 2) (.int .i64 0) (.float .f64 b) (.complex .f64 0 0) (.string ⟨#[]⟩)
      unfold put5 at Z
      have z0 := Z.c0
      have z1 := Z.c1
      have z2 := Z.c2
      have z3 := Z.c3
      have z4 := Z.c4
      exact bodyPost_ret (v := .tuple #[valV 2 0 b 0 0 ⟨#[]⟩, .bool true]) (by simp [results, Tryz.results21, go_sem, z0, z1, z2, z3, z4, valV]) rfl ⟨HF.out _ rfl, below_put5 HB.out (Nat.le_refl _) _ _ _ _ _⟩
  · have hn64 := numQ_lt HAA.out
    by_cases hbig : 9223372036854775808 ≤ n
    · have HMM := HM
      have HBG := Lib.hid hbig
      have g1 : decide ((n : Int) < 9223372036854775808) = false := decide_eq_false (by omega)
      have g2 : True := trivial
      have G1 : Nat → decide ((n : Int) < 9223372036854775808) = _ := fun _ => g1
      have G2 := Lib.hid g2
      clear hbig hn64 g1 g2
      have hfin : ∀ e, e = Ending.returned (.tuple #[valV 2 0 ((wF s.data.toList).getD 0) 0 0 ⟨#[]⟩, .bool (wF s.data.toList).isSome]) → NumP s.data.toList e := fun e h => .inr (.inr ⟨.inl ⟨HMM.out, fun m h => by have := Option.some.inj (HAA.out.symm.trans h); have := HBG.out; omega⟩, h⟩)
      have hwe := fun W => weighed_any s hm W
      generalize wF s.data.toList = B at hwe hfin
      have HWE := Lib.hid hwe
      have HF := Lib.hid hfin
      clear hwe hfin
      rcases B with _ | b
      · clear hclr
        have f0 := HX.out.fz 0
        have f1 := HX.out.fz 1
        have f2 := HX.out.fz 2
        have f3 := HX.out.fz 3
        have f4 := HX.out.fz 4
        have c0 := HX.out.c0
        have c1 := HX.out.c1
        have c2 := HX.out.c2
        have c3 := HX.out.c3
        have c4 := HX.out.c4
        have hlt := HX.out.lt
        go_enter Tryz.func21, Tryz.ntmps21
        go_upto_region 1 with (fail)
        rw [← HW0.out]
        go_upto_region 17 with (fail)
        have g1 := G1 0
        have g2 := G2.out
        go_wp2_with (first | (go_at_call 45; refine (HA.out _).mono ?_; rintro e w' ⟨rfl, rfl⟩; simp only [numV, Option.getD_some, Option.isSome_some]) | (go_at_call 44; refine (HWE.out _).mono ?_; rintro e w' ⟨rfl, rfl⟩; simp only [wV, Option.getD_none, Option.isSome_none]))
        have Z := HX.out.put (.int .i64 2) (.int .i64 0) (.float .f64 0) (.complex .f64 0 0) (.string ⟨#[]⟩)
        unfold put5 at Z
        have z0 := Z.c0
        have z1 := Z.c1
        have z2 := Z.c2
        have z3 := Z.c3
        have z4 := Z.c4
        exact bodyPost_ret (v := .tuple #[valV 2 0 0 0 0 ⟨#[]⟩, .bool false]) (by simp [results, Tryz.results21, go_sem, z0, z1, z2, z3, z4, valV]) rfl ⟨HF.out _ rfl, below_put5 HB.out (Nat.le_refl _) _ _ _ _ _⟩
      · clear hclr
        have f0 := HX.out.fz 0
        have f1 := HX.out.fz 1
        have f2 := HX.out.fz 2
        have f3 := HX.out.fz 3
        have f4 := HX.out.fz 4
        have c0 := HX.out.c0
        have c1 := HX.out.c1
        have c2 := HX.out.c2
        have c3 := HX.out.c3
        have c4 := HX.out.c4
        have hlt := HX.out.lt
        go_enter Tryz.func21, Tryz.ntmps21
        go_upto_region 1 with (fail)
        rw [← HW0.out]
        go_upto_region 17 with (fail)
        have g1 := G1 0
        have g2 := G2.out
        go_wp2_with (first | (go_at_call 45; refine (HA.out _).mono ?_; rintro e w' ⟨rfl, rfl⟩; simp only [numV, Option.getD_some, Option.isSome_some]) | (go_at_call 44; refine (HWE.out _).mono ?_; rintro e w' ⟨rfl, rfl⟩; simp only [wV, Option.getD_none, Option.isSome_none]))
        have Z := HX.out.put (.int .i64 2) (.int .i64 0) (.float .f64 b) (.complex .f64 0 0) (.string ⟨#[]⟩)
        unfold put5 at Z
        have z0 := Z.c0
        have z1 := Z.c1
        have z2 := Z.c2
        have z3 := Z.c3
        have z4 := Z.c4
        exact bodyPost_ret (v := .tuple #[valV 2 0 b 0 0 ⟨#[]⟩, .bool true]) (by simp [results, Tryz.results21, go_sem, z0, z1, z2, z3, z4, valV]) rfl ⟨HF.out _ rfl, below_put5 HB.out (Nat.le_refl _) _ _ _ _ _⟩
    · have g1 : decide ((n : Int) < 9223372036854775808) = true := decide_eq_true (by omega)
      have e1 : IntKind.i64.wrap (n : Int) = n := by rw [IntKind.wrap_i64]; omega
      have HF : Hid (NumP s.data.toList (Ending.returned (.tuple #[valV 1 n 0 0 0 ⟨#[]⟩, .bool true]))) := Lib.hid (.inl ⟨n, HAA.out, HM.out, by omega, rfl⟩)
      have G1 : Nat → decide ((n : Int) < 9223372036854775808) = _ := fun _ => g1
      clear hbig hclr hn64 g1
      have f0 := HX.out.fz 0
      have f1 := HX.out.fz 1
      have f2 := HX.out.fz 2
      have f3 := HX.out.fz 3
      have f4 := HX.out.fz 4
      have c0 := HX.out.c0
      have c1 := HX.out.c1
      have c2 := HX.out.c2
      have c3 := HX.out.c3
      have c4 := HX.out.c4
      have hlt := HX.out.lt
      go_enter Tryz.func21, Tryz.ntmps21
      go_upto_region 1 with (fail)
      rw [← HW0.out]
      go_upto_region 17 with (fail)
      have g1 := G1 0
      go_wp2_with (first | (go_at_call 45; refine (HA.out _).mono ?_; rintro e w' ⟨rfl, rfl⟩; simp only [numV, Option.getD_some, Option.isSome_some]) )
      have Z := HX.out.put (.int .i64 1) (.int .i64 n) (.float .f64 0) (.complex .f64 0 0) (.string ⟨#[]⟩)
      unfold put5 at Z
      have z0 := Z.c0
      have z1 := Z.c1
      have z2 := Z.c2
      have z3 := Z.c3
      have z4 := Z.c4
      exact bodyPost_ret (v := .tuple #[valV 1 n 0 0 0 ⟨#[]⟩, .bool true]) (by simp [results, Tryz.results21, go_sem, z0, z1, z2, z3, z4, valV]) rfl ⟨HF.out, below_put5 HB.out (Nat.le_refl _) _ _ _ _ _⟩
set_option maxHeartbeats 8000000 in
theorem rread_num5 (s : ByteArray) (w : World) (N : Nat) (hs : s.size = N + 1) (hN : 1 ≤ N) (h34 : (s[0]'(by omega)) = 34) (h34n : (s[N]'(by omega)) ≠ 34) (hm : s.size ≤ 140737488355328) (n1 : (s.toList == [116, 114, 117, 101]) = false) (n2 : (s.toList == [102, 97, 108, 115, 101]) = false) :
    Calls Tryz.prog 21 #[.string s] w fun e w' => NumP s.data.toList e ∧ Below w.heap.size w w' := by
  have sf : ∀ (p : Addr) (b : Nat) (mo : Mode) (w' : World), (store p (.float .f64 b) mo).run Tryz.prog w' = stored Tryz.prog w' p (.float .f64 b) mo := fun p b mo w' => run_store _ w' p _ mo rfl
  have sc : ∀ (p : Addr) (b c : Nat) (mo : Mode) (w' : World), (store p (.complex .f64 b c) mo).run Tryz.prog w' = stored Tryz.prog w' p (.complex .f64 b c) mo := fun p b c mo w' => run_store _ w' p _ mo rfl
  obtain ⟨W0, hW0, hB0, hb0⟩ := boxed w
  have HW0 := Lib.hid hW0
  have HB := Lib.hid hB0
  have HX := Lib.hid hb0
  have hz : w.heap.size < W0.heap.size := hb0.lt
  clear hW0 hB0 hb0
  have h0 : (s[0]'(by omega)) ≠ 45 := by rw [h34]; decide
  have q34 : (((s[0]'(by omega)).toNat : Int) == 34) = true := by rw [h34]; rfl
  have q40 : (((s[0]'(by omega)).toNat : Int) == 40) = false := by rw [h34]; rfl
  have q34n : (((s[N]'(by omega)).toNat : Int) == 34) = false := beq_eq_false_iff_ne.2 (fun h => h34n (UInt8.toNat_inj.1 (by show (s[N]'(by omega)).toNat = 34; omega)))
  have hb0 : bAt s.data.toList 0 = s[0]'(by omega) := bAt_get (by omega)
  have HM : Hid (bAt s.data.toList 0 ≠ 45) := Lib.hid (by rw [hb0]; exact h0)
  have q45 : (((s[0]'(by omega)).toNat : Int) == 45) = false := beq_eq_false_iff_ne.2 (fun h => h0 (UInt8.toNat_inj.1 (by show (s[0]'(by omega)).toNat = 45; omega)))
  have q0 : decide ((0 : Int) < (N : Int) + 1) = true := decide_eq_true (by omega)
  clear hb0 h0
  have d2 : decide ((2 : Int) ≤ (N : Int) + 1) = true := decide_eq_true (by omega)
  clear h34 h34n
  have hA := fun W => number_any s hm W
  obtain ⟨A, hAA⟩ : ∃ A, numQ s.data.toList = A := ⟨_, rfl⟩
  rw [hAA] at hA
  have HA := Lib.hid hA
  have HAA := Lib.hid hAA
  clear hA hAA
  have hclr : True := trivial
  rcases A with _ | n
  · have HMM := HM
    have hfin : ∀ e, e = Ending.returned (.tuple #[valV 2 0 ((wF s.data.toList).getD 0) 0 0 ⟨#[]⟩, .bool (wF s.data.toList).isSome]) → NumP s.data.toList e := fun e h => .inr (.inr ⟨.inl ⟨HMM.out, fun n h => absurd (HAA.out.symm.trans h) (fun h => by cases h)⟩, h⟩)
    have hwe := fun W => weighed_any s hm W
    generalize wF s.data.toList = B at hwe hfin
    have HWE := Lib.hid hwe
    have HF := Lib.hid hfin
    clear hwe hfin
    rcases B with _ | b
    · clear hclr
      have f0 := HX.out.fz 0
      have f1 := HX.out.fz 1
      have f2 := HX.out.fz 2
      have f3 := HX.out.fz 3
      have f4 := HX.out.fz 4
      have c0 := HX.out.c0
      have c1 := HX.out.c1
      have c2 := HX.out.c2
      have c3 := HX.out.c3
      have c4 := HX.out.c4
      have hlt := HX.out.lt
      go_enter Tryz.func21, Tryz.ntmps21
      go_upto_region 1 with (fail)
      rw [← HW0.out]
      go_upto_region 17 with (fail)
      go_wp2_with (first | (go_at_call 45; refine (HA.out _).mono ?_; rintro e w' ⟨rfl, rfl⟩; simp only [numV, Option.getD_some, Option.isSome_some]) | (go_at_call 44; refine (HWE.out _).mono ?_; rintro e w' ⟨rfl, rfl⟩; simp only [wV, Option.getD_none, Option.isSome_none]))
      have Z := HX.out.put (.int .i64 2) (.int .i64 0) (.float .f64 0) (.complex .f64 0 0) (.string ⟨#[]⟩)
      unfold put5 at Z
      have z0 := Z.c0
      have z1 := Z.c1
      have z2 := Z.c2
      have z3 := Z.c3
      have z4 := Z.c4
      exact bodyPost_ret (v := .tuple #[valV 2 0 0 0 0 ⟨#[]⟩, .bool false]) (by simp [results, Tryz.results21, go_sem, z0, z1, z2, z3, z4, valV]) rfl ⟨HF.out _ rfl, below_put5 HB.out (Nat.le_refl _) _ _ _ _ _⟩
    · clear hclr
      have f0 := HX.out.fz 0
      have f1 := HX.out.fz 1
      have f2 := HX.out.fz 2
      have f3 := HX.out.fz 3
      have f4 := HX.out.fz 4
      have c0 := HX.out.c0
      have c1 := HX.out.c1
      have c2 := HX.out.c2
      have c3 := HX.out.c3
      have c4 := HX.out.c4
      have hlt := HX.out.lt
      go_enter Tryz.func21, Tryz.ntmps21
      go_upto_region 1 with (fail)
      rw [← HW0.out]
      go_upto_region 17 with (fail)
      go_wp2_with (first | (go_at_call 45; refine (HA.out _).mono ?_; rintro e w' ⟨rfl, rfl⟩; simp only [numV, Option.getD_some, Option.isSome_some]) | (go_at_call 44; refine (HWE.out _).mono ?_; rintro e w' ⟨rfl, rfl⟩; simp only [wV, Option.getD_none, Option.isSome_none]))
      have Z := HX.out.put (.int .i64 2) (.int .i64 0) (.float .f64 b) (.complex .f64 0 0) (.string ⟨#[]⟩)
      unfold put5 at Z
      have z0 := Z.c0
      have z1 := Z.c1
      have z2 := Z.c2
      have z3 := Z.c3
      have z4 := Z.c4
      exact bodyPost_ret (v := .tuple #[valV 2 0 b 0 0 ⟨#[]⟩, .bool true]) (by simp [results, Tryz.results21, go_sem, z0, z1, z2, z3, z4, valV]) rfl ⟨HF.out _ rfl, below_put5 HB.out (Nat.le_refl _) _ _ _ _ _⟩
  · have hn64 := numQ_lt HAA.out
    by_cases hbig : 9223372036854775808 ≤ n
    · have HMM := HM
      have HBG := Lib.hid hbig
      have g1 : decide ((n : Int) < 9223372036854775808) = false := decide_eq_false (by omega)
      have g2 : True := trivial
      have G1 : Nat → decide ((n : Int) < 9223372036854775808) = _ := fun _ => g1
      have G2 := Lib.hid g2
      clear hbig hn64 g1 g2
      have hfin : ∀ e, e = Ending.returned (.tuple #[valV 2 0 ((wF s.data.toList).getD 0) 0 0 ⟨#[]⟩, .bool (wF s.data.toList).isSome]) → NumP s.data.toList e := fun e h => .inr (.inr ⟨.inl ⟨HMM.out, fun m h => by have := Option.some.inj (HAA.out.symm.trans h); have := HBG.out; omega⟩, h⟩)
      have hwe := fun W => weighed_any s hm W
      generalize wF s.data.toList = B at hwe hfin
      have HWE := Lib.hid hwe
      have HF := Lib.hid hfin
      clear hwe hfin
      rcases B with _ | b
      · clear hclr
        have f0 := HX.out.fz 0
        have f1 := HX.out.fz 1
        have f2 := HX.out.fz 2
        have f3 := HX.out.fz 3
        have f4 := HX.out.fz 4
        have c0 := HX.out.c0
        have c1 := HX.out.c1
        have c2 := HX.out.c2
        have c3 := HX.out.c3
        have c4 := HX.out.c4
        have hlt := HX.out.lt
        go_enter Tryz.func21, Tryz.ntmps21
        go_upto_region 1 with (fail)
        rw [← HW0.out]
        go_upto_region 17 with (fail)
        have g1 := G1 0
        have g2 := G2.out
        go_wp2_with (first | (go_at_call 45; refine (HA.out _).mono ?_; rintro e w' ⟨rfl, rfl⟩; simp only [numV, Option.getD_some, Option.isSome_some]) | (go_at_call 44; refine (HWE.out _).mono ?_; rintro e w' ⟨rfl, rfl⟩; simp only [wV, Option.getD_none, Option.isSome_none]))
        have Z := HX.out.put (.int .i64 2) (.int .i64 0) (.float .f64 0) (.complex .f64 0 0) (.string ⟨#[]⟩)
        unfold put5 at Z
        have z0 := Z.c0
        have z1 := Z.c1
        have z2 := Z.c2
        have z3 := Z.c3
        have z4 := Z.c4
        exact bodyPost_ret (v := .tuple #[valV 2 0 0 0 0 ⟨#[]⟩, .bool false]) (by simp [results, Tryz.results21, go_sem, z0, z1, z2, z3, z4, valV]) rfl ⟨HF.out _ rfl, below_put5 HB.out (Nat.le_refl _) _ _ _ _ _⟩
      · clear hclr
        have f0 := HX.out.fz 0
        have f1 := HX.out.fz 1
        have f2 := HX.out.fz 2
        have f3 := HX.out.fz 3
        have f4 := HX.out.fz 4
        have c0 := HX.out.c0
        have c1 := HX.out.c1
        have c2 := HX.out.c2
        have c3 := HX.out.c3
        have c4 := HX.out.c4
        have hlt := HX.out.lt
        go_enter Tryz.func21, Tryz.ntmps21
        go_upto_region 1 with (fail)
        rw [← HW0.out]
        go_upto_region 17 with (fail)
        have g1 := G1 0
        have g2 := G2.out
        go_wp2_with (first | (go_at_call 45; refine (HA.out _).mono ?_; rintro e w' ⟨rfl, rfl⟩; simp only [numV, Option.getD_some, Option.isSome_some]) | (go_at_call 44; refine (HWE.out _).mono ?_; rintro e w' ⟨rfl, rfl⟩; simp only [wV, Option.getD_none, Option.isSome_none]))
        have Z := HX.out.put (.int .i64 2) (.int .i64 0) (.float .f64 b) (.complex .f64 0 0) (.string ⟨#[]⟩)
        unfold put5 at Z
        have z0 := Z.c0
        have z1 := Z.c1
        have z2 := Z.c2
        have z3 := Z.c3
        have z4 := Z.c4
        exact bodyPost_ret (v := .tuple #[valV 2 0 b 0 0 ⟨#[]⟩, .bool true]) (by simp [results, Tryz.results21, go_sem, z0, z1, z2, z3, z4, valV]) rfl ⟨HF.out _ rfl, below_put5 HB.out (Nat.le_refl _) _ _ _ _ _⟩
    · have g1 : decide ((n : Int) < 9223372036854775808) = true := decide_eq_true (by omega)
      have e1 : IntKind.i64.wrap (n : Int) = n := by rw [IntKind.wrap_i64]; omega
      have HF : Hid (NumP s.data.toList (Ending.returned (.tuple #[valV 1 n 0 0 0 ⟨#[]⟩, .bool true]))) := Lib.hid (.inl ⟨n, HAA.out, HM.out, by omega, rfl⟩)
      have G1 : Nat → decide ((n : Int) < 9223372036854775808) = _ := fun _ => g1
      clear hbig hclr hn64 g1
      have f0 := HX.out.fz 0
      have f1 := HX.out.fz 1
      have f2 := HX.out.fz 2
      have f3 := HX.out.fz 3
      have f4 := HX.out.fz 4
      have c0 := HX.out.c0
      have c1 := HX.out.c1
      have c2 := HX.out.c2
      have c3 := HX.out.c3
      have c4 := HX.out.c4
      have hlt := HX.out.lt
      go_enter Tryz.func21, Tryz.ntmps21
      go_upto_region 1 with (fail)
      rw [← HW0.out]
      go_upto_region 17 with (fail)
      have g1 := G1 0
      go_wp2_with (first | (go_at_call 45; refine (HA.out _).mono ?_; rintro e w' ⟨rfl, rfl⟩; simp only [numV, Option.getD_some, Option.isSome_some]) )
      have Z := HX.out.put (.int .i64 1) (.int .i64 n) (.float .f64 0) (.complex .f64 0 0) (.string ⟨#[]⟩)
      unfold put5 at Z
      have z0 := Z.c0
      have z1 := Z.c1
      have z2 := Z.c2
      have z3 := Z.c3
      have z4 := Z.c4
      exact bodyPost_ret (v := .tuple #[valV 1 n 0 0 0 ⟨#[]⟩, .bool true]) (by simp [results, Tryz.results21, go_sem, z0, z1, z2, z3, z4, valV]) rfl ⟨HF.out, below_put5 HB.out (Nat.le_refl _) _ _ _ _ _⟩
set_option maxHeartbeats 8000000 in
theorem rread_num6 (s : ByteArray) (w : World) (N : Nat) (hs : s.size = N + 1) (hN : 1 ≤ N) (h40 : (s[0]'(by omega)) = 40) (h41n : (s[N]'(by omega)) ≠ 41) (hm : s.size ≤ 140737488355328) (n1 : (s.toList == [116, 114, 117, 101]) = false) (n2 : (s.toList == [102, 97, 108, 115, 101]) = false) :
    Calls Tryz.prog 21 #[.string s] w fun e w' => NumP s.data.toList e ∧ Below w.heap.size w w' := by
  have sf : ∀ (p : Addr) (b : Nat) (mo : Mode) (w' : World), (store p (.float .f64 b) mo).run Tryz.prog w' = stored Tryz.prog w' p (.float .f64 b) mo := fun p b mo w' => run_store _ w' p _ mo rfl
  have sc : ∀ (p : Addr) (b c : Nat) (mo : Mode) (w' : World), (store p (.complex .f64 b c) mo).run Tryz.prog w' = stored Tryz.prog w' p (.complex .f64 b c) mo := fun p b c mo w' => run_store _ w' p _ mo rfl
  obtain ⟨W0, hW0, hB0, hb0⟩ := boxed w
  have HW0 := Lib.hid hW0
  have HB := Lib.hid hB0
  have HX := Lib.hid hb0
  have hz : w.heap.size < W0.heap.size := hb0.lt
  clear hW0 hB0 hb0
  have h0 : (s[0]'(by omega)) ≠ 45 := by rw [h40]; decide
  have q40 : (((s[0]'(by omega)).toNat : Int) == 40) = true := by rw [h40]; rfl
  have q34 : (((s[0]'(by omega)).toNat : Int) == 34) = false := by rw [h40]; rfl
  have q41n : (((s[N]'(by omega)).toNat : Int) == 41) = false := beq_eq_false_iff_ne.2 (fun h => h41n (UInt8.toNat_inj.1 (by show (s[N]'(by omega)).toNat = 41; omega)))
  have hb0 : bAt s.data.toList 0 = s[0]'(by omega) := bAt_get (by omega)
  have HM : Hid (bAt s.data.toList 0 ≠ 45) := Lib.hid (by rw [hb0]; exact h0)
  have q45 : (((s[0]'(by omega)).toNat : Int) == 45) = false := beq_eq_false_iff_ne.2 (fun h => h0 (UInt8.toNat_inj.1 (by show (s[0]'(by omega)).toNat = 45; omega)))
  have q0 : decide ((0 : Int) < (N : Int) + 1) = true := decide_eq_true (by omega)
  clear hb0 h0
  have d2 : decide ((2 : Int) ≤ (N : Int) + 1) = true := decide_eq_true (by omega)
  clear h40 h41n
  have hA := fun W => number_any s hm W
  obtain ⟨A, hAA⟩ : ∃ A, numQ s.data.toList = A := ⟨_, rfl⟩
  rw [hAA] at hA
  have HA := Lib.hid hA
  have HAA := Lib.hid hAA
  clear hA hAA
  have hclr : True := trivial
  rcases A with _ | n
  · have HMM := HM
    have hfin : ∀ e, e = Ending.returned (.tuple #[valV 2 0 ((wF s.data.toList).getD 0) 0 0 ⟨#[]⟩, .bool (wF s.data.toList).isSome]) → NumP s.data.toList e := fun e h => .inr (.inr ⟨.inl ⟨HMM.out, fun n h => absurd (HAA.out.symm.trans h) (fun h => by cases h)⟩, h⟩)
    have hwe := fun W => weighed_any s hm W
    generalize wF s.data.toList = B at hwe hfin
    have HWE := Lib.hid hwe
    have HF := Lib.hid hfin
    clear hwe hfin
    rcases B with _ | b
    · clear hclr
      have f0 := HX.out.fz 0
      have f1 := HX.out.fz 1
      have f2 := HX.out.fz 2
      have f3 := HX.out.fz 3
      have f4 := HX.out.fz 4
      have c0 := HX.out.c0
      have c1 := HX.out.c1
      have c2 := HX.out.c2
      have c3 := HX.out.c3
      have c4 := HX.out.c4
      have hlt := HX.out.lt
      go_enter Tryz.func21, Tryz.ntmps21
      go_upto_region 1 with (fail)
      rw [← HW0.out]
      go_upto_region 17 with (fail)
      go_wp2_with (first | (go_at_call 45; refine (HA.out _).mono ?_; rintro e w' ⟨rfl, rfl⟩; simp only [numV, Option.getD_some, Option.isSome_some]) | (go_at_call 44; refine (HWE.out _).mono ?_; rintro e w' ⟨rfl, rfl⟩; simp only [wV, Option.getD_none, Option.isSome_none]))
      have Z := HX.out.put (.int .i64 2) (.int .i64 0) (.float .f64 0) (.complex .f64 0 0) (.string ⟨#[]⟩)
      unfold put5 at Z
      have z0 := Z.c0
      have z1 := Z.c1
      have z2 := Z.c2
      have z3 := Z.c3
      have z4 := Z.c4
      exact bodyPost_ret (v := .tuple #[valV 2 0 0 0 0 ⟨#[]⟩, .bool false]) (by simp [results, Tryz.results21, go_sem, z0, z1, z2, z3, z4, valV]) rfl ⟨HF.out _ rfl, below_put5 HB.out (Nat.le_refl _) _ _ _ _ _⟩
    · clear hclr
      have f0 := HX.out.fz 0
      have f1 := HX.out.fz 1
      have f2 := HX.out.fz 2
      have f3 := HX.out.fz 3
      have f4 := HX.out.fz 4
      have c0 := HX.out.c0
      have c1 := HX.out.c1
      have c2 := HX.out.c2
      have c3 := HX.out.c3
      have c4 := HX.out.c4
      have hlt := HX.out.lt
      go_enter Tryz.func21, Tryz.ntmps21
      go_upto_region 1 with (fail)
      rw [← HW0.out]
      go_upto_region 17 with (fail)
      go_wp2_with (first | (go_at_call 45; refine (HA.out _).mono ?_; rintro e w' ⟨rfl, rfl⟩; simp only [numV, Option.getD_some, Option.isSome_some]) | (go_at_call 44; refine (HWE.out _).mono ?_; rintro e w' ⟨rfl, rfl⟩; simp only [wV, Option.getD_none, Option.isSome_none]))
      have Z := HX.out.put (.int .i64 2) (.int .i64 0) (.float .f64 b) (.complex .f64 0 0) (.string ⟨#[]⟩)
      unfold put5 at Z
      have z0 := Z.c0
      have z1 := Z.c1
      have z2 := Z.c2
      have z3 := Z.c3
      have z4 := Z.c4
      exact bodyPost_ret (v := .tuple #[valV 2 0 b 0 0 ⟨#[]⟩, .bool true]) (by simp [results, Tryz.results21, go_sem, z0, z1, z2, z3, z4, valV]) rfl ⟨HF.out _ rfl, below_put5 HB.out (Nat.le_refl _) _ _ _ _ _⟩
  · have hn64 := numQ_lt HAA.out
    by_cases hbig : 9223372036854775808 ≤ n
    · have HMM := HM
      have HBG := Lib.hid hbig
      have g1 : decide ((n : Int) < 9223372036854775808) = false := decide_eq_false (by omega)
      have g2 : True := trivial
      have G1 : Nat → decide ((n : Int) < 9223372036854775808) = _ := fun _ => g1
      have G2 := Lib.hid g2
      clear hbig hn64 g1 g2
      have hfin : ∀ e, e = Ending.returned (.tuple #[valV 2 0 ((wF s.data.toList).getD 0) 0 0 ⟨#[]⟩, .bool (wF s.data.toList).isSome]) → NumP s.data.toList e := fun e h => .inr (.inr ⟨.inl ⟨HMM.out, fun m h => by have := Option.some.inj (HAA.out.symm.trans h); have := HBG.out; omega⟩, h⟩)
      have hwe := fun W => weighed_any s hm W
      generalize wF s.data.toList = B at hwe hfin
      have HWE := Lib.hid hwe
      have HF := Lib.hid hfin
      clear hwe hfin
      rcases B with _ | b
      · clear hclr
        have f0 := HX.out.fz 0
        have f1 := HX.out.fz 1
        have f2 := HX.out.fz 2
        have f3 := HX.out.fz 3
        have f4 := HX.out.fz 4
        have c0 := HX.out.c0
        have c1 := HX.out.c1
        have c2 := HX.out.c2
        have c3 := HX.out.c3
        have c4 := HX.out.c4
        have hlt := HX.out.lt
        go_enter Tryz.func21, Tryz.ntmps21
        go_upto_region 1 with (fail)
        rw [← HW0.out]
        go_upto_region 17 with (fail)
        have g1 := G1 0
        have g2 := G2.out
        go_wp2_with (first | (go_at_call 45; refine (HA.out _).mono ?_; rintro e w' ⟨rfl, rfl⟩; simp only [numV, Option.getD_some, Option.isSome_some]) | (go_at_call 44; refine (HWE.out _).mono ?_; rintro e w' ⟨rfl, rfl⟩; simp only [wV, Option.getD_none, Option.isSome_none]))
        have Z := HX.out.put (.int .i64 2) (.int .i64 0) (.float .f64 0) (.complex .f64 0 0) (.string ⟨#[]⟩)
        unfold put5 at Z
        have z0 := Z.c0
        have z1 := Z.c1
        have z2 := Z.c2
        have z3 := Z.c3
        have z4 := Z.c4
        exact bodyPost_ret (v := .tuple #[valV 2 0 0 0 0 ⟨#[]⟩, .bool false]) (by simp [results, Tryz.results21, go_sem, z0, z1, z2, z3, z4, valV]) rfl ⟨HF.out _ rfl, below_put5 HB.out (Nat.le_refl _) _ _ _ _ _⟩
      · clear hclr
        have f0 := HX.out.fz 0
        have f1 := HX.out.fz 1
        have f2 := HX.out.fz 2
        have f3 := HX.out.fz 3
        have f4 := HX.out.fz 4
        have c0 := HX.out.c0
        have c1 := HX.out.c1
        have c2 := HX.out.c2
        have c3 := HX.out.c3
        have c4 := HX.out.c4
        have hlt := HX.out.lt
        go_enter Tryz.func21, Tryz.ntmps21
        go_upto_region 1 with (fail)
        rw [← HW0.out]
        go_upto_region 17 with (fail)
        have g1 := G1 0
        have g2 := G2.out
        go_wp2_with (first | (go_at_call 45; refine (HA.out _).mono ?_; rintro e w' ⟨rfl, rfl⟩; simp only [numV, Option.getD_some, Option.isSome_some]) | (go_at_call 44; refine (HWE.out _).mono ?_; rintro e w' ⟨rfl, rfl⟩; simp only [wV, Option.getD_none, Option.isSome_none]))
        have Z := HX.out.put (.int .i64 2) (.int .i64 0) (.float .f64 b) (.complex .f64 0 0) (.string ⟨#[]⟩)
        unfold put5 at Z
        have z0 := Z.c0
        have z1 := Z.c1
        have z2 := Z.c2
        have z3 := Z.c3
        have z4 := Z.c4
        exact bodyPost_ret (v := .tuple #[valV 2 0 b 0 0 ⟨#[]⟩, .bool true]) (by simp [results, Tryz.results21, go_sem, z0, z1, z2, z3, z4, valV]) rfl ⟨HF.out _ rfl, below_put5 HB.out (Nat.le_refl _) _ _ _ _ _⟩
    · have g1 : decide ((n : Int) < 9223372036854775808) = true := decide_eq_true (by omega)
      have e1 : IntKind.i64.wrap (n : Int) = n := by rw [IntKind.wrap_i64]; omega
      have HF : Hid (NumP s.data.toList (Ending.returned (.tuple #[valV 1 n 0 0 0 ⟨#[]⟩, .bool true]))) := Lib.hid (.inl ⟨n, HAA.out, HM.out, by omega, rfl⟩)
      have G1 : Nat → decide ((n : Int) < 9223372036854775808) = _ := fun _ => g1
      clear hbig hclr hn64 g1
      have f0 := HX.out.fz 0
      have f1 := HX.out.fz 1
      have f2 := HX.out.fz 2
      have f3 := HX.out.fz 3
      have f4 := HX.out.fz 4
      have c0 := HX.out.c0
      have c1 := HX.out.c1
      have c2 := HX.out.c2
      have c3 := HX.out.c3
      have c4 := HX.out.c4
      have hlt := HX.out.lt
      go_enter Tryz.func21, Tryz.ntmps21
      go_upto_region 1 with (fail)
      rw [← HW0.out]
      go_upto_region 17 with (fail)
      have g1 := G1 0
      go_wp2_with (first | (go_at_call 45; refine (HA.out _).mono ?_; rintro e w' ⟨rfl, rfl⟩; simp only [numV, Option.getD_some, Option.isSome_some]) )
      have Z := HX.out.put (.int .i64 1) (.int .i64 n) (.float .f64 0) (.complex .f64 0 0) (.string ⟨#[]⟩)
      unfold put5 at Z
      have z0 := Z.c0
      have z1 := Z.c1
      have z2 := Z.c2
      have z3 := Z.c3
      have z4 := Z.c4
      exact bodyPost_ret (v := .tuple #[valV 1 n 0 0 0 ⟨#[]⟩, .bool true]) (by simp [results, Tryz.results21, go_sem, z0, z1, z2, z3, z4, valV]) rfl ⟨HF.out, below_put5 HB.out (Nat.le_refl _) _ _ _ _ _⟩
end Go.Proofs.YtofjbakepneilaaGreatDoor
