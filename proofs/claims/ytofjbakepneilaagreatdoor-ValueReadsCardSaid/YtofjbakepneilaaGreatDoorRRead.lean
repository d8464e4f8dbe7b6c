/- The reference's read, branch by branch. -/
import Derived.Test.YtofjbakepneilaaGreatDoorMRReal0
import Derived.Test.YtofjbakepneilaaGreatDoorRWeigh
import Derived.Test.YtofjbakepneilaaGreatDoorMVRead2
namespace Go.Proofs.YtofjbakepneilaaGreatDoor
open Go.RowKit Go.Shelf
set_option maxRecDepth 100000

theorem boxed (w : World) : ∃ W0, W0 = w.alloc (.cells #[.int .i64 0, .int .i64 0, .float .f64 0, .complex .f64 0 0, .string ⟨#[]⟩] 25) ∧ Below w.heap.size w W0 ∧ Box5 W0 w.heap.size (.int .i64 0) (.int .i64 0) (.float .f64 0) (.complex .f64 0 0) (.string ⟨#[]⟩) := by
  refine ⟨_, rfl, (Below.refl w.heap.size w).alloc (Nat.le_refl _) _, ?_⟩
  exact heap_alloc_new _ _
def ixC (c : UInt8) (l : List UInt8) (k : Nat) : Int := if Lib.indexByte (l.drop k) c < 0 then -1 else (k : Int) + Lib.indexByte (l.drop k) c
theorem ixC_end (c : UInt8) (l : List UInt8) (k : Nat) (h : l.length ≤ k) : ixC c l k = -1 := by
  unfold ixC
  rw [List.drop_of_length_le h]
  rfl
theorem ixC_hit {c : UInt8} {l r : List UInt8} {k : Nat} (h : l.drop k = c :: r) : ixC c l k = k := by
  unfold ixC
  rw [h]
  have e : Lib.indexByte (c :: r) c = 0 := by
    unfold Lib.indexByte
    simp
  rw [e, if_neg (by omega)]
  omega
theorem ixC_step {d : UInt8} {l r : List UInt8} {c : UInt8} {k : Nat} (h : l.drop k = c :: r) (hc : c ≠ d) : ixC d l k = ixC d l (k + 1) := by
  have hr : l.drop (k + 1) = r := by rw [← List.drop_drop, h]; rfl
  unfold ixC
  rw [h, hr]
  have hb : (c == d) = false := beq_eq_false_iff_ne.2 hc
  have e : Lib.indexByte (c :: r) d = if Lib.indexByte r d == -1 then -1 else Lib.indexByte r d + 1 := by
    conv => lhs; unfold Lib.indexByte
    rw [hb]
    rfl
  have := ix_ge r d
  rw [e]
  by_cases h1 : Lib.indexByte r d = -1
  · rw [h1]; rfl
  · simp only [show (Lib.indexByte r d == -1) = false from beq_eq_false_iff_ne.2 h1, Bool.false_eq_true, if_false]
    rw [if_neg (by omega), if_neg (by omega)]
    omega
set_option maxHeartbeats 2000000 in
theorem rread_true (w : World) : Calls Tryz.prog 21 #[.string ⟨#[116, 114, 117, 101]⟩] w fun e w' => e = .returned (.tuple #[valV 5 1 0 0 0 ⟨#[]⟩, .bool true]) ∧ Below w.heap.size w w' := by
  have sf : ∀ (p : Addr) (b : Nat) (mo : Mode) (w' : World), (store p (.float .f64 b) mo).run Tryz.prog w' = stored Tryz.prog w' p (.float .f64 b) mo := fun p b mo w' => run_store _ w' p _ mo rfl
  have sc : ∀ (p : Addr) (b c : Nat) (mo : Mode) (w' : World), (store p (.complex .f64 b c) mo).run Tryz.prog w' = stored Tryz.prog w' p (.complex .f64 b c) mo := fun p b c mo w' => run_store _ w' p _ mo rfl
  obtain ⟨W0, hW0, hB0, hb0⟩ := boxed w
  have HW0 := Lib.hid hW0
  have HB := Lib.hid hB0
  have HX := Lib.hid hb0
  have hz : w.heap.size < W0.heap.size := hb0.lt
  clear hW0 hB0 hb0
  have t0 : (⟨#[116, 114, 117, 101]⟩ : ByteArray).toList = [116, 114, 117, 101] := tl_mk [116, 114, 117, 101]
  have t1 : (⟨#[102, 97, 108, 115, 101]⟩ : ByteArray).toList = [102, 97, 108, 115, 101] := tl_mk [102, 97, 108, 115, 101]
  have f0 := HX.out.fz 0
  have f1 := HX.out.fz 1
  have f2 := HX.out.fz 2
  have f3 := HX.out.fz 3
  have f4 := HX.out.fz 4
  have c0 := HX.out.c0
  have c1 := HX.out.c1
  have c2 := HX.out.c2
  have c3 := HX.out.c3
  have c4 := HX.out.c4
  have hlt := HX.out.lt
  go_enter Tryz.func21, Tryz.ntmps21
  go_upto_region 1 with (fail)
  rw [← HW0.out]
  go_wp2_with fail
  have Z := HX.out.put (.int .i64 5) (.int .i64 1) (.float .f64 0) (.complex .f64 0 0) (.string ⟨#[]⟩)
  unfold put5 at Z
  have z0 := Z.c0
  have z1 := Z.c1
  have z2 := Z.c2
  have z3 := Z.c3
  have z4 := Z.c4
  exact bodyPost_ret (v := .tuple #[valV 5 1 0 0 0 ⟨#[]⟩, .bool true]) (by simp [results, Tryz.results21, go_sem, z0, z1, z2, z3, z4, valV]) rfl ⟨rfl, below_put5 HB.out (Nat.le_refl _) _ _ _ _ _⟩
set_option maxHeartbeats 2000000 in
theorem rread_false (w : World) : Calls Tryz.prog 21 #[.string ⟨#[102, 97, 108, 115, 101]⟩] w fun e w' => e = .returned (.tuple #[valV 5 0 0 0 0 ⟨#[]⟩, .bool true]) ∧ Below w.heap.size w w' := by
  have sf : ∀ (p : Addr) (b : Nat) (mo : Mode) (w' : World), (store p (.float .f64 b) mo).run Tryz.prog w' = stored Tryz.prog w' p (.float .f64 b) mo := fun p b mo w' => run_store _ w' p _ mo rfl
  have sc : ∀ (p : Addr) (b c : Nat) (mo : Mode) (w' : World), (store p (.complex .f64 b c) mo).run Tryz.prog w' = stored Tryz.prog w' p (.complex .f64 b c) mo := fun p b c mo w' => run_store _ w' p _ mo rfl
  obtain ⟨W0, hW0, hB0, hb0⟩ := boxed w
  have HW0 := Lib.hid hW0
  have HB := Lib.hid hB0
  have HX := Lib.hid hb0
  have hz : w.heap.size < W0.heap.size := hb0.lt
  clear hW0 hB0 hb0
  have t0 : (⟨#[116, 114, 117, 101]⟩ : ByteArray).toList = [116, 114, 117, 101] := tl_mk [116, 114, 117, 101]
  have t1 : (⟨#[102, 97, 108, 115, 101]⟩ : ByteArray).toList = [102, 97, 108, 115, 101] := tl_mk [102, 97, 108, 115, 101]
  have f0 := HX.out.fz 0
  have f1 := HX.out.fz 1
  have f2 := HX.out.fz 2
  have f3 := HX.out.fz 3
  have f4 := HX.out.fz 4
  have c0 := HX.out.c0
  have c1 := HX.out.c1
  have c2 := HX.out.c2
  have c3 := HX.out.c3
  have c4 := HX.out.c4
  have hlt := HX.out.lt
  go_enter Tryz.func21, Tryz.ntmps21
  go_upto_region 1 with (fail)
  rw [← HW0.out]
  go_wp2_with fail
  have Z := HX.out.put (.int .i64 5) (.int .i64 0) (.float .f64 0) (.complex .f64 0 0) (.string ⟨#[]⟩)
  unfold put5 at Z
  have z0 := Z.c0
  have z1 := Z.c1
  have z2 := Z.c2
  have z3 := Z.c3
  have z4 := Z.c4
  exact bodyPost_ret (v := .tuple #[valV 5 0 0 0 0 ⟨#[]⟩, .bool true]) (by simp [results, Tryz.results21, go_sem, z0, z1, z2, z3, z4, valV]) rfl ⟨rfl, below_put5 HB.out (Nat.le_refl _) _ _ _ _ _⟩
set_option maxHeartbeats 4000000 in
theorem rread_text (s : ByteArray) (w : World) (N : Nat) (hs : s.size = N + 1) (hN : 1 ≤ N) (hm : s.size ≤ 140737488355328) (n1 : (s.toList == [116, 114, 117, 101]) = false) (n2 : (s.toList == [102, 97, 108, 115, 101]) = false) (h0 : (s[0]'(by omega)) = 34) (h1 : (s[N]'(by omega)) = 34) :
    Calls Tryz.prog 21 #[.string s] w fun e w' => e = .returned (match uqF N ((s.data.toList.take N).drop 1) [] with | none => .tuple #[valV 4 0 0 0 0 ⟨#[]⟩, .bool false] | some out => .tuple #[valV 4 0 0 0 0 ⟨out.toArray⟩, .bool (decide (out.length ≤ 256))]) ∧ Below w.heap.size w w' := by
  have sf : ∀ (p : Addr) (b : Nat) (mo : Mode) (w' : World), (store p (.float .f64 b) mo).run Tryz.prog w' = stored Tryz.prog w' p (.float .f64 b) mo := fun p b mo w' => run_store _ w' p _ mo rfl
  have sc : ∀ (p : Addr) (b c : Nat) (mo : Mode) (w' : World), (store p (.complex .f64 b c) mo).run Tryz.prog w' = stored Tryz.prog w' p (.complex .f64 b c) mo := fun p b c mo w' => run_store _ w' p _ mo rfl
  obtain ⟨W0, hW0, hB0, hb0⟩ := boxed w
  have HW0 := Lib.hid hW0
  have HB := Lib.hid hB0
  have HX := Lib.hid hb0
  have hz : w.heap.size < W0.heap.size := hb0.lt
  clear hW0 hB0 hb0
  have hu := unquoted_any s W0 N hs hN hm
  generalize uqF N ((s.data.toList.take N).drop 1) [] = U at hu ⊢
  have HU := Lib.hid hu
  clear hu
  have a0 : ((s[0]'(by omega)).toNat == 34) = true := by rw [h0]; rfl
  have q0 : (((s[0]'(by omega)).toNat : Int) == 34) = true := by rw [h0]; rfl
  have q1 : (((s[N]'(by omega)).toNat : Int) == 34) = true := by rw [h1]; rfl
  have d2 : decide ((2 : Int) ≤ (N : Int) + 1) = true := decide_eq_true (by omega)
  clear a0 h0 h1
  cases U with
  | none =>
    have HB0 := HB
    have HX0 := HX
    clear HB HX
    go_enter Tryz.func21, Tryz.ntmps21
    go_upto_region 1 with (fail)
    rw [← HW0.out]
    go_wp2_with (go_at_call 43; refine HU.out.mono ?_; rintro e w1 ⟨rfl, hb1⟩; simp only [uqV]; have HB := Lib.hid (HB0.out.trans (hb1.mono HB0.out.size)); have HX := Lib.hid (HX0.out.keep hb1 hz); have f0 := HX.out.fz 0; have f1 := HX.out.fz 1; have f2 := HX.out.fz 2; have f3 := HX.out.fz 3; have f4 := HX.out.fz 4; have c0 := HX.out.c0; have c1 := HX.out.c1; have c2 := HX.out.c2; have c3 := HX.out.c3; have c4 := HX.out.c4; have hlt := HX.out.lt; clear hb1)
    have Z := HX.out.put (.int .i64 4) (.int .i64 0) (.float .f64 0) (.complex .f64 0 0) (.string ⟨#[]⟩)
    unfold put5 at Z
    have z0 := Z.c0
    have z1 := Z.c1
    have z2 := Z.c2
    have z3 := Z.c3
    have z4 := Z.c4
    exact bodyPost_ret (v := .tuple #[valV 4 0 0 0 0 ⟨#[]⟩, .bool false]) (by simp [results, Tryz.results21, go_sem, z0, z1, z2, z3, z4, valV]) rfl ⟨rfl, below_put5 HB.out (Nat.le_refl _) _ _ _ _ _⟩
  | some out =>
    have HB0 := HB
    have HX0 := HX
    obtain ⟨b, hb⟩ : ∃ b, decide (out.length ≤ 256) = b := ⟨_, rfl⟩
    have hv := uqV_some hb
    rw [hv] at HU
    simp only
    rw [hb]
    clear HB HX hb hv
    go_enter Tryz.func21, Tryz.ntmps21
    go_upto_region 1 with (fail)
    rw [← HW0.out]
    go_wp2_with (go_at_call 43; refine HU.out.mono ?_; rintro e w1 ⟨rfl, hb1⟩; have HB := Lib.hid (HB0.out.trans (hb1.mono HB0.out.size)); have HX := Lib.hid (HX0.out.keep hb1 hz); have f0 := HX.out.fz 0; have f1 := HX.out.fz 1; have f2 := HX.out.fz 2; have f3 := HX.out.fz 3; have f4 := HX.out.fz 4; have c0 := HX.out.c0; have c1 := HX.out.c1; have c2 := HX.out.c2; have c3 := HX.out.c3; have c4 := HX.out.c4; have hlt := HX.out.lt; clear hb1)
    have Z := HX.out.put (.int .i64 4) (.int .i64 0) (.float .f64 0) (.complex .f64 0 0) (.string ⟨out.toArray⟩)
    unfold put5 at Z
    have z0 := Z.c0
    have z1 := Z.c1
    have z2 := Z.c2
    have z3 := Z.c3
    have z4 := Z.c4
    exact bodyPost_ret (v := .tuple #[valV 4 0 0 0 0 ⟨out.toArray⟩, .bool b]) (by simp [results, Tryz.results21, go_sem, z0, z1, z2, z3, z4, valV]) rfl ⟨rfl, below_put5 HB.out (Nat.le_refl _) _ _ _ _ _⟩
def CompP (L : List UInt8) (N : Nat) (e : Ending) : Prop := (ixC 44 L 1 = -1 ∧ e = .returned (.tuple #[valV 0 0 0 0 0 ⟨#[]⟩, .bool false])) ∨ ∃ k : Nat, ixC 44 L 1 = k ∧ e = .returned (.tuple #[valV 3 0 0 ((wF ((L.take k).drop 1)).getD 0) ((wF ((L.take N).drop (k + 1))).getD 0) ⟨#[]⟩, .bool ((wF ((L.take k).drop 1)).isSome && (wF ((L.take N).drop (k + 1))).isSome)])
set_option maxHeartbeats 8000000 in
theorem rread_comp (s : ByteArray) (w : World) (N : Nat) (hs : s.size = N + 1) (hN : 1 ≤ N) (hm : s.size ≤ 140737488355328) (n1 : (s.toList == [116, 114, 117, 101]) = false) (n2 : (s.toList == [102, 97, 108, 115, 101]) = false) (h0 : (s[0]'(by omega)) = 40) (h1 : (s[N]'(by omega)) = 41) :
    Calls Tryz.prog 21 #[.string s] w fun e w' => CompP s.data.toList N e ∧ Below w.heap.size w w' := by
  have sf : ∀ (p : Addr) (b : Nat) (mo : Mode) (w' : World), (store p (.float .f64 b) mo).run Tryz.prog w' = stored Tryz.prog w' p (.float .f64 b) mo := fun p b mo w' => run_store _ w' p _ mo rfl
  have sc : ∀ (p : Addr) (b c : Nat) (mo : Mode) (w' : World), (store p (.complex .f64 b c) mo).run Tryz.prog w' = stored Tryz.prog w' p (.complex .f64 b c) mo := fun p b c mo w' => run_store _ w' p _ mo rfl
  obtain ⟨W0, hW0, hB0, hb0⟩ := boxed w
  have HW0 := Lib.hid hW0
  have HB := Lib.hid hB0
  have HX := Lib.hid hb0
  have hz : w.heap.size < W0.heap.size := hb0.lt
  clear hW0 hB0 hb0
  have q0 : (((s[0]'(by omega)).toNat : Int) == 34) = false := by rw [h0]; rfl
  have q0' : (((s[0]'(by omega)).toNat : Int) == 40) = true := by rw [h0]; rfl
  have q1 : (((s[N]'(by omega)).toNat : Int) == 41) = true := by rw [h1]; rfl
  have hN41 : (s[N]'(by omega)).toNat = 41 := by rw [h1]; rfl
  have d2 : decide ((2 : Int) ≤ (N : Int) + 1) = true := decide_eq_true (by omega)
  have htz : s.data.toList.length = s.size := rfl
  have HN41 := Lib.hid hN41
  clear h0 h1 hN41
  obtain ⟨I, hI⟩ : ∃ I, I = ixC 44 s.data.toList 1 := ⟨_, rfl⟩
  have HI := Lib.hid hI
  clear hI
  have f0 := HX.out.fz 0
  have f1 := HX.out.fz 1
  have f2 := HX.out.fz 2
  have f3 := HX.out.fz 3
  have f4 := HX.out.fz 4
  have c0 := HX.out.c0
  have c1 := HX.out.c1
  have c2 := HX.out.c2
  have c3 := HX.out.c3
  have c4 := HX.out.c4
  have hlt := HX.out.lt
  go_enter Tryz.func21, Tryz.ntmps21
  go_upto_region 1 with (fail)
  rw [← HW0.out]
  go_wp2_with fail
  go_loop [6] (fun a => ∃ k : Nat, 1 ≤ k ∧ k ≤ s.size ∧ a = .int .i64 k ∧ Hid (ixC 44 s.data.toList k = I)) (fun a => s.size - (intOf a).toNat)
  case atStart => exact ⟨1, Nat.le_refl _, by omega, rfl, Lib.hid HI.out.symm⟩
  case round =>
    obtain ⟨k, hk1, hk, rfl, hx'⟩ := hrel
    rcases Nat.lt_or_ge k s.size with hlt2 | hge
    · have hd : s.data.toList.drop k = s[k]'hlt2 :: s.data.toList.drop (k + 1) := List.drop_eq_getElem_cons (by rw [htz]; exact hlt2)
      have hcl := (s[k]'hlt2).toNat_lt
      by_cases hp : (s[k]'hlt2).toNat = 44
      · have hp2 : s[k]'hlt2 = 44 := UInt8.toNat_inj.1 hp
        have hkN : k < N := by
          rcases Nat.lt_or_ge k N with h | h
          · exact h
          · exfalso
            have hkn : k = N := by omega
            have := HN41.out
            simp only [← hkn] at this
            omega
        rw [hp2] at hd
        have HK : Hid (I = k) := Lib.hid (by rw [← hx'.out]; exact ixC_hit hd)
        have e1 : (((s[k]'hlt2).toNat : Int) == 44) = true := beq_iff_eq.2 (by omega)
        have e2 : (((s[k]'hlt2).toNat : Int) != 44) = false := by rw [bne, e1]; rfl
        have e3 : ((k : Int) == (s.size : Int)) = false := beq_eq_false_iff_ne.2 (by omega)
        have e4 : ((k : Int) == (N : Int) + 1) = false := beq_eq_false_iff_ne.2 (by omega)
        have hA := fun W => weighed_any (s.extract 1 k) (by rw [ByteArray.size_extract]; omega) W
        have hBB := fun W => weighed_any (s.extract (k + 1) N) (by rw [ByteArray.size_extract]; omega) W
        rw [ex_list] at hA hBB
        have HKK := HK
        have hfin : ∀ e, e = Ending.returned (.tuple #[valV 3 0 0 ((wF ((s.data.toList.take k).drop 1)).getD 0) ((wF ((s.data.toList.take N).drop (k + 1))).getD 0) ⟨#[]⟩, .bool ((wF ((s.data.toList.take k).drop 1)).isSome && (wF ((s.data.toList.take N).drop (k + 1))).isSome)]) → CompP s.data.toList N e := fun e h => .inr ⟨k, HI.out.symm.trans HKK.out, h⟩
        generalize wF ((s.data.toList.take k).drop 1) = A at hA hfin
        generalize wF ((s.data.toList.take N).drop (k + 1)) = B at hBB hfin
        have HA := Lib.hid hA
        have HBB := Lib.hid hBB
        have HF := Lib.hid hfin
        clear hA hBB hd hp hp2 hx' hfin
        rcases A with _ | a <;> rcases B with _ | b
        · go_wp2_with (first | (go_at_call 44; with_reducible refine (HA.out _).mono ?_; rintro e w' ⟨rfl, rfl⟩; simp only [wV, Option.getD_some, Option.getD_none, Option.isSome_some, Option.isSome_none]) | (go_at_call 44; with_reducible refine (HBB.out _).mono ?_; rintro e w' ⟨rfl, rfl⟩; simp only [wV, Option.getD_some, Option.getD_none, Option.isSome_some, Option.isSome_none]))
          have Z := HX.out.put (.int .i64 3) (.int .i64 0) (.float .f64 0) (.complex .f64 0 0) (.string ⟨#[]⟩)
          unfold put5 at Z
          have z0 := Z.c0
          have z1 := Z.c1
          have z2 := Z.c2
          have z3 := Z.c3
          have z4 := Z.c4
          exact bodyPost_ret (v := .tuple #[valV 3 0 0 0 0 ⟨#[]⟩, .bool false]) (by simp [results, Tryz.results21, go_sem, z0, z1, z2, z3, z4, valV]) rfl ⟨HF.out _ rfl, below_put5 HB.out (Nat.le_refl _) _ _ _ _ _⟩
        · go_wp2_with (first | (go_at_call 44; with_reducible refine (HA.out _).mono ?_; rintro e w' ⟨rfl, rfl⟩; simp only [wV, Option.getD_some, Option.getD_none, Option.isSome_some, Option.isSome_none]) | (go_at_call 44; with_reducible refine (HBB.out _).mono ?_; rintro e w' ⟨rfl, rfl⟩; simp only [wV, Option.getD_some, Option.getD_none, Option.isSome_some, Option.isSome_none]))
          have Z := HX.out.put (.int .i64 3) (.int .i64 0) (.float .f64 0) (.complex .f64 0 b) (.string ⟨#[]⟩)
          unfold put5 at Z
          have z0 := Z.c0
          have z1 := Z.c1
          have z2 := Z.c2
          have z3 := Z.c3
          have z4 := Z.c4
          exact bodyPost_ret (v := .tuple #[valV 3 0 0 0 b ⟨#[]⟩, .bool false]) (by simp [results, Tryz.results21, go_sem, z0, z1, z2, z3, z4, valV]) rfl ⟨HF.out _ rfl, below_put5 HB.out (Nat.le_refl _) _ _ _ _ _⟩
        · go_wp2_with (first | (go_at_call 44; with_reducible refine (HA.out _).mono ?_; rintro e w' ⟨rfl, rfl⟩; simp only [wV, Option.getD_some, Option.getD_none, Option.isSome_some, Option.isSome_none]) | (go_at_call 44; with_reducible refine (HBB.out _).mono ?_; rintro e w' ⟨rfl, rfl⟩; simp only [wV, Option.getD_some, Option.getD_none, Option.isSome_some, Option.isSome_none]))
          have Z := HX.out.put (.int .i64 3) (.int .i64 0) (.float .f64 0) (.complex .f64 a 0) (.string ⟨#[]⟩)
          unfold put5 at Z
          have z0 := Z.c0
          have z1 := Z.c1
          have z2 := Z.c2
          have z3 := Z.c3
          have z4 := Z.c4
          exact bodyPost_ret (v := .tuple #[valV 3 0 0 a 0 ⟨#[]⟩, .bool false]) (by simp [results, Tryz.results21, go_sem, z0, z1, z2, z3, z4, valV]) rfl ⟨HF.out _ rfl, below_put5 HB.out (Nat.le_refl _) _ _ _ _ _⟩
        · go_wp2_with (first | (go_at_call 44; with_reducible refine (HA.out _).mono ?_; rintro e w' ⟨rfl, rfl⟩; simp only [wV, Option.getD_some, Option.getD_none, Option.isSome_some, Option.isSome_none]) | (go_at_call 44; with_reducible refine (HBB.out _).mono ?_; rintro e w' ⟨rfl, rfl⟩; simp only [wV, Option.getD_some, Option.getD_none, Option.isSome_some, Option.isSome_none]))
          have Z := HX.out.put (.int .i64 3) (.int .i64 0) (.float .f64 0) (.complex .f64 a b) (.string ⟨#[]⟩)
          unfold put5 at Z
          have z0 := Z.c0
          have z1 := Z.c1
          have z2 := Z.c2
          have z3 := Z.c3
          have z4 := Z.c4
          exact bodyPost_ret (v := .tuple #[valV 3 0 0 a b ⟨#[]⟩, .bool true]) (by simp [results, Tryz.results21, go_sem, z0, z1, z2, z3, z4, valV]) rfl ⟨HF.out _ rfl, below_put5 HB.out (Nat.le_refl _) _ _ _ _ _⟩
      · have hp2 : s[k]'hlt2 ≠ 44 := fun h => hp (by rw [h]; rfl)
        have HX2 : Hid (ixC 44 s.data.toList (k + 1) = I) := Lib.hid (by rw [← hx'.out]; exact (ixC_step hd hp2).symm)
        have e1 : (((s[k]'hlt2).toNat : Int) == 44) = false := beq_eq_false_iff_ne.2 (by omega)
        have e2 : (((s[k]'hlt2).toNat : Int) != 44) = true := by rw [bne, e1]; rfl
        clear hx' hd hp hp2
        go_wp2_with fail
        go_round
        case rel => exact ⟨k + 1, by omega, by omega, by go_num, HX2⟩
        case measure => simp [intOf]; omega
    · have hkk : k = N + 1 := by omega
      have HK : Hid (I = -1) := Lib.hid (by rw [← hx'.out]; exact ixC_end _ _ _ (by omega))
      subst hkk
      have e3 : (((N + 1 : Nat) : Int) == (s.size : Int)) = true := beq_iff_eq.2 (by omega)
      clear hx'
      go_wp2_with fail
      have Z := HX.out.put (.int .i64 0) (.int .i64 0) (.float .f64 0) (.complex .f64 0 0) (.string ⟨#[]⟩)
      unfold put5 at Z
      have z0 := Z.c0
      have z1 := Z.c1
      have z2 := Z.c2
      have z3 := Z.c3
      have z4 := Z.c4
      exact bodyPost_ret (v := .tuple #[valV 0 0 0 0 0 ⟨#[]⟩, .bool false]) (by simp [results, Tryz.results21, go_sem, z0, z1, z2, z3, z4, valV]) rfl ⟨.inl ⟨HI.out.symm.trans HK.out, rfl⟩, below_put5 HB.out (Nat.le_refl _) _ _ _ _ _⟩
end Go.Proofs.YtofjbakepneilaaGreatDoor
