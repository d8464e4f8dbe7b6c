/- Wire: bytes that are added: a value. -/
import Derived.Test.YtloofajopgbfmaaWjAdd2
namespace Go.Proofs.Ytloofajopgbfmaa
set_option linter.all false
open Go.RowKit
set_option maxRecDepth 100000
abbrev fVal9 (x : V9) : Value := .agg #[.int .i64 x.kd, .int .i64 x.iv, .float .f64 x.rl, .complex .f64 x.re x.im, .string ⟨x.tx.toArray⟩]
set_option maxHeartbeats 8000000 in
theorem addValue_any (x : V9) (hp : Plain9 x) (B : Nat) (v : Value) (n : Nat) (xs : List UInt8) (w : World) (hown : w.ownsRow B 5 1 v n (u8s xs)) (hn : n ≤ 90000) (hB : B ≤ w.heap.size) :
    Calls Try.prog 41 #[v, fVal9 x] w (AdP B w (n + (formV x).length) (xs ++ formV x)) := by
  have hkd := hp.kd
  have hwd := hp.wd
  have hint := hp.int
  have hlen := hp.len
  obtain ⟨kd, iv, rl, re, im, tx⟩ := x
  simp only at hkd hwd hint hlen
  obtain ⟨h1, h2, h3⟩ := hwd
  obtain ⟨i1, i2⟩ := hint
  unfold fVal9
  simp only
  have hts : (⟨tx.toArray⟩ : ByteArray).size = tx.length := rfl
  have htc : Lib.strCells ⟨tx.toArray⟩ = u8s tx := by unfold Lib.strCells u8s; simp
  have HTC := Lib.hid htc
  generalize hsd : (⟨tx.toArray⟩ : ByteArray) = s at *
  have hss : s.size ≤ 256 := by omega
  have HTS := Lib.hid hts
  obtain ⟨W0, hW0⟩ : ∃ W0, W0 = w.alloc (.cells #[.int .i64 kd, .int .i64 iv, .float .f64 rl, .complex .f64 re im, .string s] 27) := ⟨_, rfl⟩
  have hb0 : Below w.heap.size w W0 := by rw [hW0]; exact (Below.refl _ w).alloc (Nat.le_refl _) _
  have hx0 : Bk W0 w.heap.size 27 [.int .i64 kd, .int .i64 iv, .float .f64 rl, .complex .f64 re im, .string s] := by rw [hW0]; exact Bk.new w _ _
  have HW0 := Lib.hid hW0
  have HX0 := Lib.hid hx0
  have HB0 := Lib.hid (hb0.mono hB)
  have HK0 := Lib.hid (KT.of_below hb0)
  have HO0 := Lib.hid (own_keep9 hown hb0)
  have hu : IntKind.u64.wrap iv = ((i64W iv : Nat) : Int) := by rw [IntKind.wrap_u64]; unfold i64W; omega
  have hiw : i64W iv < 18446744073709551616 := by unfold i64W; omega
  have hl9 : IntKind.u64.wrap (s.size : Int) = ((s.size : Nat) : Int) := by rw [IntKind.wrap_u64]; omega
  unfold AdP
  clear hW0 hb0 hx0 hown hp hts htc hsd hlen
  rcases hkd with rfl | rfl | rfl | rfl
  · have hfl : (formV ⟨1, iv, rl, re, im, tx⟩) = [1] ++ beW 8 (i64W iv) := by
      unfold formV; rfl
    have HFL := Lib.hid hfl
    clear hfl
    have x0 := HX0.out.c 0 rfl
    have x1 := HX0.out.c 1 rfl
    have x2 := HX0.out.c 2 rfl
    have x3 := HX0.out.c 3 rfl
    have x4 := HX0.out.c 4 rfl
    go_enter Try.func41, Try.ntmps41
    go_upto_region 1 with (fail)
    rw [← HW0.out]
    have HC1 := Lib.hid (addNumber_any 1 B (.inl rfl) v n 1 xs (by decide) W0 HO0.out (by omega) (Nat.le_trans hB HB0.out.size))
    go_wp2_with fail
    refine (HC1.out).mono ?_
    rintro e w1 ⟨v1, rfl, ho1, hb1, hk1⟩
    have HO1 := Lib.hid ho1
    have HX1 := Lib.hid (HX0.out.kt (by decide) hk1)
    have HB1 := Lib.hid (HB0.out.trans hb1)
    have HK1 := Lib.hid (HK0.out.trans hk1)
    clear ho1 hb1 hk1 x0 x1 x2 x3 x4 HO0 HX0 HB0 HK0
    have x0 := HX1.out.c 0 rfl
    have x1 := HX1.out.c 1 rfl
    have x2 := HX1.out.c 2 rfl
    have x3 := HX1.out.c 3 rfl
    have x4 := HX1.out.c 4 rfl
    have HC2 := Lib.hid (addNumber_any 8 B (.inr (.inr (.inr rfl))) v1 (n + 1) (i64W iv) (xs ++ beW 1 1) hiw w1 HO1.out (by omega) (Nat.le_trans hB HB1.out.size))
    go_wp2_with fail
    refine (HC2.out).mono ?_
    rintro e w2 ⟨v2, rfl, ho2, hb2, hk2⟩
    have HO2 := Lib.hid ho2
    have HX2 := Lib.hid (HX1.out.kt (by decide) hk2)
    have HB2 := Lib.hid (HB1.out.trans hb2)
    have HK2 := Lib.hid (HK1.out.trans hk2)
    clear ho2 hb2 hk2 x0 x1 x2 x3 x4 HO1 HX1 HB1 HK1
    have x0 := HX2.out.c 0 rfl
    have x1 := HX2.out.c 1 rfl
    have x2 := HX2.out.c 2 rfl
    have x3 := HX2.out.c 3 rfl
    have x4 := HX2.out.c 4 rfl
    go_wp2_with fail
    go_ret
    exact ⟨v2, rfl, by rw [HFL.out, ← List.append_assoc]; exact HO2.out, HB2.out, HK2.out⟩
  · have hfl : (formV ⟨2, iv, rl, re, im, tx⟩) = [2] ++ beW 8 (bitsW rl) := by
      unfold formV; rfl
    have HFL := Lib.hid hfl
    clear hfl
    have x0 := HX0.out.c 0 rfl
    have x1 := HX0.out.c 1 rfl
    have x2 := HX0.out.c 2 rfl
    have x3 := HX0.out.c 3 rfl
    have x4 := HX0.out.c 4 rfl
    go_enter Try.func41, Try.ntmps41
    go_upto_region 1 with (fail)
    rw [← HW0.out]
    have HC1 := Lib.hid (addNumber_any 1 B (.inl rfl) v n 2 xs (by decide) W0 HO0.out (by omega) (Nat.le_trans hB HB0.out.size))
    go_wp2_with fail
    refine (HC1.out).mono ?_
    rintro e w1 ⟨v1, rfl, ho1, hb1, hk1⟩
    have HO1 := Lib.hid ho1
    have HX1 := Lib.hid (HX0.out.kt (by decide) hk1)
    have HB1 := Lib.hid (HB0.out.trans hb1)
    have HK1 := Lib.hid (HK0.out.trans hk1)
    clear ho1 hb1 hk1 x0 x1 x2 x3 x4 HO0 HX0 HB0 HK0
    have x0 := HX1.out.c 0 rfl
    have x1 := HX1.out.c 1 rfl
    have x2 := HX1.out.c 2 rfl
    have x3 := HX1.out.c 3 rfl
    have x4 := HX1.out.c 4 rfl
    have HC2 := Lib.hid (addReal_any B v1 (n + 1) rl (xs ++ beW 1 2) h1 w1 HO1.out (by omega) (Nat.le_trans hB HB1.out.size))
    go_wp2_with fail
    refine (HC2.out).mono ?_
    rintro e w2 ⟨v2, rfl, ho2, hb2, hk2⟩
    have HO2 := Lib.hid ho2
    have HX2 := Lib.hid (HX1.out.kt (by decide) hk2)
    have HB2 := Lib.hid (HB1.out.trans hb2)
    have HK2 := Lib.hid (HK1.out.trans hk2)
    clear ho2 hb2 hk2 x0 x1 x2 x3 x4 HO1 HX1 HB1 HK1
    have x0 := HX2.out.c 0 rfl
    have x1 := HX2.out.c 1 rfl
    have x2 := HX2.out.c 2 rfl
    have x3 := HX2.out.c 3 rfl
    have x4 := HX2.out.c 4 rfl
    go_wp2_with fail
    go_ret
    exact ⟨v2, rfl, by rw [HFL.out, ← List.append_assoc]; exact HO2.out, HB2.out, HK2.out⟩
  · have hfl : (formV ⟨3, iv, rl, re, im, tx⟩) = ([3] ++ beW 8 (bitsW re)) ++ beW 8 (bitsW im) := by
      unfold formV; rfl
    have HFL := Lib.hid hfl
    clear hfl
    have x0 := HX0.out.c 0 rfl
    have x1 := HX0.out.c 1 rfl
    have x2 := HX0.out.c 2 rfl
    have x3 := HX0.out.c 3 rfl
    have x4 := HX0.out.c 4 rfl
    go_enter Try.func41, Try.ntmps41
    go_upto_region 1 with (fail)
    rw [← HW0.out]
    have HC1 := Lib.hid (addNumber_any 1 B (.inl rfl) v n 3 xs (by decide) W0 HO0.out (by omega) (Nat.le_trans hB HB0.out.size))
    go_wp2_with fail
    refine (HC1.out).mono ?_
    rintro e w1 ⟨v1, rfl, ho1, hb1, hk1⟩
    have HO1 := Lib.hid ho1
    have HX1 := Lib.hid (HX0.out.kt (by decide) hk1)
    have HB1 := Lib.hid (HB0.out.trans hb1)
    have HK1 := Lib.hid (HK0.out.trans hk1)
    clear ho1 hb1 hk1 x0 x1 x2 x3 x4 HO0 HX0 HB0 HK0
    have x0 := HX1.out.c 0 rfl
    have x1 := HX1.out.c 1 rfl
    have x2 := HX1.out.c 2 rfl
    have x3 := HX1.out.c 3 rfl
    have x4 := HX1.out.c 4 rfl
    have HC2 := Lib.hid (addReal_any B v1 (n + 1) re (xs ++ beW 1 3) h2 w1 HO1.out (by omega) (Nat.le_trans hB HB1.out.size))
    go_wp2_with fail
    refine (HC2.out).mono ?_
    rintro e w2 ⟨v2, rfl, ho2, hb2, hk2⟩
    have HO2 := Lib.hid ho2
    have HX2 := Lib.hid (HX1.out.kt (by decide) hk2)
    have HB2 := Lib.hid (HB1.out.trans hb2)
    have HK2 := Lib.hid (HK1.out.trans hk2)
    clear ho2 hb2 hk2 x0 x1 x2 x3 x4 HO1 HX1 HB1 HK1
    have x0 := HX2.out.c 0 rfl
    have x1 := HX2.out.c 1 rfl
    have x2 := HX2.out.c 2 rfl
    have x3 := HX2.out.c 3 rfl
    have x4 := HX2.out.c 4 rfl
    have HC3 := Lib.hid (addReal_any B v2 (n + 1 + 8) im ((xs ++ beW 1 3) ++ beW 8 (bitsW re)) h3 w2 HO2.out (by omega) (Nat.le_trans hB HB2.out.size))
    go_wp2_with fail
    refine (HC3.out).mono ?_
    rintro e w3 ⟨v3, rfl, ho3, hb3, hk3⟩
    have HO3 := Lib.hid ho3
    have HX3 := Lib.hid (HX2.out.kt (by decide) hk3)
    have HB3 := Lib.hid (HB2.out.trans hb3)
    have HK3 := Lib.hid (HK2.out.trans hk3)
    clear ho3 hb3 hk3 x0 x1 x2 x3 x4 HO2 HX2 HB2 HK2
    have x0 := HX3.out.c 0 rfl
    have x1 := HX3.out.c 1 rfl
    have x2 := HX3.out.c 2 rfl
    have x3 := HX3.out.c 3 rfl
    have x4 := HX3.out.c 4 rfl
    go_wp2_with fail
    go_ret
    exact ⟨v3, rfl, by rw [HFL.out, ← List.append_assoc, ← List.append_assoc]; exact HO3.out, HB3.out, HK3.out⟩
  · have hfl : (formV ⟨4, iv, rl, re, im, tx⟩) = ([4] ++ beW 2 tx.length) ++ tx := by
      unfold formV; rfl
    have HFL := Lib.hid hfl
    clear hfl
    have x0 := HX0.out.c 0 rfl
    have x1 := HX0.out.c 1 rfl
    have x2 := HX0.out.c 2 rfl
    have x3 := HX0.out.c 3 rfl
    have x4 := HX0.out.c 4 rfl
    go_enter Try.func41, Try.ntmps41
    go_upto_region 1 with (fail)
    rw [← HW0.out]
    have HC1 := Lib.hid (addNumber_any 1 B (.inl rfl) v n 4 xs (by decide) W0 HO0.out (by omega) (Nat.le_trans hB HB0.out.size))
    go_wp2_with fail
    refine (HC1.out).mono ?_
    rintro e w1 ⟨v1, rfl, ho1, hb1, hk1⟩
    have HO1 := Lib.hid ho1
    have HX1 := Lib.hid (HX0.out.kt (by decide) hk1)
    have HB1 := Lib.hid (HB0.out.trans hb1)
    have HK1 := Lib.hid (HK0.out.trans hk1)
    clear ho1 hb1 hk1 x0 x1 x2 x3 x4 HO0 HX0 HB0 HK0
    have x0 := HX1.out.c 0 rfl
    have x1 := HX1.out.c 1 rfl
    have x2 := HX1.out.c 2 rfl
    have x3 := HX1.out.c 3 rfl
    have x4 := HX1.out.c 4 rfl
    have HC2 := Lib.hid (addNumber_any 2 B (.inr (.inl rfl)) v1 (n + 1) s.size (xs ++ beW 1 4) (by omega) w1 HO1.out (by omega) (Nat.le_trans hB HB1.out.size))
    go_wp2_with fail
    refine (HC2.out).mono ?_
    rintro e w2 ⟨v2, rfl, ho2, hb2, hk2⟩
    have HO2 := Lib.hid ho2
    have HX2 := Lib.hid (HX1.out.kt (by decide) hk2)
    have HB2 := Lib.hid (HB1.out.trans hb2)
    have HK2 := Lib.hid (HK1.out.trans hk2)
    clear ho2 hb2 hk2 x0 x1 x2 x3 x4 HO1 HX1 HB1 HK1
    have x0 := HX2.out.c 0 rfl
    have x1 := HX2.out.c 1 rfl
    have x2 := HX2.out.c 2 rfl
    have x3 := HX2.out.c 3 rfl
    have x4 := HX2.out.c 4 rfl
    obtain ⟨i0, hi, hz0, hz1, hz2⟩ := info_parts3 info5
    go_wp2_with (at_builtin; refine Lib.wpList_append_own_string _ rfl (.tmp 45) (.tmp 47) 22 9 rfl B 5 i0 Try.underlying22 Try.underlying9 hi hz0 hz1 hz2 v2 (n + 1 + 2) (u8s ((xs ++ beW 1 4) ++ beW 2 s.size)) rfl HO2.out s rfl (by unfold maxLen; omega) (by omega) (Nat.le_trans hB HB2.out.size) ?_; intro v3 w3 hown3 hgrow3 hnil3)
    have HO3 := Lib.hid hown3
    have HK3 := Lib.hid (HK2.out.trans (KT.of_grown HO2.out hgrow3))
    have HB3 := Lib.hid (HB2.out.grown hgrow3 (Nat.le_trans hB HB2.out.size) (fun g hg => (HO2.out.lt g hg).1))
    clear hown3 hgrow3 hnil3
    go_wp2_with fail
    go_ret
    exact ⟨v3, rfl, by rw [HFL.out, ← List.append_assoc, ← List.append_assoc, u8s_append, ← HTC.out, ← HTS.out]; rw [show n + ((([4] : List UInt8) ++ beW 2 s.size) ++ tx).length = n + 1 + 2 + s.size by rw [List.length_append, List.length_append, beW_len, HTS.out]; simp only [List.length_singleton]; omega]; exact HO3.out, HB3.out, HK3.out⟩
end Go.Proofs.Ytloofajopgbfmaa
