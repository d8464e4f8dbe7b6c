/- LexReals. -/
import Derived.Test.YtiemifaiamcklaaDoorDecimal
import Derived.Test.YtiemifaiamcklaaDoorLexQuotes
import Derived.Deep.Cut
namespace Go.Proofs.YtiemifaiamcklaaDoor
open Go.RowKit Go.Shelf
set_option maxRecDepth 100000

theorem bytes_cat (a b : List UInt8) : (⟨a.toArray⟩ : ByteArray) ++ ⟨b.toArray⟩ = ⟨(a ++ b).toArray⟩ := bytes_app a ⟨b.toArray⟩
theorem bitLen_le_iff (m d : Nat) (hm : 0 < m) (h2 : m < 18446744073709551616) : m / 2 ^ d = 0 ↔ Lib.bitLen m ≤ d := by
  rw [bitLen_log2 m hm h2]
  obtain ⟨b1, b2⟩ := log2_bounds hm
  constructor
  · intro h
    have hlt : m < 2 ^ d := by
      rcases Nat.lt_or_ge m (2 ^ d) with h' | h'
      · exact h'
      · have := Nat.div_pos h' (Nat.two_pow_pos d); omega
    rcases Nat.lt_or_ge m.log2 d with h' | h'
    · omega
    · have := Nat.pow_le_pow_right (show 0 < 2 by omega) h'; omega
  · intro h
    refine Nat.div_eq_of_lt (Nat.lt_of_lt_of_le b2 (Nat.pow_le_pow_right (by omega) (by omega)))
/-- the ways of a real that may be -/
theorem form_yes {m : Nat} {x : Int} (h : oneFormB m x = true) : (m = 0 ∧ x = 0) ∨ (0 < m ∧ m % 2 = 1 ∧ m < 9007199254740992 ∧ -1074 ≤ x ∧ x ≤ 1023 ∧ (m.log2 : Int) + 1 + x ≤ 1024 ∧ (970 < x → m / 2 ^ (1024 - x).toNat = 0)) := by
  unfold oneFormB at h
  split at h
  · rename_i h0; left; exact ⟨by omega, by simpa using h⟩
  · split at h
    · cases h
    · rename_i h0 h1
      right
      simp only [Int.toNat_natCast, decide_eq_true_eq] at h
      have hm : 0 < m := by omega
      have hb := bitLen_log2 m hm (by omega)
      rw [hb] at h
      refine ⟨hm, by omega, by omega, by omega, by omega, by omega, fun hx => ?_⟩
      rw [bitLen_le_iff m _ hm (by omega), hb]
      omega
/-- the ways of one that may not -/
theorem form_no {m : Nat} {x : Int} (hm : m < 18446744073709551616) (h : ¬ (m < 9223372036854775808 ∧ -9223372036854775808 < x ∧ oneFormB m x = true)) :
    9007199254740992 ≤ m ∨ (m < 9007199254740992 ∧ x < -1074) ∨ (m < 9007199254740992 ∧ -1074 ≤ x ∧ 1023 < x) ∨ (m < 9007199254740992 ∧ -1074 ≤ x ∧ x ≤ 1023 ∧ m % 2 = 0 ∧ 0 < m) ∨
      (m = 0 ∧ -1074 ≤ x ∧ x ≤ 1023 ∧ x ≠ 0) ∨ (m < 9007199254740992 ∧ 970 < x ∧ x ≤ 1023 ∧ m % 2 = 1 ∧ m / 2 ^ (1024 - x).toNat ≠ 0) := by
  by_cases h1 : 9007199254740992 ≤ m
  · exact .inl h1
  by_cases h2 : x < -1074
  · exact .inr (.inl ⟨by omega, h2⟩)
  by_cases h3 : 1023 < x
  · exact .inr (.inr (.inl ⟨by omega, by omega, h3⟩))
  by_cases h4 : m = 0
  · subst h4
    refine .inr (.inr (.inr (.inr (.inl ⟨rfl, by omega, by omega, ?_⟩))))
    rintro rfl
    exact h ⟨by omega, by omega, by decide⟩
  by_cases h5 : m % 2 = 0
  · exact .inr (.inr (.inr (.inl ⟨by omega, by omega, by omega, h5, by omega⟩)))
  refine .inr (.inr (.inr (.inr (.inr ?_))))
  have hf : oneFormB m x = decide ((Lib.bitLen m : Int) + x ≤ 1024) := by
    unfold oneFormB
    rw [if_neg (by omega), if_neg (by omega), Int.toNat_natCast]
  have hn : ¬ ((Lib.bitLen m : Int) + x ≤ 1024) := by
    intro hle
    exact h ⟨by omega, by omega, by rw [hf]; simpa using hle⟩
  have hb := bitLen_log2 m (by omega) (by omega)
  have hk := log2_le (m := m) (by omega) (by omega)
  refine ⟨by omega, by omega, by omega, by omega, ?_⟩
  rw [Ne, bitLen_le_iff m _ (by omega) (by omega)]
  omega
/-- what the law is to answer -/
def RealsPost (w : World) (e : Ending) (w' : World) : Prop := e = .returned (.bool true) ∧ Below w.heap.size w w'

set_option maxHeartbeats 4000000 in
theorem reals_walk (m : Nat) (x : Int) (w : World) (hG : Glob w) (hm : m < 18446744073709551616) (hx : -9223372036854775808 ≤ x) (hx2 : x ≤ 9223372036854775807) :
    Calls Tryd.prog 8 #[.int .u64 m, .int .i64 x] w fun e w' => RealsPost w e w' := by
  obtain ⟨hlen, hall⟩ := scan_real m x hm hx hx2
  obtain ⟨ts, hts⟩ : ∃ ts : ByteArray, ts = ⟨(realL m x).toArray⟩ := ⟨_, rfl⟩
  have htl : ts.data.toList = realL m x := by rw [hts]
  have hsz : ts.size ≤ 50 := by rw [← size_list, htl]; exact hlen
  obtain ⟨ds, hds⟩ : ∃ ds : ByteArray, ds = ⟨(Lib.decDigits m).toArray⟩ := ⟨_, rfl⟩
  have hd20 : ds.size ≤ 20 := by rw [hds]; exact dd_len20 m hm
  have HDS : Hid (∀ w, Calls Tryd.prog 22 #[.int .u64 m] w fun e w' => e = .returned (.string ds) ∧ w = w') := by
    have : ∀ w, Calls Tryd.prog 22 #[.int .u64 m] w fun e w' => e = .returned (.string ds) ∧ w = w' := by rw [hds]; exact fun w => decimal_any m w hm
    exact this
  have HG := Lib.hid hG
  have HALL := Lib.hid hall
  have HTL := Lib.hid htl
  have HMM := Lib.hid hm
  have hm2 : (m : Int) ≤ 18446744073709551615 := by omega
  clear hG hall htl hlen hm
  rcases Int.lt_or_le x 0 with hneg | hpos
  · obtain ⟨n, hn⟩ : ∃ n : Nat, -x = n := ⟨(-x).toNat, by omega⟩
    obtain ⟨es, hes⟩ : ∃ es : ByteArray, es = ⟨(Lib.decDigits n).toArray⟩ := ⟨_, rfl⟩
    have he20 : es.size ≤ 20 := by rw [hes]; exact dd_len20 n (by omega)
    have HES : Hid (∀ w, Calls Tryd.prog 22 #[.int .u64 n] w fun e w' => e = .returned (.string es) ∧ w = w') := by
      have : ∀ w, Calls Tryd.prog 22 #[.int .u64 n] w fun e w' => e = .returned (.string es) ∧ w = w' := by rw [hes]; exact fun w => decimal_any n w (by omega)
      exact this
    have ht : ds ++ ⟨#[112]⟩ ++ ⟨#[45]⟩ ++ es = ts := by
      have e1 : expL x = 45 :: Lib.decDigits n := by unfold expL; rw [if_pos hneg, show (-x).toNat = n by omega]
      rw [hds, hes, hts, realL, e1]
      show (⟨(Lib.decDigits m).toArray⟩ : ByteArray) ++ ⟨[112].toArray⟩ ++ ⟨[45].toArray⟩ ++ ⟨(Lib.decDigits n).toArray⟩ = _
      rw [bytes_cat, bytes_cat, bytes_cat]
      simp
    have u1 : IntKind.u64.wrap x = x + 18446744073709551616 := by rw [IntKind.wrap_u64]; omega
    have u2 : IntKind.u64.wrap (-(x + 18446744073709551616)) = (n : Int) := by rw [IntKind.wrap_u64]; omega
    have HT := Lib.hid ht
    clear hds hes hts ht
    go_enter Tryd.func8, Tryd.ntmps8
    go_wp2_with fail
    refine (awake_any w HG.out).mono ?_
    rintro e w1 ⟨rfl, hb1⟩
    have HB1 := Lib.hid hb1
    clear hb1
    go_wp2_with fail
    refine (HDS.out w1).mono ?_
    rintro e w1' ⟨rfl, rfl⟩
    go_wp2_with fail
    go_wp2_with fail
    refine (HES.out w1).mono ?_
    rintro e w1' ⟨rfl, rfl⟩
    have ht := HT.out
    obtain ⟨qc, w3, hcv, hT3, hb3⟩ := text_bytes ts w1 (Nat.le_trans hsz (by decide))
    have HB3 := Lib.hid (HB1.out.trans (hb3.mono HB1.out.size))
    rw [HTL.out] at hT3
    have HT3 := Lib.hid hT3
    clear hb3 hT3 u1 u2
    go_wp2_with fail
    clear ht hcv
    by_cases hC : m < 9223372036854775808 ∧ -9223372036854775808 < x ∧ oneFormB m x = true
    · have hall := HALL.out
      rw [if_pos hC] at hall
      have hs := Scan_ok _ _ _ _ w3 HT3.out (HG.out.below HB3.out (Nat.le_refl _)) (by rw [hall]; simp)
      rw [hall] at hs
      have hform := form_yes hC.2.2
      refine hs.mono ?_
      rintro e w4 ⟨v, rfl, hr4, hb4⟩
      obtain ⟨g, vc, rfl⟩ := ownsRow_succ (k := 0) hr4
      have cc : ∀ j u, (flatT [((⟨3, [], 0, realBits m x, 0, (realL m x).length⟩ : Tok), 0)])[j]? = some u → w4.cell? ⟨g, j, none⟩ = some u := fun j u hj => by
        have hlt : j < (flatT [((⟨3, [], 0, realBits m x, 0, (realL m x).length⟩ : Tok), 0)]).length := (List.getElem?_eq_some_iff.1 hj).1
        rw [hr4.cellAt j (by rw [hr4.1] at hlt; exact hlt)]; exact hj
      have c0 : w4.cell? ⟨g, 0, none⟩ = some (.int .i64 3) := cc 0 _ rfl
      have c3 : w4.cell? ⟨g, 3, none⟩ = some (.float .f64 (realBits m x)) := cc 3 _ rfl
      have HB4 := Lib.hid (HB3.out.trans (hb4.mono HB3.out.size))
      have HHALF : Hid (∀ k : Nat, (k : Int) < x → ∀ t w, (binOp .quo t (.float .f64 (realBits m (x - k))) (.float .f64 4611686018427387904)).run Tryd.prog w = .ok (.float .f64 (realBits m (x - k - 1))) w) := by
        have : ∀ k : Nat, (k : Int) < x → ∀ t w, (binOp .quo t (.float .f64 (realBits m (x - k))) (.float .f64 4611686018427387904)).run Tryd.prog w = .ok (.float .f64 (realBits m (x - k - 1))) w := by
          intro k hk t w
          rcases hform with ⟨h1, h2⟩ | ⟨h1, h2, h3, h4, h5, h6, _⟩
          · omega
          · exact run_float_arith (h := half m (x - k) h1 h3 (by omega) (by omega)) ..
        exact this
      have HTWO : Hid (∀ j : Int, x ≤ j → j < 0 → ∀ t w, (binOp .mul t (.float .f64 (realBits m j)) (.float .f64 4611686018427387904)).run Tryd.prog w = .ok (.float .f64 (realBits m (j + 1))) w) := by
        have : ∀ j : Int, x ≤ j → j < 0 → ∀ t w, (binOp .mul t (.float .f64 (realBits m j)) (.float .f64 4611686018427387904)).run Tryd.prog w = .ok (.float .f64 (realBits m (j + 1))) w := by
          intro j hj hj0 t w
          rcases hform with ⟨h1, h2⟩ | ⟨h1, h2, h3, h4, h5, h6, _⟩
          · omega
          · have := log2_le h1 h3
            exact run_float_arith (h := times_two m j h1 h3 (by omega) (by omega)) ..
        exact this
      have HSELF : Hid ((FloatKind.f64.format.order (realBits m 0) (realBits m 0) == some Ordering.eq) = true) := by
        have : (Ieee.double.order (realBits m 0) (realBits m 0) == some Ordering.eq) = true := by
          rcases hform with ⟨h1, h2⟩ | ⟨h1, h2, h3, h4, h5, h6, _⟩
          · rw [h1]; decide
          · have := log2_le h1 h3
            exact real_self m 0 h1 h3 (by omega) (by omega)
        exact this
      have HOI := Lib.hid (of_int m)
      have f1 : decide ((m : Int) < 9007199254740992) = true := by rw [decide_eq_true_eq]; omega
      have f1' : decide (m < 9007199254740992) = true := by rw [decide_eq_true_eq]; omega
      have f3 : decide (-1074 ≤ x) = true := by rw [decide_eq_true_eq]; omega
      have f4 : decide (x ≤ 1023) = true := by rw [decide_eq_true_eq]; omega
      have hxb : -1074 ≤ x ∧ x ≤ 1023 := by omega
      have hw : (m = 0 ∧ x = 0) ∨ (m % 2 = 1 ∧ x ≤ 970) ∨ (m % 2 = 1 ∧ 970 < x ∧ m / 2 ^ (1024 - x).toNat = 0) := by
        rcases hform with h | ⟨h1, h2, h3, h4, h5, h6, h7⟩
        · exact .inl h
        · rcases Int.lt_or_le 970 x with h | h
          · exact .inr (.inr ⟨h2, h, h7 h⟩)
          · exact .inr (.inl ⟨h2, h⟩)
      clear hs hall hC hform cc hr4 hb4
      rcases hw with ⟨h1, h2⟩ | ⟨h1, h2⟩ | ⟨h1, h2, h3⟩
      · omega
      · have f2 : ((m : Int) % 2 == 1) = true := by rw [beq_iff_eq]; omega
        have f7 : decide (970 < x) = false := by rw [decide_eq_false_iff_not]; omega
        clear h1 h2 hxb
        go_upto_region 15 with (fail)
        clear f1 f1' f2 f3 f4 f7
        go_wp2_with fail
        go_loop [10, 11] (fun v i => ∃ k : Nat, k ≤ x.toNat ∧ i = .int .i64 k ∧ v = .float .f64 (realBits m (x - k))) (fun _ i => x.toNat - (intOf i).toNat)
        case atStart => exact ⟨0, Nat.zero_le _, rfl, by simp⟩
        case round =>
          obtain ⟨k, hk, rfl, rfl⟩ := hrel
          rcases Int.lt_or_le (k : Int) x with hlt | hge
          · have hq := HHALF.out k hlt
            obtain ⟨r0, hr0⟩ : ∃ r0, r0 = realBits m (x - k) := ⟨_, rfl⟩
            obtain ⟨r1, hr1⟩ : ∃ r1, r1 = realBits m (x - k - 1) := ⟨_, rfl⟩
            rw [← hr0, ← hr1] at hq
            rw [← hr0]
            have HR1 := Lib.hid hr1
            clear hr0 hr1
            go_wp2_with fail
            go_round
            case rel => exact ⟨k + 1, by omega, by go_num, by rw [HR1.out, show x - ((k + 1 : Nat) : Int) = x - k - 1 by omega]⟩
            case measure => simp [intOf]; omega
          · obtain ⟨r0, hr0⟩ : ∃ r0, r0 = realBits m (x - k) := ⟨_, rfl⟩
            rw [← hr0]
            have HR0 : Hid (r0 = realBits m (if x < 0 then x else 0)) := by
              have : r0 = realBits m (if x < 0 then x else 0) := by
                rw [hr0]
                congr 1
                split <;> omega
              exact this
            clear hr0
            go_wp2_with fail
            go_loop [10, 12] (fun v i => ∃ j : Int, x ≤ j ∧ j ≤ 9223372036854775807 ∧ (j ≤ 0 ∨ j = x) ∧ i = .int .i64 j ∧ v = .float .f64 (realBits m (if j < 0 then j else 0))) (fun _ i => (-(intOf i)).toNat)
            case atStart => exact ⟨x, Int.le_refl _, hx2, .inr rfl, rfl, by rw [HR0.out]⟩
            case round =>
              obtain ⟨j, hj, hj2, hj3, rfl, rfl⟩ := hrel
              rcases Int.lt_or_le j 0 with hlt | hge2
              · have hq := HTWO.out j hj hlt
                rw [if_pos hlt]
                obtain ⟨r2, hr2⟩ : ∃ r2, r2 = realBits m j := ⟨_, rfl⟩
                obtain ⟨r3, hr3⟩ : ∃ r3, r3 = realBits m (j + 1) := ⟨_, rfl⟩
                rw [← hr2, ← hr3] at hq
                rw [← hr2]
                have HR3 := Lib.hid hr3
                clear hr2 hr3
                go_wp2_with fail
                go_round
                case rel => exact ⟨j + 1, by omega, by omega, by omega, by go_num, by rw [HR3.out]; congr 2; split <;> omega⟩
                case measure => simp [intOf]; omega
              · rw [if_neg (by omega)]
                have hoi := HOI.out
                have hse := HSELF.out
                obtain ⟨r2, hr2⟩ : ∃ r2, r2 = realBits m 0 := ⟨_, rfl⟩
                rw [← hr2] at hoi hse ⊢
                clear hr2
                go_wp2_with fail
                go_ret
                exact ⟨by first | rfl | simp_all, HB4.out⟩
      · omega
    · have hall := HALL.out
      rw [if_neg hC] at hall
      refine (Scan_bad _ _ _ _ w3 HT3.out (HG.out.below HB3.out (Nat.le_refl _)) [] [] _ hall (by simp) (by simp)).mono ?_
      rintro e w4 ⟨rfl, hb4⟩
      have HB4 := Lib.hid (HB3.out.trans (hb4.mono HB3.out.size))
      have hno := form_no HMM.out hC
      clear hall hC hb4
      rcases hno with h1 | ⟨h1, h2⟩ | ⟨h1, h2, h3⟩ | ⟨h1, h2, h3, h4, h5⟩ | ⟨rfl, h2, h3, h4⟩ | ⟨h1, h2, h3, h4, h5⟩
      · have f1 : decide ((m : Int) < 9007199254740992) = false := by rw [decide_eq_false_iff_not]; omega
        have f1' : decide (m < 9007199254740992) = false := by rw [decide_eq_false_iff_not]; omega
        clear h1
        go_wp2_with fail
        go_ret
        exact ⟨rfl, HB4.out⟩
      · have f1 : decide ((m : Int) < 9007199254740992) = true := by rw [decide_eq_true_eq]; omega
        have f1' : decide (m < 9007199254740992) = true := by rw [decide_eq_true_eq]; omega
        have f2 : decide (-1074 ≤ x) = false := by rw [decide_eq_false_iff_not]; omega
        clear h1 h2
        go_wp2_with fail
        go_ret
        exact ⟨rfl, HB4.out⟩
      · have f1 : decide ((m : Int) < 9007199254740992) = true := by rw [decide_eq_true_eq]; omega
        have f1' : decide (m < 9007199254740992) = true := by rw [decide_eq_true_eq]; omega
        have f2 : decide (-1074 ≤ x) = true := by rw [decide_eq_true_eq]; omega
        have f3 : decide (x ≤ 1023) = false := by rw [decide_eq_false_iff_not]; omega
        clear h1 h2 h3
        go_wp2_with fail
        go_ret
        exact ⟨rfl, HB4.out⟩
      · have f1 : (m : Int) < 9007199254740992 := by omega
        have f2 : ((m : Int) % 2 == 1) = false := by rw [beq_eq_false_iff_ne]; omega
        have f3 : ((m : Int) == 0) = false := by rw [beq_eq_false_iff_ne]; omega
        have f4 : (m == 0) = false := by rw [beq_eq_false_iff_ne]; omega
        go_wp2_with fail
        go_ret
        exact ⟨rfl, HB4.out⟩
      · have f3 : (x == 0) = false := by rw [beq_eq_false_iff_ne]; exact h4
        go_wp2_with fail
        go_ret
        exact ⟨rfl, HB4.out⟩
      · omega
  · obtain ⟨n, hn⟩ : ∃ n : Nat, x = n := ⟨x.toNat, by omega⟩
    obtain ⟨es, hes⟩ : ∃ es : ByteArray, es = ⟨(Lib.decDigits n).toArray⟩ := ⟨_, rfl⟩
    have he20 : es.size ≤ 20 := by rw [hes]; exact dd_len20 n (by omega)
    have HES : Hid (∀ w, Calls Tryd.prog 22 #[.int .u64 n] w fun e w' => e = .returned (.string es) ∧ w = w') := by
      have : ∀ w, Calls Tryd.prog 22 #[.int .u64 n] w fun e w' => e = .returned (.string es) ∧ w = w' := by rw [hes]; exact fun w => decimal_any n w (by omega)
      exact this
    have ht : ds ++ ⟨#[112]⟩ ++ es = ts := by
      have e1 : expL x = Lib.decDigits n := by unfold expL; rw [if_neg (by omega), show x.toNat = n by omega]
      rw [hds, hes, hts, realL, e1]
      show (⟨(Lib.decDigits m).toArray⟩ : ByteArray) ++ ⟨[112].toArray⟩ ++ ⟨(Lib.decDigits n).toArray⟩ = _
      rw [bytes_cat, bytes_cat]
      simp
    have u1 : IntKind.u64.wrap x = (n : Int) := by rw [IntKind.wrap_u64]; omega
    have HT := Lib.hid ht
    have HN := Lib.hid hn
    clear hds hes hts ht hn
    go_enter Tryd.func8, Tryd.ntmps8
    go_wp2_with fail
    refine (awake_any w HG.out).mono ?_
    rintro e w1 ⟨rfl, hb1⟩
    have HB1 := Lib.hid hb1
    clear hb1
    go_wp2_with fail
    refine (HDS.out w1).mono ?_
    rintro e w1' ⟨rfl, rfl⟩
    go_wp2_with fail
    refine (HES.out w1).mono ?_
    rintro e w1' ⟨rfl, rfl⟩
    have ht := HT.out
    obtain ⟨qc, w3, hcv, hT3, hb3⟩ := text_bytes ts w1 (Nat.le_trans hsz (by decide))
    have HB3 := Lib.hid (HB1.out.trans (hb3.mono HB1.out.size))
    rw [HTL.out] at hT3
    have HT3 := Lib.hid hT3
    clear hb3 hT3 u1
    go_wp2_with fail
    clear ht hcv
    by_cases hC : m < 9223372036854775808 ∧ -9223372036854775808 < x ∧ oneFormB m x = true
    · have hall := HALL.out
      rw [if_pos hC] at hall
      have hs := Scan_ok _ _ _ _ w3 HT3.out (HG.out.below HB3.out (Nat.le_refl _)) (by rw [hall]; simp)
      rw [hall] at hs
      have hform := form_yes hC.2.2
      refine hs.mono ?_
      rintro e w4 ⟨v, rfl, hr4, hb4⟩
      obtain ⟨g, vc, rfl⟩ := ownsRow_succ (k := 0) hr4
      have cc : ∀ j u, (flatT [((⟨3, [], 0, realBits m x, 0, (realL m x).length⟩ : Tok), 0)])[j]? = some u → w4.cell? ⟨g, j, none⟩ = some u := fun j u hj => by
        have hlt : j < (flatT [((⟨3, [], 0, realBits m x, 0, (realL m x).length⟩ : Tok), 0)]).length := (List.getElem?_eq_some_iff.1 hj).1
        rw [hr4.cellAt j (by rw [hr4.1] at hlt; exact hlt)]; exact hj
      have c0 : w4.cell? ⟨g, 0, none⟩ = some (.int .i64 3) := cc 0 _ rfl
      have c3 : w4.cell? ⟨g, 3, none⟩ = some (.float .f64 (realBits m x)) := cc 3 _ rfl
      have HB4 := Lib.hid (HB3.out.trans (hb4.mono HB3.out.size))
      have HHALF : Hid (∀ k : Nat, (k : Int) < x → ∀ t w, (binOp .quo t (.float .f64 (realBits m (x - k))) (.float .f64 4611686018427387904)).run Tryd.prog w = .ok (.float .f64 (realBits m (x - k - 1))) w) := by
        have : ∀ k : Nat, (k : Int) < x → ∀ t w, (binOp .quo t (.float .f64 (realBits m (x - k))) (.float .f64 4611686018427387904)).run Tryd.prog w = .ok (.float .f64 (realBits m (x - k - 1))) w := by
          intro k hk t w
          rcases hform with ⟨h1, h2⟩ | ⟨h1, h2, h3, h4, h5, h6, _⟩
          · omega
          · exact run_float_arith (h := half m (x - k) h1 h3 (by omega) (by omega)) ..
        exact this
      have HTWO : Hid (∀ j : Int, x ≤ j → j < 0 → ∀ t w, (binOp .mul t (.float .f64 (realBits m j)) (.float .f64 4611686018427387904)).run Tryd.prog w = .ok (.float .f64 (realBits m (j + 1))) w) := by
        have : ∀ j : Int, x ≤ j → j < 0 → ∀ t w, (binOp .mul t (.float .f64 (realBits m j)) (.float .f64 4611686018427387904)).run Tryd.prog w = .ok (.float .f64 (realBits m (j + 1))) w := by
          intro j hj hj0 t w
          rcases hform with ⟨h1, h2⟩ | ⟨h1, h2, h3, h4, h5, h6, _⟩
          · omega
          · have := log2_le h1 h3
            exact run_float_arith (h := times_two m j h1 h3 (by omega) (by omega)) ..
        exact this
      have HSELF : Hid ((FloatKind.f64.format.order (realBits m 0) (realBits m 0) == some Ordering.eq) = true) := by
        have : (Ieee.double.order (realBits m 0) (realBits m 0) == some Ordering.eq) = true := by
          rcases hform with ⟨h1, h2⟩ | ⟨h1, h2, h3, h4, h5, h6, _⟩
          · rw [h1]; decide
          · have := log2_le h1 h3
            exact real_self m 0 h1 h3 (by omega) (by omega)
        exact this
      have HOI := Lib.hid (of_int m)
      have f1 : decide ((m : Int) < 9007199254740992) = true := by rw [decide_eq_true_eq]; omega
      have f1' : decide (m < 9007199254740992) = true := by rw [decide_eq_true_eq]; omega
      have f3 : decide (-1074 ≤ x) = true := by rw [decide_eq_true_eq]; omega
      have f4 : decide (x ≤ 1023) = true := by rw [decide_eq_true_eq]; omega
      have hxb : -1074 ≤ x ∧ x ≤ 1023 := by omega
      have hw : (m = 0 ∧ x = 0) ∨ (m % 2 = 1 ∧ x ≤ 970) ∨ (m % 2 = 1 ∧ 970 < x ∧ m / 2 ^ (1024 - x).toNat = 0) := by
        rcases hform with h | ⟨h1, h2, h3, h4, h5, h6, h7⟩
        · exact .inl h
        · rcases Int.lt_or_le 970 x with h | h
          · exact .inr (.inr ⟨h2, h, h7 h⟩)
          · exact .inr (.inl ⟨h2, h⟩)
      clear hs hall hC hform cc hr4 hb4
      rcases hw with ⟨h1, h2⟩ | ⟨h1, h2⟩ | ⟨h1, h2, h3⟩
      · have f2 : ((m : Int) % 2 == 1) = false := by rw [beq_eq_false_iff_ne]; omega
        have f5 : ((m : Int) == 0) = true := by rw [beq_iff_eq]; omega
        have f5' : (m == 0) = true := by rw [beq_iff_eq]; omega
        have f6 : (x == 0) = true := by rw [beq_iff_eq]; omega
        have f7 : decide (970 < x) = false := by rw [decide_eq_false_iff_not]; omega
        clear h1 h2 hxb
        go_upto_region 15 with (fail)
        clear f1 f1' f2 f3 f4 f5 f5' f6 f7
        go_wp2_with fail
        go_loop [10, 11] (fun v i => ∃ k : Nat, k ≤ x.toNat ∧ i = .int .i64 k ∧ v = .float .f64 (realBits m (x - k))) (fun _ i => x.toNat - (intOf i).toNat)
        case atStart => exact ⟨0, Nat.zero_le _, rfl, by simp⟩
        case round =>
          obtain ⟨k, hk, rfl, rfl⟩ := hrel
          rcases Int.lt_or_le (k : Int) x with hlt | hge
          · have hq := HHALF.out k hlt
            obtain ⟨r0, hr0⟩ : ∃ r0, r0 = realBits m (x - k) := ⟨_, rfl⟩
            obtain ⟨r1, hr1⟩ : ∃ r1, r1 = realBits m (x - k - 1) := ⟨_, rfl⟩
            rw [← hr0, ← hr1] at hq
            rw [← hr0]
            have HR1 := Lib.hid hr1
            clear hr0 hr1
            go_wp2_with fail
            go_round
            case rel => exact ⟨k + 1, by omega, by go_num, by rw [HR1.out, show x - ((k + 1 : Nat) : Int) = x - k - 1 by omega]⟩
            case measure => simp [intOf]; omega
          · obtain ⟨r0, hr0⟩ : ∃ r0, r0 = realBits m (x - k) := ⟨_, rfl⟩
            rw [← hr0]
            have HR0 : Hid (r0 = realBits m (if x < 0 then x else 0)) := by
              have : r0 = realBits m (if x < 0 then x else 0) := by
                rw [hr0]
                congr 1
                split <;> omega
              exact this
            clear hr0
            go_wp2_with fail
            go_loop [10, 12] (fun v i => ∃ j : Int, x ≤ j ∧ j ≤ 9223372036854775807 ∧ (j ≤ 0 ∨ j = x) ∧ i = .int .i64 j ∧ v = .float .f64 (realBits m (if j < 0 then j else 0))) (fun _ i => (-(intOf i)).toNat)
            case atStart => exact ⟨x, Int.le_refl _, hx2, .inr rfl, rfl, by rw [HR0.out]⟩
            case round =>
              obtain ⟨j, hj, hj2, hj3, rfl, rfl⟩ := hrel
              rcases Int.lt_or_le j 0 with hlt | hge2
              · have hq := HTWO.out j hj hlt
                rw [if_pos hlt]
                obtain ⟨r2, hr2⟩ : ∃ r2, r2 = realBits m j := ⟨_, rfl⟩
                obtain ⟨r3, hr3⟩ : ∃ r3, r3 = realBits m (j + 1) := ⟨_, rfl⟩
                rw [← hr2, ← hr3] at hq
                rw [← hr2]
                have HR3 := Lib.hid hr3
                clear hr2 hr3
                go_wp2_with fail
                go_round
                case rel => exact ⟨j + 1, by omega, by omega, by omega, by go_num, by rw [HR3.out]; congr 2; split <;> omega⟩
                case measure => simp [intOf]; omega
              · rw [if_neg (by omega)]
                have hoi := HOI.out
                have hse := HSELF.out
                obtain ⟨r2, hr2⟩ : ∃ r2, r2 = realBits m 0 := ⟨_, rfl⟩
                rw [← hr2] at hoi hse ⊢
                clear hr2
                go_wp2_with fail
                go_ret
                exact ⟨by first | rfl | simp_all, HB4.out⟩
      · have f2 : ((m : Int) % 2 == 1) = true := by rw [beq_iff_eq]; omega
        have f7 : decide (970 < x) = false := by rw [decide_eq_false_iff_not]; omega
        clear h1 h2 hxb
        go_upto_region 15 with (fail)
        clear f1 f1' f2 f3 f4 f7
        go_wp2_with fail
        go_loop [10, 11] (fun v i => ∃ k : Nat, k ≤ x.toNat ∧ i = .int .i64 k ∧ v = .float .f64 (realBits m (x - k))) (fun _ i => x.toNat - (intOf i).toNat)
        case atStart => exact ⟨0, Nat.zero_le _, rfl, by simp⟩
        case round =>
          obtain ⟨k, hk, rfl, rfl⟩ := hrel
          rcases Int.lt_or_le (k : Int) x with hlt | hge
          · have hq := HHALF.out k hlt
            obtain ⟨r0, hr0⟩ : ∃ r0, r0 = realBits m (x - k) := ⟨_, rfl⟩
            obtain ⟨r1, hr1⟩ : ∃ r1, r1 = realBits m (x - k - 1) := ⟨_, rfl⟩
            rw [← hr0, ← hr1] at hq
            rw [← hr0]
            have HR1 := Lib.hid hr1
            clear hr0 hr1
            go_wp2_with fail
            go_round
            case rel => exact ⟨k + 1, by omega, by go_num, by rw [HR1.out, show x - ((k + 1 : Nat) : Int) = x - k - 1 by omega]⟩
            case measure => simp [intOf]; omega
          · obtain ⟨r0, hr0⟩ : ∃ r0, r0 = realBits m (x - k) := ⟨_, rfl⟩
            rw [← hr0]
            have HR0 : Hid (r0 = realBits m (if x < 0 then x else 0)) := by
              have : r0 = realBits m (if x < 0 then x else 0) := by
                rw [hr0]
                congr 1
                split <;> omega
              exact this
            clear hr0
            go_wp2_with fail
            go_loop [10, 12] (fun v i => ∃ j : Int, x ≤ j ∧ j ≤ 9223372036854775807 ∧ (j ≤ 0 ∨ j = x) ∧ i = .int .i64 j ∧ v = .float .f64 (realBits m (if j < 0 then j else 0))) (fun _ i => (-(intOf i)).toNat)
            case atStart => exact ⟨x, Int.le_refl _, hx2, .inr rfl, rfl, by rw [HR0.out]⟩
            case round =>
              obtain ⟨j, hj, hj2, hj3, rfl, rfl⟩ := hrel
              rcases Int.lt_or_le j 0 with hlt | hge2
              · have hq := HTWO.out j hj hlt
                rw [if_pos hlt]
                obtain ⟨r2, hr2⟩ : ∃ r2, r2 = realBits m j := ⟨_, rfl⟩
                obtain ⟨r3, hr3⟩ : ∃ r3, r3 = realBits m (j + 1) := ⟨_, rfl⟩
                rw [← hr2, ← hr3] at hq
                rw [← hr2]
                have HR3 := Lib.hid hr3
                clear hr2 hr3
                go_wp2_with fail
                go_round
                case rel => exact ⟨j + 1, by omega, by omega, by omega, by go_num, by rw [HR3.out]; congr 2; split <;> omega⟩
                case measure => simp [intOf]; omega
              · rw [if_neg (by omega)]
                have hoi := HOI.out
                have hse := HSELF.out
                obtain ⟨r2, hr2⟩ : ∃ r2, r2 = realBits m 0 := ⟨_, rfl⟩
                rw [← hr2] at hoi hse ⊢
                clear hr2
                go_wp2_with fail
                go_ret
                exact ⟨by first | rfl | simp_all, HB4.out⟩
      · have f2 : ((m : Int) % 2 == 1) = true := by rw [beq_iff_eq]; omega
        have f7 : decide (970 < x) = true := by rw [decide_eq_true_eq]; omega
        have f6 : ((m : Int) / 2 ^ (1024 - x).toNat != 0) = false := by
          have e : (m : Int) / 2 ^ (1024 - x).toNat = ((m / 2 ^ (1024 - x).toNat : Nat) : Int) := by rw [Int.natCast_ediv, Int.natCast_pow]; rfl
          rw [e, h3]; rfl
        have c1 : IntKind.u64.wrap (1024 - x) = 1024 - x := by rw [IntKind.wrap_u64]; omega
        have c2 : IntKind.i64.wrap (1024 - x) = 1024 - x := by rw [IntKind.wrap_i64]; omega
        have hxb1 := hxb.2
        clear h1 h3 hxb
        go_upto_region 15 with (fail)
        clear f1 f1' f2 f3 f4 f7 f6 c1 c2 hxb1
        go_wp2_with fail
        go_loop [10, 11] (fun v i => ∃ k : Nat, k ≤ x.toNat ∧ i = .int .i64 k ∧ v = .float .f64 (realBits m (x - k))) (fun _ i => x.toNat - (intOf i).toNat)
        case atStart => exact ⟨0, Nat.zero_le _, rfl, by simp⟩
        case round =>
          obtain ⟨k, hk, rfl, rfl⟩ := hrel
          rcases Int.lt_or_le (k : Int) x with hlt | hge
          · have hq := HHALF.out k hlt
            obtain ⟨r0, hr0⟩ : ∃ r0, r0 = realBits m (x - k) := ⟨_, rfl⟩
            obtain ⟨r1, hr1⟩ : ∃ r1, r1 = realBits m (x - k - 1) := ⟨_, rfl⟩
            rw [← hr0, ← hr1] at hq
            rw [← hr0]
            have HR1 := Lib.hid hr1
            clear hr0 hr1
            go_wp2_with fail
            go_round
            case rel => exact ⟨k + 1, by omega, by go_num, by rw [HR1.out, show x - ((k + 1 : Nat) : Int) = x - k - 1 by omega]⟩
            case measure => simp [intOf]; omega
          · obtain ⟨r0, hr0⟩ : ∃ r0, r0 = realBits m (x - k) := ⟨_, rfl⟩
            rw [← hr0]
            have HR0 : Hid (r0 = realBits m (if x < 0 then x else 0)) := by
              have : r0 = realBits m (if x < 0 then x else 0) := by
                rw [hr0]
                congr 1
                split <;> omega
              exact this
            clear hr0
            go_wp2_with fail
            go_loop [10, 12] (fun v i => ∃ j : Int, x ≤ j ∧ j ≤ 9223372036854775807 ∧ (j ≤ 0 ∨ j = x) ∧ i = .int .i64 j ∧ v = .float .f64 (realBits m (if j < 0 then j else 0))) (fun _ i => (-(intOf i)).toNat)
            case atStart => exact ⟨x, Int.le_refl _, hx2, .inr rfl, rfl, by rw [HR0.out]⟩
            case round =>
              obtain ⟨j, hj, hj2, hj3, rfl, rfl⟩ := hrel
              rcases Int.lt_or_le j 0 with hlt | hge2
              · have hq := HTWO.out j hj hlt
                rw [if_pos hlt]
                obtain ⟨r2, hr2⟩ : ∃ r2, r2 = realBits m j := ⟨_, rfl⟩
                obtain ⟨r3, hr3⟩ : ∃ r3, r3 = realBits m (j + 1) := ⟨_, rfl⟩
                rw [← hr2, ← hr3] at hq
                rw [← hr2]
                have HR3 := Lib.hid hr3
                clear hr2 hr3
                go_wp2_with fail
                go_round
                case rel => exact ⟨j + 1, by omega, by omega, by omega, by go_num, by rw [HR3.out]; congr 2; split <;> omega⟩
                case measure => simp [intOf]; omega
              · rw [if_neg (by omega)]
                have hoi := HOI.out
                have hse := HSELF.out
                obtain ⟨r2, hr2⟩ : ∃ r2, r2 = realBits m 0 := ⟨_, rfl⟩
                rw [← hr2] at hoi hse ⊢
                clear hr2
                go_wp2_with fail
                go_ret
                exact ⟨by first | rfl | simp_all, HB4.out⟩
    · have hall := HALL.out
      rw [if_neg hC] at hall
      refine (Scan_bad _ _ _ _ w3 HT3.out (HG.out.below HB3.out (Nat.le_refl _)) [] [] _ hall (by simp) (by simp)).mono ?_
      rintro e w4 ⟨rfl, hb4⟩
      have HB4 := Lib.hid (HB3.out.trans (hb4.mono HB3.out.size))
      have hno := form_no HMM.out hC
      clear hall hC hb4
      rcases hno with h1 | ⟨h1, h2⟩ | ⟨h1, h2, h3⟩ | ⟨h1, h2, h3, h4, h5⟩ | ⟨rfl, h2, h3, h4⟩ | ⟨h1, h2, h3, h4, h5⟩
      · have f1 : decide ((m : Int) < 9007199254740992) = false := by rw [decide_eq_false_iff_not]; omega
        have f1' : decide (m < 9007199254740992) = false := by rw [decide_eq_false_iff_not]; omega
        clear h1
        go_wp2_with fail
        go_ret
        exact ⟨rfl, HB4.out⟩
      · have f1 : decide ((m : Int) < 9007199254740992) = true := by rw [decide_eq_true_eq]; omega
        have f1' : decide (m < 9007199254740992) = true := by rw [decide_eq_true_eq]; omega
        have f2 : decide (-1074 ≤ x) = false := by rw [decide_eq_false_iff_not]; omega
        clear h1 h2
        go_wp2_with fail
        go_ret
        exact ⟨rfl, HB4.out⟩
      · have f1 : decide ((m : Int) < 9007199254740992) = true := by rw [decide_eq_true_eq]; omega
        have f1' : decide (m < 9007199254740992) = true := by rw [decide_eq_true_eq]; omega
        have f2 : decide (-1074 ≤ x) = true := by rw [decide_eq_true_eq]; omega
        have f3 : decide (x ≤ 1023) = false := by rw [decide_eq_false_iff_not]; omega
        clear h1 h2 h3
        go_wp2_with fail
        go_ret
        exact ⟨rfl, HB4.out⟩
      · have f1 : (m : Int) < 9007199254740992 := by omega
        have f2 : ((m : Int) % 2 == 1) = false := by rw [beq_eq_false_iff_ne]; omega
        have f3 : ((m : Int) == 0) = false := by rw [beq_eq_false_iff_ne]; omega
        have f4 : (m == 0) = false := by rw [beq_eq_false_iff_ne]; omega
        go_wp2_with fail
        go_ret
        exact ⟨rfl, HB4.out⟩
      · have f3 : (x == 0) = false := by rw [beq_eq_false_iff_ne]; exact h4
        go_wp2_with fail
        go_ret
        exact ⟨rfl, HB4.out⟩
      · have f1 : decide ((m : Int) < 9007199254740992) = true := by rw [decide_eq_true_eq]; omega
        have f1' : decide (m < 9007199254740992) = true := by rw [decide_eq_true_eq]; omega
        have f2 : ((m : Int) % 2 == 1) = true := by rw [beq_iff_eq]; omega
        have f2' : (m % 2 == 1) = true := by rw [beq_iff_eq]; omega
        have f3 : decide (-1074 ≤ x) = true := by rw [decide_eq_true_eq]; omega
        have f4 : decide (x ≤ 1023) = true := by rw [decide_eq_true_eq]; omega
        have f5 : decide (970 < x) = true := by rw [decide_eq_true_eq]; omega
        obtain ⟨q, hq⟩ : ∃ q : Nat, q = m / 2 ^ (1024 - x).toNat := ⟨_, rfl⟩
        rw [← hq] at h5
        have f6 : ((m : Int) / 2 ^ (1024 - x).toNat != 0) = true := by
          have e : (m : Int) / 2 ^ (1024 - x).toNat = (q : Int) := by rw [hq, Int.natCast_ediv, Int.natCast_pow]; rfl
          rw [e, bne_iff_ne]; omega
        have c1 : IntKind.u64.wrap (1024 - x) = 1024 - x := by rw [IntKind.wrap_u64]; omega
        have c2 : IntKind.i64.wrap (1024 - x) = 1024 - x := by rw [IntKind.wrap_i64]; omega
        have c3 : 0 ≤ 1024 - x := by omega
        clear h1 h4 h5 hq
        go_upto_region 9 with (fail)
        go_wp2_with fail
        go_ret
        exact ⟨rfl, HB4.out⟩
end Go.Proofs.YtiemifaiamcklaaDoor
