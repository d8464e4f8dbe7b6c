/- A real doubled, and times 1 and -1. -/
import Derived.Test.YtofjbakepneilaaGreatDoorRealsPlain
import Derived.Test.YtofjbakepneilaaGreatDoorMWNeg
import Derived.Laws.FloatArith
import Derived.Test.YtofjbakepneilaaGreatDoorMVRead2
import Derived.Test.YtofjbakepneilaaGreatDoorMWPlain
import Derived.Test.YtofjbakepneilaaGreatDoorQuoteLex
namespace Go.Proofs.YtofjbakepneilaaGreatDoor
open Go.RowKit
set_option maxRecDepth 100000

theorem read_inf0 : Ieee.double.read 9218868437227405312 = .infinity false := by decide
/-- past the greatest, a real is infinite -/
theorem real_inf (m : Nat) (e : Int) (h : 0 < m) (h2 : m < 9007199254740992) (he : -1074 ≤ e) (hf : ¬ ((m.log2 : Int) + 1 + e ≤ 1024)) : realBits m e = 9218868437227405312 := by
  have h0 := nearest_scale m 0 e h h2 he
  rw [Nat.pow_zero, Nat.mul_one, show e - ((0 : Nat) : Int) = e by omega] at h0
  have hre : realBits m e = Ieee.double.nearest false m e := by unfold realBits; rw [Int.toNat_natCast]
  have hk2 := log2_le h h2
  obtain ⟨b1, b2⟩ := scaled_bounds h rfl hk2
  have hl : lastP m e = e + (m.log2 : Int) - 52 := by unfold lastP; omega
  rw [hre, h0, hl, show (e - (e + (m.log2 : Int) - 52)).toNat = 52 - m.log2 by omega]
  obtain ⟨L, hL⟩ : ∃ L : Nat, (e + (m.log2 : Int) - 52 + 1074).toNat = L ∧ 2046 ≤ L := ⟨_, rfl, by omega⟩
  rw [hL.1]
  refine Nat.min_eq_right ?_
  have := Nat.mul_le_mul_right 4503599627370496 hL.2
  omega
theorem inf_two : floatBits .mul .f64 9218868437227405312 4611686018427387904 = some 9218868437227405312 := by decide
theorem twice (m : Nat) (e : Int) (h : 0 < m) (h2 : m < 9007199254740992) (he : -1074 ≤ e) : floatBits .mul .f64 (realBits m e) 4611686018427387904 = some (realBits m (e + 1)) := by
  by_cases hf : (m.log2 : Int) + 1 + e ≤ 1024
  · exact times_two m e h h2 he hf
  · rw [real_inf m e h h2 he hf, real_inf m (e + 1) h h2 (by omega) (by omega), inf_two]

theorem zero_two : floatBits .mul .f64 0 4611686018427387904 = some 0 := by decide
theorem zero_half : floatBits .quo .f64 0 4611686018427387904 = some 0 := by decide
theorem read_minus : Ieee.double.read 13830554455654793216 = .number true 4503599627370496 (-52) := by
  have e := read_neg 1023 0 (by omega) (by omega) (by omega)
  rw [show 9223372036854775808 + (1023 * 4503599627370496 + 0) = 13830554455654793216 from by decide] at e
  rw [e]; rfl
theorem real_zero1 (e : Int) : realBits 0 e = 0 := by
  unfold realBits Ieee.Format.nearest
  rw [if_pos (by decide)]
  rfl
theorem real_zeroN (e : Int) : realBits ((0 : Nat) : Int) e = 0 := real_zero1 e
/-- a number times 1 -/
theorem mul_one (m : Nat) (e : Int) (h2 : m < 9007199254740992) (he : -1074 ≤ e) : floatBits .mul .f64 4607182418800017408 (realBits m e) = some (realBits m e) := by
  rcases Nat.eq_zero_or_pos m with rfl | h
  · rw [real_zeroN]; decide
  · by_cases hf : (m.log2 : Int) + 1 + e ≤ 1024
    · obtain ⟨_, s, hs, hr⟩ := read_real m e h h2 he hf
      show Ieee.Format.mul Ieee.double _ _ = _
      unfold Ieee.Format.mul
      rw [hr, read_one]
      show some (Ieee.double.nearest (false ^^ false) (4503599627370496 * (m * 2 ^ s)) (-52 + (e - s))) = _
      rw [p52, Nat.mul_comm (2 ^ 52), Nat.mul_assoc, ← Nat.pow_add, show (-52 : Int) + (e - (s : Int)) = e - ((s + 52 : Nat) : Int) by omega]
      exact congrArg some (real_scale m (s + 52) e h h2 he)
    · rw [real_inf m e h h2 he hf]; decide
/-- a number times -1 -/
theorem mul_minus (m : Nat) (e : Int) (h2 : m < 9007199254740992) (he : -1074 ≤ e) : floatBits .mul .f64 13830554455654793216 (realBits m e) = some (9223372036854775808 + realBits m e) := by
  rcases Nat.eq_zero_or_pos m with rfl | h
  · rw [real_zeroN]; decide
  · by_cases hf : (m.log2 : Int) + 1 + e ≤ 1024
    · obtain ⟨_, s, hs, hr⟩ := read_real m e h h2 he hf
      show Ieee.Format.mul Ieee.double _ _ = _
      unfold Ieee.Format.mul
      rw [hr, read_minus]
      show some (Ieee.double.nearest (true ^^ false) (4503599627370496 * (m * 2 ^ s)) (-52 + (e - s))) = _
      rw [p52, Nat.mul_comm (2 ^ 52), Nat.mul_assoc, ← Nat.pow_add, show (-52 : Int) + (e - (s : Int)) = e - ((s + 52 : Nat) : Int) by omega, show (true ^^ false) = true from rfl, nearest_neg]
      exact congrArg (fun x => some (9223372036854775808 + x)) (real_scale m (s + 52) e h h2 he)
    · rw [real_inf m e h h2 he hf]; decide
theorem inf_one : floatBits .mul .f64 4607182418800017408 9218868437227405312 = some 9218868437227405312 := by decide
theorem inf_minus : floatBits .mul .f64 13830554455654793216 9218868437227405312 = some 18442240474082181120 := by decide
end Go.Proofs.YtofjbakepneilaaGreatDoor
/- The reference's readings of numbers, plain. -/
namespace Go.Proofs.YtofjbakepneilaaGreatDoor
open Go.RowKit
set_option maxRecDepth 100000

/-- a numeral, digit by digit -/
def numR : Nat → List UInt8 → Option Nat
  | acc, [] => some acc
  | acc, c :: r => if c.toNat < 48 ∨ 57 < c.toNat ∨ 1844674407370955161 < acc ∨ (acc = 1844674407370955161 ∧ 53 < c.toNat) then none else numR (acc * 10 + (c.toNat - 48)) r
def numQ (l : List UInt8) : Option Nat := if l = [] then none else numR 0 l
theorem numR_lt : ∀ (l : List UInt8) (acc n : Nat), acc < 18446744073709551616 → numR acc l = some n → n < 18446744073709551616
  | [], acc, n, h, e => by
    have := Option.some.inj e
    omega
  | c :: r, acc, n, h, e => by
    unfold numR at e
    split at e
    · cases e
    · exact numR_lt r _ n (by omega) e
theorem numQ_lt {l : List UInt8} {n : Nat} (h : numQ l = some n) : n < 18446744073709551616 := by
  unfold numQ at h
  split at h
  · cases h
  · exact numR_lt l 0 n (by omega) h
theorem numR_dd : ∀ (l : List UInt8) (acc : Nat), (∀ c ∈ l, 48 ≤ c.toNat ∧ c.toNat ≤ 57) → valD acc l < 18446744073709551616 → numR acc l = some (valD acc l)
  | [], acc, _, _ => rfl
  | c :: r, acc, hd, hv => by
    have h1 := hd c (by simp)
    have h2 := valD_le r (acc * 10 + (c.toNat - 48))
    have h3 : valD acc (c :: r) = valD (acc * 10 + (c.toNat - 48)) r := rfl
    rw [h3] at hv
    unfold numR
    rw [if_neg (by omega), numR_dd r _ (fun x hx => hd x (List.mem_cons_of_mem _ hx)) hv, h3]
theorem numQ_dd (n : Nat) (h : n < 18446744073709551616) : numQ (Lib.decDigits n) = some n := by
  unfold numQ
  rw [if_neg (dd_ne n), numR_dd _ 0 (dd_digit n) (by rw [dd_val]; exact h), dd_val]
theorem numR_bad : ∀ (l : List UInt8) (acc : Nat) (c : UInt8), c ∈ l → (c.toNat < 48 ∨ 57 < c.toNat) → numR acc l = none
  | [], _, _, h, _ => by cases h
  | a :: r, acc, c, h, hc => by
    unfold numR
    split
    · rfl
    · rcases List.mem_cons.1 h with rfl | h
      · omega
      · exact numR_bad r _ c h hc
theorem numQ_bad (l : List UInt8) (c : UInt8) (h : c ∈ l) (hc : c.toNat < 48 ∨ 57 < c.toNat) : numQ l = none := by
  unfold numQ
  rw [if_neg (by rintro rfl; cases h), numR_bad l 0 c h hc]
theorem numQ_nil : numQ [] = none := rfl

/-- the two numbers of a real -/
def wM (sg : Nat) (dn : Bool) : Option Nat → Option Nat → Option Nat
  | some m, some e => if 9007199254740992 ≤ m ∨ 1074 < e then none else some (sg + realBits m (if dn = true then -(e : Int) else e))
  | _, _ => none
theorem wM_some (sg : Nat) (dn : Bool) (m e : Nat) : wM sg dn (some m) (some e) = if 9007199254740992 ≤ m ∨ 1074 < e then none else some (sg + realBits m (if dn = true then -(e : Int) else e)) := rfl
/-- a real's text behind the sign, as the reference reads it -/
def wG (sg : Nat) (t : List UInt8) : Option Nat :=
  if t = [105, 110, 102] then some (sg + 9218868437227405312) else
  if Lib.indexByte t 112 < 0 then none else
  wM sg (decide (bAt (t.drop ((Lib.indexByte t 112).toNat + 1)) 0 = 45)) (numQ (t.take (Lib.indexByte t 112).toNat)) (numQ (if bAt (t.drop ((Lib.indexByte t 112).toNat + 1)) 0 = 45 then (t.drop ((Lib.indexByte t 112).toNat + 1)).drop 1 else t.drop ((Lib.indexByte t 112).toNat + 1)))
/-- a real's text, as the reference reads it -/
def wF (l : List UInt8) : Option Nat := if l = [110, 97, 110] then some 9221120237041090561 else if bAt l 0 = 45 then wG 9223372036854775808 (l.drop 1) else wG 0 l
theorem wF_eq (l : List UInt8) : wF l = if l = [110, 97, 110] then some 9221120237041090561 else if bAt l 0 = 45 then wG 9223372036854775808 (l.drop 1) else wG 0 l := rfl
theorem wG_num (sg m : Nat) (E : Int) (h2 : m < 9007199254740992) (he : -1074 ≤ E) (he2 : E ≤ 1074) : wG sg (Lib.decDigits m ++ 112 :: Lib.itoa E) = some (sg + realBits m E) := by
  unfold wG
  have hne : Lib.decDigits m ++ 112 :: Lib.itoa E ≠ [105, 110, 102] := by
    intro e
    obtain ⟨c, r, hcr⟩ : ∃ c r, Lib.decDigits m = c :: r := by
      cases hx : Lib.decDigits m with
      | nil => exact absurd hx (dd_ne m)
      | cons c r => exact ⟨c, r, rfl⟩
    have hc := dd_digit m c (by rw [hcr]; simp)
    rw [hcr, List.cons_append] at e
    have h1 := (List.cons.inj e).1
    rw [h1] at hc
    exact absurd hc (by decide)
  rw [if_neg hne, index_digits _ _ (dd_digit m), if_neg (by omega)]
  have e1 : (((Lib.decDigits m).length : Int)).toNat = (Lib.decDigits m).length := by omega
  rw [e1, List.take_left' rfl, numQ_dd m (by omega)]
  have e2 : (Lib.decDigits m ++ 112 :: Lib.itoa E).drop ((Lib.decDigits m).length + 1) = Lib.itoa E := by
    rw [List.drop_append]
    simp
  rw [e2]
  rcases Int.lt_or_le E 0 with h | h
  · obtain ⟨u, rfl⟩ : ∃ u : Nat, E = -(u : Int) := ⟨E.natAbs, by omega⟩
    rw [Lib.itoa_neg u (by omega)]
    have e3 : bAt (45 :: Lib.decDigits u) 0 = 45 := rfl
    rw [if_pos e3, List.drop_one, List.tail_cons, numQ_dd u (by omega), decide_eq_true e3]
    rw [wM_some]
    rw [if_neg (by omega), if_pos rfl]
  · obtain ⟨u, rfl⟩ := Int.eq_ofNat_of_zero_le h
    rw [Lib.itoa_nonneg]
    rw [if_neg (dd_first u), numQ_dd u (by omega), decide_eq_false (dd_first u)]
    rw [wM_some]
    rw [if_neg (by omega), if_neg (by decide)]
theorem magL_w (sg b : Nat) (h : b ≤ 9218868437227405312) : wG sg (magL b) = some (sg + b) := by
  unfold magL
  by_cases h1 : b = 9218868437227405312
  · rw [if_pos h1, h1]
    unfold wG
    rw [if_pos rfl]
  · rw [if_neg h1]
    by_cases h2 : b = 0
    · rw [if_pos h2, h2]
      have := wG_num sg 0 0 (by decide) (by decide) (by decide)
      have hi : Lib.itoa ((0 : Nat) : Int) = [48] := by rw [Lib.itoa_nonneg, dd0]
      have hi0 : Lib.itoa 0 = [48] := hi
      rw [real_zeroN, dd0, hi0] at this
      exact this
    · rw [if_neg h2]
      obtain ⟨m, hm, m0, m2, e0, ef, hw⟩ := word_back b (by omega) (by omega)
      rw [← hm, wG_num sg m (oddE b) m2 e0 (by omega), hw]
/-- a real's text is read as that real -/
theorem wF_real (b : Nat) (hb : b < 18446744073709551616) : ∃ r, wF (realT b).data.toList = some r ∧ Like r b ∧ r < 18446744073709551616 := by
  rw [realT_list hb, wF_eq]
  simp only
  cases hn : nanB b with
  | true =>
    rw [if_pos rfl, if_pos rfl]
    exact ⟨_, rfl, .inr ⟨by decide, hn⟩, by decide⟩
  | false =>
    have hr : b % 9223372036854775808 ≤ 9218868437227405312 := by
      have h := hn
      unfold nanB rungB at h
      have := of_decide_eq_false h
      omega
    simp only [Bool.false_eq_true, if_false]
    by_cases h2 : 9223372036854775808 ≤ b
    · rw [if_pos h2, if_neg (show ¬ (45 :: magL (b - 9223372036854775808)) = [110, 97, 110] from fun e => absurd (List.cons.inj e).1 (by decide)), if_pos (show bAt (45 :: magL (b - 9223372036854775808)) 0 = 45 from rfl), List.drop_one, List.tail_cons, magL_w _ _ (by omega)]
      exact ⟨_, rfl, .inl (by omega), by omega⟩
    · rw [if_neg h2]
      obtain ⟨c, l, e, hc, _⟩ := magL_head b (by omega)
      have hnan : magL b ≠ [110, 97, 110] := by
        rw [e]
        intro e2
        have := (List.cons.inj e2).1
        rw [this] at hc
        rcases hc with h | h
        · exact absurd h (by decide)
        · exact absurd h (by decide)
      have h45 : ¬ bAt (magL b) 0 = 45 := by
        rw [e]
        show ¬ c = 45
        rintro rfl
        rcases hc with h | h
        · exact absurd h (by decide)
        · exact absurd h (by decide)
      rw [if_neg hnan, if_neg h45, magL_w _ _ (by omega)]
      exact ⟨_, rfl, .inl (by omega), by omega⟩
end Go.Proofs.YtofjbakepneilaaGreatDoor
/- The reference's numerals. -/
namespace Go.Proofs.YtofjbakepneilaaGreatDoor
open Go.RowKit Go.Shelf
set_option maxRecDepth 100000

def numV (o : Option Nat) : Value := .tuple #[.int .u64 ((o.getD 0 : Nat) : Int), .bool o.isSome]
theorem numR_step {acc : Nat} {c : UInt8} {r : List UInt8} (h1 : ¬ c.toNat < 48) (h2 : ¬ 57 < c.toNat) (h3 : ¬ 1844674407370955161 < acc) (h4 : ¬ (acc = 1844674407370955161 ∧ 53 < c.toNat)) : numR acc (c :: r) = numR (acc * 10 + (c.toNat - 48)) r := by
  conv => lhs; unfold numR
  rw [if_neg (by omega)]
theorem numR_stop {acc : Nat} {c : UInt8} {r : List UInt8} (h : c.toNat < 48 ∨ 57 < c.toNat ∨ 1844674407370955161 < acc ∨ (acc = 1844674407370955161 ∧ 53 < c.toNat)) : numR acc (c :: r) = none := by
  unfold numR
  rw [if_pos h]
theorem bAt_get {s : ByteArray} {i : Nat} (h : i < s.size) : bAt s.data.toList i = s[i]'h := by
  unfold bAt
  rw [List.getElem?_eq_getElem (show i < s.data.toList.length from h)]
  rfl
theorem tl_data (s : ByteArray) : s.toList = s.data.toList := by
  cases s with
  | mk d => rw [← Array.toArray_toList (xs := d), ByteArray.toList_mk]
theorem number_any (s : ByteArray) (hs : s.size ≤ 140737488355328) (w : World) :
    Calls Tryz.prog 45 #[.string s] w fun e w' => e = .returned (numV (numQ s.data.toList)) ∧ w = w' := by
  have hsz : s.data.toList.length = s.size := rfl
  by_cases h0 : s.toList = []
  · have e0 : s.data.toList = [] := by rw [← h0]; exact (tl_data s).symm
    have h0' : (s.toList == []) = true := by rw [h0]; rfl
    rw [e0]
    clear h0 e0
    go_enter Tryz.func45, Tryz.ntmps45
    go_wp2
    go_ret2
    exact ⟨rfl, rfl⟩
  · have h0' : (s.toList == []) = false := beq_eq_false_iff_ne.2 h0
    have hq : numQ s.data.toList = numR 0 s.data.toList := by
      unfold numQ
      rw [if_neg (fun e => h0 (by rw [tl_data, e]))]
    rw [hq]
    clear h0 hq
    go_enter Tryz.func45, Tryz.ntmps45
    go_wp2
    go_loop [4, 5] (fun n i => ∃ k acc : Nat, k ≤ s.size ∧ i = .int .i64 k ∧ n = .int .u64 acc ∧ acc < 18446744073709551616 ∧ numR acc (s.data.toList.drop k) = numR 0 s.data.toList) (fun _ i => s.size - (intOf i).toNat)
    case atStart => exact ⟨0, 0, Nat.zero_le _, rfl, rfl, by omega, rfl⟩
    case round =>
      obtain ⟨k, acc, hk, rfl, rfl, ha, hn⟩ := hrel
      rcases Nat.lt_or_ge k s.size with hlt | hge
      · have hd : s.data.toList.drop k = s[k]'hlt :: s.data.toList.drop (k + 1) := List.drop_eq_getElem_cons (by rw [hsz]; exact hlt)
        rw [hd] at hn
        have hcl := (s[k]'hlt).toNat_lt
        by_cases h1 : (s[k]'hlt).toNat < 48
        · rw [numR_stop (.inl h1)] at hn
          have HN := Lib.hid hn
          have d1 : decide (((s[k]'hlt).toNat : Int) < 48) = true := decide_eq_true (by omega)
          clear hn hd h1
          go_wp2
          go_ret2
          exact ⟨by rw [← HN.out]; rfl, rfl⟩
        by_cases h2 : 57 < (s[k]'hlt).toNat
        · rw [numR_stop (.inr (.inl h2))] at hn
          have HN := Lib.hid hn
          have d1 : decide (((s[k]'hlt).toNat : Int) < 48) = false := decide_eq_false (by omega)
          have d2 : decide ((57 : Int) < ((s[k]'hlt).toNat : Int)) = true := decide_eq_true (by omega)
          clear hn hd h1 h2
          go_wp2
          go_ret2
          exact ⟨by rw [← HN.out]; rfl, rfl⟩
        have d1 : decide (((s[k]'hlt).toNat : Int) < 48) = false := decide_eq_false (by omega)
        have d2 : decide ((57 : Int) < ((s[k]'hlt).toNat : Int)) = false := decide_eq_false (by omega)
        by_cases h3 : 1844674407370955161 < acc
        · rw [numR_stop (.inr (.inr (.inl h3)))] at hn
          have HN := Lib.hid hn
          have d3 : decide ((1844674407370955161 : Int) < (acc : Int)) = true := decide_eq_true (by omega)
          clear hn hd h1 h2 h3
          go_wp2
          go_ret2
          exact ⟨by rw [← HN.out]; rfl, rfl⟩
        have d3 : decide ((1844674407370955161 : Int) < (acc : Int)) = false := decide_eq_false (by omega)
        by_cases h4 : acc = 1844674407370955161
        · have d4 : ((acc : Int) == 1844674407370955161) = true := beq_iff_eq.2 (by omega)
          by_cases h5 : 53 < (s[k]'hlt).toNat
          · rw [numR_stop (.inr (.inr (.inr ⟨h4, h5⟩)))] at hn
            have HN := Lib.hid hn
            have d5 : decide ((53 : Int) < ((s[k]'hlt).toNat : Int)) = true := decide_eq_true (by omega)
            clear hn hd h1 h2 h3 h4 h5
            go_wp2
            go_ret2
            exact ⟨by rw [← HN.out]; rfl, rfl⟩
          · rw [numR_step h1 h2 h3 (by omega)] at hn
            have d5 : decide ((53 : Int) < ((s[k]'hlt).toNat : Int)) = false := decide_eq_false (by omega)
            have HN := Lib.hid hn
            have HB : Hid (acc * 10 + ((s[k]'hlt).toNat - 48) < 18446744073709551616) := Lib.hid (by omega)
            have HC : Hid (((acc * 10 + ((s[k]'hlt).toNat - 48) : Nat) : Int) = (acc : Int) * 10 + (((s[k]'hlt).toNat : Int) - 48)) := Lib.hid (by omega)
            have e1 : IntKind.u8.wrap (((s[k]'hlt).toNat : Int) - 48) = ((s[k]'hlt).toNat : Int) - 48 := by rw [IntKind.wrap_u8]; omega
            have e2 : IntKind.u64.wrap (((s[k]'hlt).toNat : Int) - 48) = ((s[k]'hlt).toNat : Int) - 48 := by rw [IntKind.wrap_u64]; omega
            have e3 : IntKind.u64.wrap ((acc : Int) * 10) = (acc : Int) * 10 := by rw [IntKind.wrap_u64]; omega
            have e4 : IntKind.u64.wrap ((acc : Int) * 10 + (((s[k]'hlt).toNat : Int) - 48)) = (acc : Int) * 10 + (((s[k]'hlt).toNat : Int) - 48) := by rw [IntKind.wrap_u64]; omega
            clear hn hd h1 h2 h3 h4 h5
            go_wp2
            go_round
            case rel => exact ⟨k + 1, _, by omega, by go_num, by rw [HC.out], HB.out, HN.out⟩
            case measure => simp [intOf]; omega
        · have d4 : ((acc : Int) == 1844674407370955161) = false := beq_eq_false_iff_ne.2 (by omega)
          rw [numR_step h1 h2 h3 (by omega)] at hn
          have HN := Lib.hid hn
          have HB : Hid (acc * 10 + ((s[k]'hlt).toNat - 48) < 18446744073709551616) := Lib.hid (by omega)
          have HC : Hid (((acc * 10 + ((s[k]'hlt).toNat - 48) : Nat) : Int) = (acc : Int) * 10 + (((s[k]'hlt).toNat : Int) - 48)) := Lib.hid (by omega)
          have e1 : IntKind.u8.wrap (((s[k]'hlt).toNat : Int) - 48) = ((s[k]'hlt).toNat : Int) - 48 := by rw [IntKind.wrap_u8]; omega
          have e2 : IntKind.u64.wrap (((s[k]'hlt).toNat : Int) - 48) = ((s[k]'hlt).toNat : Int) - 48 := by rw [IntKind.wrap_u64]; omega
          have e3 : IntKind.u64.wrap ((acc : Int) * 10) = (acc : Int) * 10 := by rw [IntKind.wrap_u64]; omega
          have e4 : IntKind.u64.wrap ((acc : Int) * 10 + (((s[k]'hlt).toNat : Int) - 48)) = (acc : Int) * 10 + (((s[k]'hlt).toNat : Int) - 48) := by rw [IntKind.wrap_u64]; omega
          clear hn hd h1 h2 h3 h4
          go_wp2
          go_round
          case rel => exact ⟨k + 1, _, by omega, by go_num, by rw [HC.out], HB.out, HN.out⟩
          case measure => simp [intOf]; omega
      · obtain rfl : k = s.size := by omega
        rw [List.drop_of_length_le (by omega)] at hn
        have HN := Lib.hid hn
        clear hn
        go_wp2
        go_ret2
        exact ⟨by rw [← HN.out]; rfl, rfl⟩
end Go.Proofs.YtofjbakepneilaaGreatDoor
/- The reference's reading of a text between quotes. -/
namespace Go.Proofs.YtofjbakepneilaaGreatDoor
open Go.RowKit Go.Shelf
set_option maxRecDepth 100000

theorem hexI_digit (k : Nat) (hk : k < 16) : hexI (hexDigit k) = k := by
  have : ∀ k : Fin 16, hexI (hexDigit k.val) = k.val := by decide +kernel
  exact this ⟨k, hk⟩
theorem hexI_back (c : UInt8) (k : Nat) (hk : k < 16) (h : hexI c = k) : hexDigit k = c := by
  have : ∀ c : UInt8, ∀ k : Fin 16, hexI c = (k.val : Int) → hexDigit k.val = c := fun c => all_u8 (fun c => ∀ k : Fin 16, hexI c = (k.val : Int) → hexDigit k.val = c) (by decide +kernel) c
  exact this c ⟨k, hk⟩ h
theorem hexI_range (c : UInt8) : -1 ≤ hexI c ∧ hexI c < 16 := all_u8 (fun c => -1 ≤ hexI c ∧ hexI c < 16) (by decide +kernel) c
set_option maxHeartbeats 1000000 in
theorem nibble_any (c : UInt8) (w : World) :
    Calls Tryz.prog 77 #[.int .u8 (c.toNat : Int)] w fun e w' => e = .returned (.int .i64 (hexI c)) ∧ w = w' := by
  obtain ⟨hr1, hr2⟩ := hexI_range c
  obtain ⟨H, hH⟩ : ∃ H, H = hexI c := ⟨_, rfl⟩
  rw [← hH] at hr1 hr2 ⊢
  have HH := Lib.hid hH
  have hc := c.toNat_lt
  clear hH
  go_enter Tryz.func77, Tryz.ntmps77
  go_wp2
  go_loop [3] (fun i => ∃ k : Nat, k ≤ 16 ∧ i = .int .i64 k ∧ Hid ((k : Int) ≤ H ∨ H = -1)) (fun i => 16 - (intOf i).toNat)
  case atStart => exact ⟨0, by omega, rfl, Lib.hid (by omega)⟩
  case round =>
    obtain ⟨k, hk, rfl, hx'⟩ := hrel
    have hx := hx'.out
    rcases Nat.lt_or_ge k 16 with hlt | hge
    · have x1 : ∀ h : k < (⟨#[48, 49, 50, 51, 52, 53, 54, 55, 56, 57, 97, 98, 99, 100, 101, 102]⟩ : ByteArray).size, (⟨#[48, 49, 50, 51, 52, 53, 54, 55, 56, 57, 97, 98, 99, 100, 101, 102]⟩ : ByteArray)[k]'h = hexDigit k := fun h => hexAt k hlt
      by_cases he : hexDigit k = c
      · have hk2 : H = k := by rw [HH.out, ← he]; exact hexI_digit k hlt
        have HK := Lib.hid hk2
        have d1 : (((hexDigit k).toNat : Int) == (c.toNat : Int)) = true := by rw [he]; simp
        clear hx hk2 he
        go_wp2
        go_ret
        exact ⟨by rw [HK.out]; rfl, rfl⟩
      · have hk2 : H ≠ k := fun h => he (hexI_back c k hlt (by rw [← HH.out]; exact h))
        have d1 : (((hexDigit k).toNat : Int) == (c.toNat : Int)) = false := beq_eq_false_iff_ne.2 (fun h => he (UInt8.toNat_inj.1 (by omega)))
        have HX : Hid (((k + 1 : Nat) : Int) ≤ H ∨ H = -1) := Lib.hid (by omega)
        clear hx hk2 he
        go_wp2
        go_round
        case rel => exact ⟨k + 1, by omega, by go_num, HX⟩
        case measure => simp [intOf]; omega
    · obtain rfl : k = 16 := by omega
      have hk2 : H = -1 := by omega
      have HK := Lib.hid hk2
      clear hx hk2
      go_wp2
      go_ret
      exact ⟨by rw [HK.out]; rfl, rfl⟩

/-- what stands between quotes, as the reference reads it -/
def uqF : Nat → List UInt8 → List UInt8 → Option (List UInt8)
  | 0, _, out => some out
  | f + 1, r, out =>
    if r.length = 0 ∨ 256 < out.length then some out
    else if bAt r 0 = 92 ∧ 1 < r.length ∧ bAt r 1 = 120 then
      if r.length < 4 ∨ hexI (bAt r 2) < 0 ∨ hexI (bAt r 3) < 0 then none
      else uqF f (r.drop 4) (out ++ [UInt8.ofNat (hexI (bAt r 2) * 16 + hexI (bAt r 3)).toNat])
    else if bAt r 0 = 92 then if r.length < 2 then none else uqF f (r.drop 2) (out ++ [bAt r 1])
    else uqF f (r.drop 1) (out ++ [bAt r 0])
def uqV : Option (List UInt8) → Value
  | none => .tuple #[.string ⟨#[]⟩, .bool false]
  | some out => .tuple #[.string ⟨out.toArray⟩, .bool (decide (out.length ≤ 256))]
theorem uq_end {f : Nat} {r out : List UInt8} (h : r.length = 0 ∨ 256 < out.length) : uqF f r out = some out := by
  cases f with
  | zero => rfl
  | succ f => rw [uqF, if_pos h]
theorem uq_quoted : ∀ (l : List UInt8) (f : Nat) (out : List UInt8), (l.flatMap qPart).length ≤ f → out.length + l.length ≤ 256 → uqF f (l.flatMap qPart) out = some (out ++ l) := by
  intro l
  induction l with
  | nil => intro f out _ _; rw [uq_end (.inl rfl)]; simp
  | cons c l ih =>
    intro f out hf ho
    have h0 : ∀ n : UInt8, n.toNat ≠ 92 → n ≠ 92 := fun n hn e => hn (by rw [e]; rfl)
    rw [List.flatMap_cons] at hf ⊢
    have hpl : 1 ≤ (qPart c).length := by unfold qPart; split <;> (try split) <;> simp
    rw [List.length_append] at hf
    simp only [List.length_cons] at ho
    obtain ⟨f', rfl⟩ : ∃ f', f = f' + 1 := ⟨f - 1, by omega⟩
    have hstep : ∀ g : Nat, (l.flatMap qPart).length ≤ g → uqF g (l.flatMap qPart) (out ++ [c]) = some (out ++ c :: l) := by
      intro g hg
      rw [ih g (out ++ [c]) hg (by simp; omega)]
      simp
    rw [uqF, if_neg (by rw [List.length_append]; omega)]
    unfold qPart
    split
    · rename_i hc
      have h120 : c ≠ 120 := by rintro rfl; exact absurd hc (by decide)
      have hq : (qPart c).length = 2 := by unfold qPart; rw [if_pos hc]; rfl
      rw [if_neg (by simp [bAt, h120]), if_pos (by simp [bAt]), if_neg (by simp)]
      exact hstep f' (by omega)
    · split
      · rename_i hc hc2
        have h92 : c ≠ 92 := h0 c (fun e => hc (.inr e))
        have hq : (qPart c).length = 1 := by unfold qPart; rw [if_neg hc, if_pos hc2]; rfl
        rw [if_neg (by simp [bAt, h92]), if_neg (by simp [bAt, h92])]
        exact hstep f' (by omega)
      · rename_i hc hc2
        have hq : (qPart c).length = 4 := by unfold qPart; rw [if_neg hc, if_neg hc2]; rfl
        have hlt := c.toNat_lt
        have e1 := hexI_digit (c.toNat / 16) (by omega)
        have e2 := hexI_digit (c.toNat % 16) (by omega)
        have e : UInt8.ofNat (hexI (hexDigit (c.toNat / 16)) * 16 + hexI (hexDigit (c.toNat % 16))).toNat = c := by
          rw [e1, e2, show (((c.toNat / 16 : Nat) : Int) * 16 + ((c.toNat % 16 : Nat) : Int)).toNat = c.toNat by omega]
          exact UInt8.ofNat_toNat
        rw [if_pos (by simp [bAt]), if_neg (by simp [bAt, e1, e2]; omega)]
        have hs := hstep f' (by omega)
        simp only [bAt, List.cons_append, List.nil_append, List.getElem?_cons_succ, List.getElem?_cons_zero, Option.getD_some, List.drop_succ_cons, List.drop_zero]
        rw [e]
        exact hs
end Go.Proofs.YtofjbakepneilaaGreatDoor
/- The walk of the reference's unquoted. -/
namespace Go.Proofs.YtofjbakepneilaaGreatDoor
open Go.RowKit Go.Shelf
set_option maxRecDepth 100000

def UqRel (w : World) (L : List UInt8) (N : Nat) (U : Option (List UInt8)) (q i : Value) (wr : World) : Prop :=
  ∃ (sa : Option Addr) (sc k f : Nat) (out : List UInt8), q = .slice sa out.length sc ∧ i = .int .i64 k ∧ wr.ownsRow w.heap.size 5 1 (.slice sa out.length sc) out.length (u8s out) ∧ Below w.heap.size w wr ∧ 1 ≤ k ∧ k ≤ N ∧ out.length ≤ 257 ∧ N - k ≤ f ∧ U = uqF f ((L.take N).drop k) out
theorem take_drop (s : ByteArray) (N k : Nat) (hs : s.size = N + 1) (hk : k < N) (h : k < s.size) : (s.data.toList.take N).drop k = (s[k]'h) :: (s.data.toList.take N).drop (k + 1) := by
  have hl : k < (s.data.toList.take N).length := by
    rw [List.length_take]
    have : s.data.toList.length = s.size := rfl
    omega
  rw [List.drop_eq_getElem_cons hl, List.getElem_take]
  rfl
theorem take_len (s : ByteArray) (N k : Nat) (hs : s.size = N + 1) : ((s.data.toList.take N).drop k).length = N - k := by
  rw [List.length_drop, List.length_take]
  have : s.data.toList.length = s.size := rfl
  omega
theorem uqV_some {out : List UInt8} {b : Bool} (h : decide (out.length ≤ 256) = b) : uqV (some out) = .tuple #[.string ⟨out.toArray⟩, .bool b] := by
  unfold uqV
  simp only
  rw [h]
set_option maxHeartbeats 8000000 in
theorem unquoted_any (s : ByteArray) (w : World) (N : Nat) (hs : s.size = N + 1) (hN : 1 ≤ N) (hm : s.size ≤ 140737488355328) :
    Calls Tryz.prog 43 #[.string s] w fun e w' => e = .returned (uqV (uqF N ((s.data.toList.take N).drop 1) [])) ∧ Below w.heap.size w w' := by
  obtain ⟨i0, hi, hz0, hz1, hz2⟩ := info_parts info5'
  obtain ⟨U, hU⟩ : ∃ U, U = uqF N ((s.data.toList.take N).drop 1) [] := ⟨_, rfl⟩
  rw [← hU]
  have HUU := Lib.hid hU
  clear hU
  have hsi : (s.size : Int) - 1 = (N : Int) := by omega
  go_enter Tryz.func43, Tryz.ntmps43
  go_wp2
  go_loopw [4, 5] (fun q i wr => UqRel w s.data.toList N U q i wr) (fun _ i _ => N - (intOf i).toNat)
  case atStart => exact ⟨none, 0, 1, N, [], rfl, rfl, World.ownsRow_nil _ _ _ _, Below.refl _ _, Nat.le_refl _, hN, by simp, by omega, HUU.out⟩
  case round =>
    obtain ⟨sa, sc, k, f, out, rfl, rfl, hown, hbel, hk1, hk2, ho, hf, hU⟩ := hrel
    have hz := hbel.size
    by_cases hk : k < N
    · by_cases hol : out.length ≤ 256
      · have lk : k < s.size := by omega
        have hrd := take_drop s N k hs hk lk
        have hrl := take_len s N k hs
        obtain ⟨f', rfl⟩ : ∃ f', f = f' + 1 := ⟨f - 1, by omega⟩
        rw [uqF, if_neg (by omega)] at hU
        have dk : decide ((k : Int) < (N : Int)) = true := decide_eq_true (by omega)
        have do1 : decide ((out.length : Int) ≤ 256) = true := decide_eq_true (by omega)
        have b0 : bAt ((s.data.toList.take N).drop k) 0 = s[k]'lk := by rw [hrd]; rfl
        have HO := Lib.hid hown
        have HB := Lib.hid hbel
        by_cases h92 : s[k]'lk = 92
        · have q0 : (((s[k]'lk).toNat : Int) == 92) = true := by rw [h92]; rfl
          by_cases hk1' : k + 1 < N
          · have lk1 : k + 1 < s.size := by omega
            have hrd1 := take_drop s N (k + 1) hs hk1' lk1
            have b1 : bAt ((s.data.toList.take N).drop k) 1 = s[k + 1]'lk1 := by rw [hrd, hrd1]; rfl
            have d1 : decide ((k : Int) + 1 < (N : Int)) = true := decide_eq_true (by omega)
            by_cases h120 : s[k + 1]'lk1 = 120
            · have q1 : (((s[k + 1]'lk1).toNat : Int) == 120) = true := by rw [h120]; rfl
              rw [if_pos ⟨by rw [b0, h92], by omega, by rw [b1, h120]⟩] at hU
              by_cases hk3 : N ≤ k + 3
              · rw [if_pos (.inl (by omega))] at hU
                have d3 : decide ((N : Int) ≤ (k : Int) + 3) = true := decide_eq_true (by omega)
                have HH := Lib.hid hU
                clear hU hown hbel
                go_wp2
                go_ret2
                exact ⟨by rw [HH.out]; rfl, HB.out⟩
              · have d3 : decide ((N : Int) ≤ (k : Int) + 3) = false := decide_eq_false (by omega)
                have lk2 : k + 2 < s.size := by omega
                have lk3 : k + 3 < s.size := by omega
                have hrd2 := take_drop s N (k + 2) hs (by omega) lk2
                have hrd3 := take_drop s N (k + 3) hs (by omega) lk3
                have b2 : bAt ((s.data.toList.take N).drop k) 2 = s[k + 2]'lk2 := by rw [hrd, hrd1, hrd2]; rfl
                have b3 : bAt ((s.data.toList.take N).drop k) 3 = s[k + 3]'lk3 := by rw [hrd, hrd1, hrd2, hrd3]; rfl
                rw [b2, b3] at hU
                have HN2 := Lib.hid (fun W => nibble_any (s[k + 2]'lk2) W)
                have HN3 := Lib.hid (fun W => nibble_any (s[k + 3]'lk3) W)
                obtain ⟨ra1, ra2⟩ := hexI_range (s[k + 2]'lk2)
                obtain ⟨rb1, rb2⟩ := hexI_range (s[k + 3]'lk3)
                generalize hexI (s[k + 2]'lk2) = A at hU HN2 ra1 ra2
                generalize hexI (s[k + 3]'lk3) = B at hU HN3 rb1 rb2
                clear hrd hrd1 hrd2 hrd3 b0 b1 b2 b3
                by_cases hA : A < 0
                · rw [if_pos (.inr (.inl hA))] at hU
                  have dA : decide (A < 0) = true := decide_eq_true hA
                  clear hA h92 h120
                  have HH := Lib.hid hU
                  clear hU hown hbel
                  go_wp2_with (go_at_call 77; with_reducible refine (HN2.out _).mono ?_; rintro e w' ⟨rfl, rfl⟩)
                  go_ret2
                  exact ⟨by rw [HH.out]; rfl, HB.out⟩
                have dA : decide (A < 0) = false := decide_eq_false hA
                by_cases hB : B < 0
                · rw [if_pos (.inr (.inr hB))] at hU
                  have dB : decide (B < 0) = true := decide_eq_true hB
                  clear hA hB h92 h120
                  have HH := Lib.hid hU
                  clear hU hown hbel
                  go_wp2_with (first | (go_at_call 77; with_reducible refine (HN2.out _).mono ?_; rintro e w' ⟨rfl, rfl⟩) | (go_at_call 77; with_reducible refine (HN3.out _).mono ?_; rintro e w' ⟨rfl, rfl⟩))
                  go_ret2
                  exact ⟨by rw [HH.out]; rfl, HB.out⟩
                have dB : decide (B < 0) = false := decide_eq_false hB
                rw [if_neg (by omega), List.drop_drop] at hU
                have HH := Lib.hid hU
                have e1 : IntKind.i64.wrap (A * 16) = A * 16 := by rw [IntKind.wrap_i64]; omega
                have e2 : IntKind.i64.wrap (A * 16 + B) = A * 16 + B := by rw [IntKind.wrap_i64]; omega
                have e3 : IntKind.u8.wrap (A * 16 + B) = (((UInt8.ofNat (A * 16 + B).toNat).toNat : Nat) : Int) := by rw [IntKind.wrap_u8, UInt8.toNat_ofNat']; omega
                have e4 : (A * 16 + B) % 256 = (((UInt8.ofNat (A * 16 + B).toNat).toNat : Nat) : Int) := by rw [UInt8.toNat_ofNat']; omega
                generalize UInt8.ofNat (A * 16 + B).toNat = C at HH e3 e4
                clear hU hown hbel hA hB h92 h120 hrl
                go_wp2_with (first | (go_at_call 77; with_reducible refine (HN2.out _).mono ?_; rintro e w' ⟨rfl, rfl⟩) | (go_at_call 77; with_reducible refine (HN3.out _).mono ?_; rintro e w' ⟨rfl, rfl⟩))
                have v2 : IntKind.i64.wrap ((k : Int) + 2) = (k : Int) + 2 := by rw [IntKind.wrap_i64]; omega
                have v3 : IntKind.i64.wrap ((k : Int) + 3) = (k : Int) + 3 := by rw [IntKind.wrap_i64]; omega
                have v4 : ((k : Int) + 2).toNat = k + 2 := by omega
                have v5 : ((k : Int) + 3).toNat = k + 3 := by omega
                have v6 : (0 : Int) ≤ (k : Int) + 2 := by omega
                have v7 : (0 : Int) ≤ (k : Int) + 3 := by omega
                have v8 : (k : Int) + 2 < (N : Int) + 1 := by omega
                have v9 : (k : Int) + 3 < (N : Int) + 1 := by omega
                go_region_law (first | (refine step_append_mine rfl (.tmp 59) (.tmp 73) 37 rfl w.heap.size 5 i0 (.int .u8 0) 1 1 Tryz.underlying37 hi hz0 hz1 hz2 rfl (by decide) (.slice sa out.length sc) _ _ rfl (HO.out.drew.alloc _) ⟨wr.heap.size, 0, none⟩ 1 1 (u8s [C]) rfl rfl (cells_new _ _ _) (u8s_one _) (by unfold maxLen; omega) (by omega) (by simp; omega) ?_; intro v' w1 hown' hgrow) | (go_simp; go_at_call 77; with_reducible refine (HN2.out _).mono ?_; rintro e w' ⟨rfl, rfl⟩) | (go_simp; go_at_call 77; with_reducible refine (HN3.out _).mono ?_; rintro e w' ⟨rfl, rfl⟩))
                all_goals
                  have hgrow' : (wr.alloc (.cells (u8s [C]).toArray 5)).grownBy w1 (Value.slice sa out.length sc).ownBlock := ⟨hgrow.os, hgrow.tape, hgrow.output, hgrow.size, hgrow.block⟩
                  obtain ⟨g, c', rfl⟩ := ownsRow_succ hown'
                  have hb1 : Below w.heap.size w w1 := (HB.out.alloc hz _).grown hgrow' (by simp; omega) (fun b hb => (HO.out.lt b hb).1)
                  have hown2 : w1.ownsRow w.heap.size 5 1 (.slice (some ⟨g, 0, none⟩) (out ++ [C]).length c') (out ++ [C]).length (u8s (out ++ [C])) := by
                    rw [u8s_append, List.length_append]; exact hown'
                  have HR : Hid (UqRel w s.data.toList N U (.slice (some ⟨g, 0, none⟩) (out ++ [C]).length c') (.int .i64 ((k + 4 : Nat) : Int)) w1) := Lib.hid
                    ⟨_, c', k + 4, f', out ++ [C], rfl, rfl, hown2, hb1, by omega, by omega, by simp; omega, by omega, HH.out⟩
                  clear hown' hgrow hgrow' hb1 hown2
                  go_wp2
                  go_roundw
                  case rel => first | (simpa using HR.out) | (have h := HR.out; rw [show ((k + 4 : Nat) : Int) = (k : Int) + 3 + 1 by omega] at h; simpa using h)
                  case measure => simp [intOf]; omega
            · rw [if_neg (by rw [b1]; exact fun h => h120 h.2.2), if_pos (by rw [b0, h92]), if_neg (by omega), b1, List.drop_drop] at hU
              have q1 : (((s[k + 1]'lk1).toNat : Int) == 120) = false := beq_eq_false_iff_ne.2 (fun h => h120 (UInt8.toNat_inj.1 (by show (s[k + 1]'lk1).toNat = 120; omega)))
              have d2 : decide ((N : Int) ≤ (k : Int) + 1) = false := decide_eq_false (by omega)
              have HH := Lib.hid hU
              clear hU hown hbel hrd hrd1 hrl b0 b1 h92 h120
              go_wp2_with (first | (at_builtin; refine wpList_append_own _ rfl _ _ 37 rfl w.heap.size 5 i0 (.int .u8 0) 1 1 Tryz.underlying37 hi hz0 hz1 hz2 rfl (by decide) _ _ _ rfl (HO.out.alloc _) ⟨wr.heap.size, 0, none⟩ 1 1 (u8s [s[k + 1]'lk1]) rfl rfl (cells_new' _ _ _) (u8s_one _) (by unfold maxLen; omega) (by omega) (by simp; omega) ?_))
              intro v' w1 hown' hgrow _
              obtain ⟨g, c', rfl⟩ := ownsRow_succ hown'
              have hb1 : Below w.heap.size w w1 := (HB.out.alloc hz _).grown hgrow (by simp; omega) (fun b hb => (HO.out.lt b hb).1)
              have hown2 : w1.ownsRow w.heap.size 5 1 (.slice (some ⟨g, 0, none⟩) (out ++ [s[k + 1]'lk1]).length c') (out ++ [s[k + 1]'lk1]).length (u8s (out ++ [s[k + 1]'lk1])) := by
                rw [u8s_append, List.length_append]; exact hown'
              have HR : Hid (UqRel w s.data.toList N U (.slice (some ⟨g, 0, none⟩) (out ++ [s[k + 1]'lk1]).length c') (.int .i64 ((k + 2 : Nat) : Int)) w1) := Lib.hid
                ⟨_, c', k + 2, f', out ++ [s[k + 1]'lk1], rfl, rfl, hown2, hb1, by omega, by omega, by simp; omega, by omega, HH.out⟩
              clear hown' hgrow hb1 hown2
              go_wp2
              go_roundw
              case rel => first | (simpa using HR.out) | (have h := HR.out; rw [show ((k + 2 : Nat) : Int) = (k : Int) + (2 - 1) + 1 by omega] at h; simpa using h)
              case measure => simp [intOf]; omega
          · rw [if_neg (by omega), if_pos (by rw [b0, h92]), if_pos (by omega)] at hU
            have d1 : decide ((k : Int) + 1 < (N : Int)) = false := decide_eq_false (by omega)
            have d2 : decide ((N : Int) ≤ (k : Int) + 1) = true := decide_eq_true (by omega)
            clear hrd hrl b0 h92
            have HH := Lib.hid hU
            clear hU hown hbel
            go_wp2
            go_ret2
            exact ⟨by rw [HH.out]; rfl, HB.out⟩
        · rw [if_neg (by rw [b0]; exact fun h => h92 h.1), if_neg (by rw [b0]; exact h92), b0, List.drop_drop] at hU
          have q0 : (((s[k]'lk).toNat : Int) == 92) = false := beq_eq_false_iff_ne.2 (fun h => h92 (UInt8.toNat_inj.1 (by show (s[k]'lk).toNat = 92; omega)))
          have HH := Lib.hid hU
          clear hU hown hbel hrd hrl b0 h92
          go_wp2_with (first | (at_builtin; refine wpList_append_own _ rfl _ _ 37 rfl w.heap.size 5 i0 (.int .u8 0) 1 1 Tryz.underlying37 hi hz0 hz1 hz2 rfl (by decide) _ _ _ rfl (HO.out.alloc _) ⟨wr.heap.size, 0, none⟩ 1 1 (u8s [s[k]'lk]) rfl rfl (cells_new' _ _ _) (u8s_one _) (by unfold maxLen; omega) (by omega) (by simp; omega) ?_))
          intro v' w1 hown' hgrow _
          obtain ⟨g, c', rfl⟩ := ownsRow_succ hown'
          have hb1 : Below w.heap.size w w1 := (HB.out.alloc hz _).grown hgrow (by simp; omega) (fun b hb => (HO.out.lt b hb).1)
          have hown2 : w1.ownsRow w.heap.size 5 1 (.slice (some ⟨g, 0, none⟩) (out ++ [s[k]'lk]).length c') (out ++ [s[k]'lk]).length (u8s (out ++ [s[k]'lk])) := by
            rw [u8s_append, List.length_append]; exact hown'
          have HR : Hid (UqRel w s.data.toList N U (.slice (some ⟨g, 0, none⟩) (out ++ [s[k]'lk]).length c') (.int .i64 ((k + 1 : Nat) : Int)) w1) := Lib.hid
            ⟨_, c', k + 1, f', out ++ [s[k]'lk], rfl, rfl, hown2, hb1, by omega, by omega, by simp; omega, by omega, HH.out⟩
          clear hown' hgrow hb1 hown2
          go_wp2
          go_roundw
          case rel => first | (simpa using HR.out) | (have h := HR.out; rw [show ((k + 1 : Nat) : Int) = (k : Int) + (1 - 1) + 1 by omega] at h; simpa using h)
          case measure => simp [intOf]; omega
      · rw [uq_end (.inr (by omega))] at hU
        have dk : decide ((k : Int) < (N : Int)) = true := decide_eq_true (by omega)
        have do1 : decide ((out.length : Int) ≤ 256) = false := decide_eq_false (by omega)
        have do2 : decide (out.length ≤ 256) = false := decide_eq_false hol
        have htx := txt_of_owned hown
        have hcv2 := text_of htx
        have HB := Lib.hid hbel
        have HH := Lib.hid hU
        have HD := Lib.hid do2
        clear htx hown hbel hU do2
        go_wp2
        go_ret2
        exact ⟨by rw [HH.out, uqV_some HD.out]; rfl, HB.out⟩
    · rw [uq_end (.inl (by rw [take_len s N k hs]; omega))] at hU
      have dk : decide ((k : Int) < (N : Int)) = false := decide_eq_false (by omega)
      have htx := txt_of_owned hown
      have hcv2 := text_of htx
      have HB := Lib.hid hbel
      have HH := Lib.hid hU
      have hdd : decide ((out.length : Int) ≤ 256) = decide (out.length ≤ 256) := by rw [decide_eq_decide]; omega
      generalize hb : decide (out.length ≤ 256) = b at hdd
      have HD := Lib.hid hb
      clear htx hown hbel hU hb
      go_wp2
      go_ret2
      exact ⟨by rw [HH.out, uqV_some HD.out]; rfl, HB.out⟩
end Go.Proofs.YtofjbakepneilaaGreatDoor
