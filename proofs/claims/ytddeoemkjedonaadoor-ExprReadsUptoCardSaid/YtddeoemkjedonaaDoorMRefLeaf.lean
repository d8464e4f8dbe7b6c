/- The reference's leaves: letter, digit, Blank, digits, whole. -/
import Derived.Test.YtddeoemkjedonaaDoorRealsPlain
import Derived.Test.YtddeoemkjedonaaDoorMTextWalks
import Derived.WalkKit
import Derived.WalkSpells
import Derived.WalkLawsBesides
import Derived.Lib.Hide
import Derived.Test.YtddeoemkjedonaaDoorMQuotePlain
namespace Go.Proofs.YtddeoemkjedonaaDoor
open Go.RowKit
set_option maxRecDepth 100000

theorem refDigit_any (c : UInt8) (w : World) : Calls Tryd.prog 69 #[.int .u8 c.toNat] w fun e w' => e = .returned (.bool (digitB c)) ∧ w = w' := by
  have hc := c.toNat_lt
  unfold digitB
  by_cases h1 : 48 ≤ c.toNat
  · by_cases h2 : c.toNat ≤ 57 <;>
    · go_enter Tryd.func69, Tryd.ntmps69
      go_wp2
      go_ret
      exact ⟨by simp [h1, h2]; omega, rfl⟩
  · go_enter Tryd.func69, Tryd.ntmps69
    go_wp2
    go_ret
    exact ⟨by simp [h1], rfl⟩

theorem refLetter_any (c : UInt8) (w : World) : Calls Tryd.prog 68 #[.int .u8 c.toNat] w fun e w' => e = .returned (.bool (letterB c)) ∧ w = w' := by
  have hc := c.toNat_lt
  have h0 : c.toNat < 65 ∨ (65 ≤ c.toNat ∧ c.toNat ≤ 90) ∨ (90 < c.toNat ∧ c.toNat < 97) ∨ (97 ≤ c.toNat ∧ c.toNat ≤ 122) ∨ 122 < c.toNat := by omega
  have hb : letterB c = true ∨ letterB c = false := by cases letterB c <;> simp
  unfold letterB
  rcases h0 with h1 | ⟨h1, h2⟩ | ⟨h1, h2⟩ | ⟨h1, h2⟩ | h1
  · have d1 : decide ((65 : Int) ≤ c.toNat) = false := by simp; omega
    have d2 : decide ((97 : Int) ≤ c.toNat) = false := by simp; omega
    go_enter Tryd.func68, Tryd.ntmps68
    go_wp2
    go_ret
    exact ⟨by simp; omega, rfl⟩
  · have d1 : decide ((65 : Int) ≤ c.toNat) = true := by simp; omega
    have d2 : decide ((c.toNat : Int) ≤ 90) = true := by simp; omega
    go_enter Tryd.func68, Tryd.ntmps68
    go_wp2
    go_ret
    exact ⟨by simp; omega, rfl⟩
  · have d1 : decide ((65 : Int) ≤ c.toNat) = true := by simp; omega
    have d2 : decide ((c.toNat : Int) ≤ 90) = false := by simp; omega
    have d3 : decide ((97 : Int) ≤ c.toNat) = false := by simp; omega
    go_enter Tryd.func68, Tryd.ntmps68
    go_wp2
    go_ret
    exact ⟨by simp; omega, rfl⟩
  · have d1 : decide ((65 : Int) ≤ c.toNat) = true := by simp; omega
    have d2 : decide ((c.toNat : Int) ≤ 90) = false := by simp; omega
    have d3 : decide ((97 : Int) ≤ c.toNat) = true := by simp; omega
    have d4 : decide ((c.toNat : Int) ≤ 122) = true := by simp; omega
    go_enter Tryd.func68, Tryd.ntmps68
    go_wp2
    go_ret
    exact ⟨by simp; omega, rfl⟩
  · have d1 : decide ((65 : Int) ≤ c.toNat) = true := by simp; omega
    have d2 : decide ((c.toNat : Int) ≤ 90) = false := by simp; omega
    have d3 : decide ((97 : Int) ≤ c.toNat) = true := by simp; omega
    have d4 : decide ((c.toNat : Int) ≤ 122) = false := by simp; omega
    go_enter Tryd.func68, Tryd.ntmps68
    go_wp2
    go_ret
    exact ⟨by simp; omega, rfl⟩

theorem refBlank_any (c : UInt8) (w : World) : Calls Tryd.prog 64 #[.int .u8 c.toNat] w fun e w' => e = .returned (.bool (blankB c)) ∧ w = w' := by
  have f (k : Nat) (hk : k < 256) : (c == UInt8.ofNat k) = ((c.toNat : Int) == (k : Int)) := by
    by_cases h : c.toNat = k
    · rw [u8_eq h, h]; simp
    · rw [u8_ne h hk]; symm; rw [beq_eq_false_iff_ne]; omega
  have f32 := f 32 (by omega)
  have f9 := f 9 (by omega)
  have f10 := f 10 (by omega)
  have f13 := f 13 (by omega)
  have hB : blankB c = (((c.toNat : Int) == 32) || ((c.toNat : Int) == 9) || ((c.toNat : Int) == 10) || ((c.toNat : Int) == 13)) := by
    unfold blankB
    rw [show (32 : UInt8) = UInt8.ofNat 32 from rfl, show (9 : UInt8) = UInt8.ofNat 9 from rfl, show (10 : UInt8) = UInt8.ofNat 10 from rfl, show (13 : UInt8) = UInt8.ofNat 13 from rfl, f32, f9, f10, f13]
    rfl
  clear f f32 f9 f10 f13
  rw [hB]
  clear hB
  cases e1 : ((c.toNat : Int) == 32) <;> cases e2 : ((c.toNat : Int) == 9) <;> cases e3 : ((c.toNat : Int) == 10) <;> cases e4 : ((c.toNat : Int) == 13) <;>
  · go_enter Tryd.func64, Tryd.ntmps64
    go_wp2
    go_ret
    exact ⟨rfl, rfl⟩


/-- the cell of a byte that is there -/
theorem Txt.cellAt {w : World} {a : Option Addr} {n cap : Nat} {l : List UInt8} (ht : Txt w a n cap l) {i : Nat} (hi : i < n) : ∃ b o, a = some ⟨b, o, none⟩ ∧ w.cell? ⟨b, o + i, none⟩ = some (.int .u8 ((bAt l i).toNat : Int)) := by
  obtain ⟨hl, hnc, hm, h4⟩ := ht
  rcases h4 with ⟨_, h0, _⟩ | ⟨⟨b, o, s⟩, rfl, hx⟩
  · omega
  · obtain ⟨rfl, hc⟩ := hx.spot (by omega)
    refine ⟨b, o, rfl, ?_⟩
    rw [bAt_lt (by omega)]
    exact hc i (by omega)

theorem digits_any (a : Option Addr) (n cap f : Nat) (l : List UInt8) (w : World) (ht : Txt w a n cap l) (hr : n ≤ 140737488351232) (hf : f ≤ 140737488351300) :
    Calls Tryd.prog 73 #[.slice a n cap, .int .i64 f] w fun e w' => e = .returned (.int .i64 (tw digitB l f)) ∧ w = w' := by
  have hl := ht.1
  have HT := Lib.hid ht
  have HL := Lib.hid hl
  clear ht hl
  go_enter Tryd.func73, Tryd.ntmps73
  go_wp2
  go_loop [5] (fun i => ∃ j : Nat, (j = 0 ∨ f + j ≤ n) ∧ i = .int .i64 j ∧ Hid (tw digitB l f = j + tw digitB l (f + j))) (fun i => n - (intOf i).toNat)
  case atStart => exact ⟨0, .inl rfl, rfl, by show tw digitB l f = 0 + tw digitB l (f + 0); rw [Nat.add_zero, Nat.zero_add]⟩
  case round =>
    obtain ⟨j, hj, rfl, hg⟩ := hrel
    have hjn : j ≤ n := by omega
    rcases Nat.lt_or_ge (f + j) n with hlt | hge
    · obtain ⟨b, o, rfl, hcell⟩ := HT.out.cellAt hlt
      obtain ⟨c, hc⟩ : ∃ c, c = bAt l (f + j) := ⟨_, rfl⟩
      rw [← hc] at hcell
      have HD := refDigit_any c
      cases hd : digitB c
      · rw [hd] at HD
        have HD2 := Lib.hid HD
        have HE : Hid (tw digitB l f = j) := by
          have : tw digitB l f = j := by rw [hg.out, tw_no (by rw [← hc]; exact hd)]; rfl
          exact this
        clear HD hc hd
        go_wp2_with (go_at_call 69; refine (HD2.out _).mono ?_; rintro e w' ⟨rfl, rfl⟩)
        go_ret
        exact ⟨by rw [HE.out]; rfl, rfl⟩
      · rw [hd] at HD
        have HD2 := Lib.hid HD
        have HE : Hid (tw digitB l f = (j + 1) + tw digitB l (f + (j + 1))) := by
          have : tw digitB l f = (j + 1) + tw digitB l (f + (j + 1)) := by
            rw [hg.out, (tw_yes (by rw [← hc]; exact hd) digit0).2, ← Nat.add_assoc, ← Nat.add_assoc]
          exact this
        clear HD hc hd
        go_wp2_with (go_at_call 69; refine (HD2.out _).mono ?_; rintro e w' ⟨rfl, rfl⟩)
        go_round
        case rel => exact ⟨j + 1, .inr (by omega), by go_num, HE⟩
        case measure => simp [intOf]; omega
    · have HE : Hid (tw digitB l f = j) := by
        have : tw digitB l f = j := by
          rw [hg.out]
          have : tw digitB l (f + j) = 0 := by have := tw_le digitB l (f + j); rw [HL.out] at this; omega
          omega
        exact this
      go_wp2
      go_ret
      exact ⟨by rw [HE.out]; rfl, rfl⟩

/-- the int that digits say -/
def refW (l : List UInt8) : Option Nat := if valD 0 l ≤ 9223372036854775807 then some (valD 0 l) else none
def RefW (l : List UInt8) (w : World) (e : Ending) (w' : World) : Prop := (match refW l with | some v => e = .returned (.tuple #[.int .i64 v, .bool true]) | none => e = .returned (.tuple #[.int .i64 0, .bool false])) ∧ w = w'
theorem valD_snoc (l : List UInt8) (k : Nat) (hk : k < l.length) : valD 0 (l.take (k + 1)) = valD 0 (l.take k) * 10 + ((bAt l k).toNat - 48) := by
  unfold valD
  rw [take_snoc _ _ hk, List.foldl_append, bAt_lt hk]; rfl
theorem valD_take (l : List UInt8) (k : Nat) : valD 0 (l.take k) ≤ valD 0 l := by
  have h : valD 0 l = valD (valD 0 (l.take k)) (l.drop k) := by
    unfold valD
    rw [← List.foldl_append, List.take_append_drop]
  rw [h]
  exact valD_le _ _

set_option maxHeartbeats 1000000 in
theorem refWhole_any (a : Option Addr) (n cap : Nat) (l : List UInt8) (w : World) (ht : Txt w a n cap l) (hr : n ≤ 140737488351232) (hd : ∀ c ∈ l, 48 ≤ c.toNat ∧ c.toNat ≤ 57) :
    Calls Tryd.prog 76 #[.slice a n cap] w fun e w' => RefW l w e w' := by
  have hl := ht.1
  have HT := Lib.hid ht
  have HL := Lib.hid hl
  have HD := Lib.hid hd
  clear ht hl hd
  go_enter Tryd.func76, Tryd.ntmps76
  go_wp2
  go_loop [4, 5] (fun v i => ∃ k u : Nat, k ≤ n ∧ i = .int .i64 k ∧ v = .int .u64 u ∧ u ≤ 9223372036854775807 ∧ Hid (u = valD 0 (l.take k))) (fun _ i => n - (intOf i).toNat)
  case atStart => exact ⟨0, 0, Nat.zero_le _, rfl, rfl, Nat.zero_le _, rfl⟩
  case round =>
    obtain ⟨k, u, hk, rfl, rfl, hu, hv⟩ := hrel
    rcases Nat.lt_or_ge k n with hlt | hge
    · obtain ⟨b, o, rfl, hcell⟩ := HT.out.cellAt hlt
      have hkl : k < l.length := by rw [HL.out]; exact hlt
      have hdc : 48 ≤ (bAt l k).toNat ∧ (bAt l k).toNat ≤ 57 := HD.out _ (by rw [bAt_lt hkl]; exact List.getElem_mem _)
      have hsn := valD_snoc l k hkl
      obtain ⟨c, hc⟩ : ∃ c, c = (bAt l k).toNat := ⟨_, rfl⟩
      rw [← hc] at hcell hdc hsn
      rw [← hv.out] at hsn
      have HSN := Lib.hid hsn
      have hq1 : 0 ≤ (9223372036854775807 - ((c : Int) - 48)) := by omega
      have c1 := hdc.1
      have c2 := hdc.2
      clear hsn hc hdc
      rcases Nat.lt_or_ge 9223372036854775807 (u * 10 + (c - 48)) with hbig | hsmall
      · have hgt : decide ((9223372036854775807 - ((c : Int) - 48)) / 10 < (u : Int)) = true := by rw [decide_eq_true_eq]; omega
        have HN : Hid (refW l = none) := by
          have : refW l = none := by
            unfold refW
            have := valD_take l (k + 1)
            rw [HSN.out] at this
            rw [if_neg (by omega)]
          exact this
        clear hbig
        go_wp2
        go_ret2
        unfold RefW
        rw [HN.out]
        exact ⟨rfl, rfl⟩
      · have hgt : decide ((9223372036854775807 - ((c : Int) - 48)) / 10 < (u : Int)) = false := by rw [decide_eq_false_iff_not]; omega
        have hw : IntKind.u64.wrap (10 * (u : Int) + ((c : Int) - 48)) = ((u * 10 + (c - 48) : Nat) : Int) := by rw [IntKind.wrap_u64]; omega
        go_wp2
        go_round
        case rel => exact ⟨k + 1, u * 10 + (c - 48), by omega, by go_num, by congr 1, hsmall, HSN.out.symm⟩
        case measure => simp [intOf]; omega
    · obtain rfl : k = n := by omega
      have HS : Hid (refW l = some u) := by
        have : refW l = some u := by
          unfold refW
          have h := hv.out
          rw [← HL.out, List.take_length] at h
          rw [← h, if_pos hu]
        exact this
      go_wp2
      go_ret2
      unfold RefW
      rw [HS.out]
      exact ⟨rfl, rfl⟩
end Go.Proofs.YtddeoemkjedonaaDoor
/- The reference's hex, part, end, isMark. -/
namespace Go.Proofs.YtddeoemkjedonaaDoor
open Go.RowKit
set_option maxRecDepth 100000

theorem refHex_any (c : UInt8) (w : World) : Calls Tryd.prog 79 #[.int .u8 c.toNat] w fun e w' => e = .returned (.int .i64 (hexI c)) ∧ w = w' := by
  have hc := c.toNat_lt
  have HD := refDigit_any c
  by_cases h1 : 48 ≤ c.toNat ∧ c.toNat ≤ 57
  · have hd : digitB c = true := by simpa [digitB] using h1
    rw [hd] at HD
    have HD2 := Lib.hid HD
    have HE : Hid (hexI c = (c.toNat : Int) - 48) := by
      have : hexI c = (c.toNat : Int) - 48 := by unfold hexI hexVal; rw [if_pos h1]; simp only; omega
      exact this
    have h2 := h1.1
    clear HD hd h1
    go_enter Tryd.func79, Tryd.ntmps79
    go_wp2_with (go_at_call 69; refine (HD2.out _).mono ?_; rintro e w' ⟨rfl, rfl⟩)
    go_ret
    exact ⟨by rw [HE.out]; rfl, rfl⟩
  · have hd : digitB c = false := by simp only [digitB, decide_eq_false_iff_not]; exact h1
    rw [hd] at HD
    have HD2 := Lib.hid HD
    by_cases h2 : 97 ≤ c.toNat ∧ c.toNat ≤ 102
    · have HE : Hid (hexI c = (c.toNat : Int) - 97 + 10) := by
        have : hexI c = (c.toNat : Int) - 97 + 10 := by unfold hexI hexVal; rw [if_neg h1, if_pos h2]; simp only; omega
        exact this
      have d1 : decide ((97 : Int) ≤ c.toNat) = true := by simp; omega
      have d2 : decide ((c.toNat : Int) ≤ 102) = true := by simp; omega
      have h3 := h2.1
      clear HD hd h1 h2
      go_enter Tryd.func79, Tryd.ntmps79
      go_wp2_with (go_at_call 69; refine (HD2.out _).mono ?_; rintro e w' ⟨rfl, rfl⟩)
      go_ret
      exact ⟨by rw [HE.out]; rfl, rfl⟩
    · have HE : Hid (hexI c = -1) := by
        have : hexI c = -1 := by unfold hexI hexVal; rw [if_neg h1, if_neg h2]
        exact this
      have d0 : decide ((97 : Int) ≤ c.toNat) = false ∨ (decide ((97 : Int) ≤ c.toNat) = true ∧ decide ((c.toNat : Int) ≤ 102) = false) := by
        by_cases h : 97 ≤ c.toNat
        · right; simp; omega
        · left; simp; omega
      clear HD hd h1 h2
      rcases d0 with d1 | ⟨d1, d2⟩
      all_goals
        go_enter Tryd.func79, Tryd.ntmps79
        go_wp2_with (go_at_call 69; refine (HD2.out _).mono ?_; rintro e w' ⟨rfl, rfl⟩)
        go_ret
        exact ⟨by rw [HE.out]; rfl, rfl⟩

/-- what stands behind a real's M -/
def endF (l : List UInt8) (d : Nat) : Nat × Nat :=
  if bAt l d = 112 then
    (if tw digitB l (d + (if bAt l (d + 1) = 45 then 2 else 1)) = 0 then (0, 0) else ((if bAt l (d + 1) = 45 then 2 else 1) + tw digitB l (d + (if bAt l (d + 1) = 45 then 2 else 1)), if bAt l (d + 1) = 45 then 2 else 1))
  else (0, 0)
theorem u8_is {c : UInt8} {k : Nat} (hk : k < 256) : (c = UInt8.ofNat k → ((c.toNat : Int) == (k : Int)) = true ∧ ((c.toNat : Int) != (k : Int)) = false) ∧ (c ≠ UInt8.ofNat k → ((c.toNat : Int) == (k : Int)) = false ∧ ((c.toNat : Int) != (k : Int)) = true) := by
  constructor
  · rintro rfl
    have : (UInt8.ofNat k).toNat = k := by simp; omega
    rw [this]; simp
  · intro h
    have : (c.toNat : Int) ≠ (k : Int) := by
      intro e
      apply h
      have : c.toNat = k := by omega
      rw [← this]; simp
    simpa using this

set_option maxHeartbeats 1000000 in
theorem refEnd_any (a : Option Addr) (n cap d : Nat) (l : List UInt8) (w : World) (ht : Txt w a n cap l) (hr : n ≤ 140737488351232) (hd : d ≤ n) :
    Calls Tryd.prog 74 #[.slice a n cap, .int .i64 d] w fun e w' => e = .returned (.tuple #[.int .i64 (endF l d).1, .int .i64 (endF l d).2]) ∧ w = w' := by
  have hl := ht.1
  rcases Nat.lt_or_ge d n with hlt | hge
  · obtain ⟨b, o, rfl, hcell⟩ := ht.cellAt hlt
    obtain ⟨i112, n112⟩ := u8_is (c := bAt l d) (k := 112) (by decide)
    by_cases h1 : bAt l d = 112
    · obtain ⟨e1, e2⟩ := i112 h1
      -- the sign
      have hcase : ∃ h : Nat, (h = 1 ∨ h = 2) ∧ (if bAt l (d + 1) = 45 then 2 else 1) = h ∧ (h = 2 ↔ bAt l (d + 1) = 45) := by
        by_cases h : bAt l (d + 1) = 45
        · exact ⟨2, .inr rfl, by rw [if_pos h], by simp [h]⟩
        · exact ⟨1, .inl rfl, by rw [if_neg h], by simp [h]⟩
      obtain ⟨h, hh, hif, hiff⟩ := hcase
      have HDG := Lib.hid (digits_any (some ⟨b, o, none⟩) n cap (d + h) l w ht hr (by omega))
      obtain ⟨t, htw⟩ : ∃ t, t = tw digitB l (d + h) := ⟨_, rfl⟩
      have HT2 : Hid (tw digitB l (d + h) = t) := htw.symm
      have htl : t ≤ n := by have := tw_le digitB l (d + h); omega
      have HE : Hid (endF l d = if t = 0 then (0, 0) else (h + t, h)) := by
        have : endF l d = if t = 0 then (0, 0) else (h + t, h) := by unfold endF; rw [if_pos h1, hif, ← htw]
        exact this
      have hw1 : IntKind.i64.wrap ((d : Int) + (h : Int)) = ((d + h : Nat) : Int) := by rw [IntKind.wrap_i64]; omega
      have hnext : (n ≤ d + 1 ∧ h = 1) ∨ (d + 1 < n ∧ h = 1 ∧ ∃ c, w.cell? ⟨b, o + (d + 1), none⟩ = some (.int .u8 c) ∧ (c == 45) = false) ∨ (d + 1 < n ∧ h = 2 ∧ ∃ c, w.cell? ⟨b, o + (d + 1), none⟩ = some (.int .u8 c) ∧ (c == 45) = true) := by
        rcases Nat.lt_or_ge (d + 1) n with h' | h'
        · right
          obtain ⟨b', o', e, hc'⟩ := ht.cellAt h'
          cases e
          obtain ⟨j1, j2⟩ := u8_is (c := bAt l (d + 1)) (k := 45) (by decide)
          by_cases h45 : bAt l (d + 1) = 45
          · exact .inr ⟨h', hiff.2 h45, _, hc', (j1 h45).1⟩
          · left
            refine ⟨h', ?_, _, hc', (j2 h45).1⟩
            rcases hh with h0 | h0
            · exact h0
            · exact absurd (hiff.1 h0) h45
        · left
          refine ⟨h', ?_⟩
          rcases hh with h0 | h0
          · exact h0
          · have := hiff.1 h0; rw [bAt_ge (by omega)] at this; cases this
      have hz : (t = 0 ∧ ((t : Int) == 0) = true) ∨ (t ≠ 0 ∧ ((t : Int) == 0) = false) := by
        rcases Nat.eq_zero_or_pos t with h0 | h0
        · left; exact ⟨h0, by rw [h0]; rfl⟩
        · right; exact ⟨by omega, by rw [beq_eq_false_iff_ne]; omega⟩
      have q0 : decide (n ≤ d) = false := by rw [decide_eq_false_iff_not]; omega
      clear ht hl htw hif hiff hh i112 n112 h1
      rcases hnext with ⟨g1, rfl⟩ | ⟨g1, rfl, c, g2, g3⟩ | ⟨g1, rfl, c, g2, g3⟩ <;> rcases hz with ⟨z1, z2⟩ | ⟨z1, z2⟩
      all_goals
        have Z1 := Lib.hid z1
        clear z1
        first
        | (have q1 : decide (d + 1 < n) = true := by (rw [decide_eq_true_eq]; omega))
        | (have q1 : decide (d + 1 < n) = false := by (rw [decide_eq_false_iff_not]; omega))
        go_enter Tryd.func74, Tryd.ntmps74
        go_wp2_with fail
        refine HDG.out.mono ?_
        rintro e w' ⟨rfl, rfl⟩
        rw [HT2.out]
        go_wp2_with fail
        go_ret2
        rw [HE.out]
        first
        | (rw [if_pos Z1.out]; exact ⟨rfl, rfl⟩)
        | (rw [if_neg Z1.out]; exact ⟨by simp, rfl⟩)
    · obtain ⟨e1, e2⟩ := n112 h1
      have q0 : decide (n ≤ d) = false := by rw [decide_eq_false_iff_not]; omega
      have HE : Hid (endF l d = (0, 0)) := by
        have : endF l d = (0, 0) := by unfold endF; rw [if_neg h1]
        exact this
      clear ht hl i112 n112 h1
      go_enter Tryd.func74, Tryd.ntmps74
      go_wp2_with fail
      go_ret2
      rw [HE.out]
      exact ⟨rfl, rfl⟩
  · have q0 : decide (n ≤ d) = true := by rw [decide_eq_true_eq]; omega
    have HE : Hid (endF l d = (0, 0)) := by
      have : endF l d = (0, 0) := by unfold endF; rw [if_neg]; rw [bAt_ge (by omega)]; decide
      exact this
    clear ht hl
    go_enter Tryd.func74, Tryd.ntmps74
    go_wp2_with fail
    go_ret2
    rw [HE.out]
    exact ⟨rfl, rfl⟩
end Go.Proofs.YtddeoemkjedonaaDoor
