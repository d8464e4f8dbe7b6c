/- The reference's hex, part, end, isMark. -/
import Derived.Test.YtkhghbeojfgkhaaDoorRefLeaf
import Derived.Test.YtkhghbeojfgkhaaDoorPiecePlain
namespace Go.Proofs.YtkhghbeojfgkhaaDoor
open Go.RowKit
set_option maxRecDepth 100000

theorem refHex_any (c : UInt8) (w : World) : Calls Tryd.prog 100 #[.int .u8 c.toNat] w fun e w' => e = .returned (.int .i64 (hexI c)) ∧ w = w' := by
  have hc := c.toNat_lt
  have HD := refDigit_any c
  by_cases h1 : 48 ≤ c.toNat ∧ c.toNat ≤ 57
  · have hd : digitB c = true := by simpa [digitB] using h1
    rw [hd] at HD
    have HD2 := Lib.hid HD
    have HE : Hid (hexI c = (c.toNat : Int) - 48) := by
      have : hexI c = (c.toNat : Int) - 48 := by unfold hexI hexVal; rw [if_pos h1]; simp only; omega
      exact this
    have h2 := h1.1
    clear HD hd h1
    go_enter Tryd.func100, Tryd.ntmps100
    go_wp2_with (go_at_call 34; refine (HD2.out _).mono ?_; rintro e w' ⟨rfl, rfl⟩)
    go_ret
    exact ⟨by rw [HE.out]; rfl, rfl⟩
  · have hd : digitB c = false := by simp only [digitB, decide_eq_false_iff_not]; exact h1
    rw [hd] at HD
    have HD2 := Lib.hid HD
    by_cases h2 : 97 ≤ c.toNat ∧ c.toNat ≤ 102
    · have HE : Hid (hexI c = (c.toNat : Int) - 97 + 10) := by
        have : hexI c = (c.toNat : Int) - 97 + 10 := by unfold hexI hexVal; rw [if_neg h1, if_pos h2]; simp only; omega
        exact this
      have d1 : decide ((97 : Int) ≤ c.toNat) = true := by simp; omega
      have d2 : decide ((c.toNat : Int) ≤ 102) = true := by simp; omega
      have h3 := h2.1
      clear HD hd h1 h2
      go_enter Tryd.func100, Tryd.ntmps100
      go_wp2_with (go_at_call 34; refine (HD2.out _).mono ?_; rintro e w' ⟨rfl, rfl⟩)
      go_ret
      exact ⟨by rw [HE.out]; rfl, rfl⟩
    · have HE : Hid (hexI c = -1) := by
        have : hexI c = -1 := by unfold hexI hexVal; rw [if_neg h1, if_neg h2]
        exact this
      have d0 : decide ((97 : Int) ≤ c.toNat) = false ∨ (decide ((97 : Int) ≤ c.toNat) = true ∧ decide ((c.toNat : Int) ≤ 102) = false) := by
        by_cases h : 97 ≤ c.toNat
        · right; simp; omega
        · left; simp; omega
      clear HD hd h1 h2
      rcases d0 with d1 | ⟨d1, d2⟩
      all_goals
        go_enter Tryd.func100, Tryd.ntmps100
        go_wp2_with (go_at_call 34; refine (HD2.out _).mono ?_; rintro e w' ⟨rfl, rfl⟩)
        go_ret
        exact ⟨by rw [HE.out]; rfl, rfl⟩

/-- what stands behind a real's M -/
def endF (l : List UInt8) (d : Nat) : Nat × Nat :=
  if bAt l d = 112 then
    (if tw digitB l (d + (if bAt l (d + 1) = 45 then 2 else 1)) = 0 then (0, 0) else ((if bAt l (d + 1) = 45 then 2 else 1) + tw digitB l (d + (if bAt l (d + 1) = 45 then 2 else 1)), if bAt l (d + 1) = 45 then 2 else 1))
  else (0, 0)
theorem u8_is {c : UInt8} {k : Nat} (hk : k < 256) : (c = UInt8.ofNat k → ((c.toNat : Int) == (k : Int)) = true ∧ ((c.toNat : Int) != (k : Int)) = false) ∧ (c ≠ UInt8.ofNat k → ((c.toNat : Int) == (k : Int)) = false ∧ ((c.toNat : Int) != (k : Int)) = true) := by
  constructor
  · rintro rfl
    have : (UInt8.ofNat k).toNat = k := by simp; omega
    rw [this]; simp
  · intro h
    have : (c.toNat : Int) ≠ (k : Int) := by
      intro e
      apply h
      have : c.toNat = k := by omega
      rw [← this]; simp
    simpa using this

set_option maxHeartbeats 1000000 in
theorem refEnd_any (a : Option Addr) (n cap d : Nat) (l : List UInt8) (w : World) (ht : Txt w a n cap l) (hr : n ≤ 140737488351232) (hd : d ≤ n) :
    Calls Tryd.prog 63 #[.slice a n cap, .int .i64 d] w fun e w' => e = .returned (.tuple #[.int .i64 (endF l d).1, .int .i64 (endF l d).2]) ∧ w = w' := by
  have hl := ht.1
  rcases Nat.lt_or_ge d n with hlt | hge
  · obtain ⟨b, o, rfl, hcell⟩ := ht.cellAt hlt
    obtain ⟨i112, n112⟩ := u8_is (c := bAt l d) (k := 112) (by decide)
    by_cases h1 : bAt l d = 112
    · obtain ⟨e1, e2⟩ := i112 h1
      -- the sign
      have hcase : ∃ h : Nat, (h = 1 ∨ h = 2) ∧ (if bAt l (d + 1) = 45 then 2 else 1) = h ∧ (h = 2 ↔ bAt l (d + 1) = 45) := by
        by_cases h : bAt l (d + 1) = 45
        · exact ⟨2, .inr rfl, by rw [if_pos h], by simp [h]⟩
        · exact ⟨1, .inl rfl, by rw [if_neg h], by simp [h]⟩
      obtain ⟨h, hh, hif, hiff⟩ := hcase
      have HDG := Lib.hid (digits_any (some ⟨b, o, none⟩) n cap (d + h) l w ht hr (by omega))
      obtain ⟨t, htw⟩ : ∃ t, t = tw digitB l (d + h) := ⟨_, rfl⟩
      have HT2 : Hid (tw digitB l (d + h) = t) := htw.symm
      have htl : t ≤ n := by have := tw_le digitB l (d + h); omega
      have HE : Hid (endF l d = if t = 0 then (0, 0) else (h + t, h)) := by
        have : endF l d = if t = 0 then (0, 0) else (h + t, h) := by unfold endF; rw [if_pos h1, hif, ← htw]
        exact this
      have hw1 : IntKind.i64.wrap ((d : Int) + (h : Int)) = ((d + h : Nat) : Int) := by rw [IntKind.wrap_i64]; omega
      have hnext : (n ≤ d + 1 ∧ h = 1) ∨ (d + 1 < n ∧ h = 1 ∧ ∃ c, w.cell? ⟨b, o + (d + 1), none⟩ = some (.int .u8 c) ∧ (c == 45) = false) ∨ (d + 1 < n ∧ h = 2 ∧ ∃ c, w.cell? ⟨b, o + (d + 1), none⟩ = some (.int .u8 c) ∧ (c == 45) = true) := by
        rcases Nat.lt_or_ge (d + 1) n with h' | h'
        · right
          obtain ⟨b', o', e, hc'⟩ := ht.cellAt h'
          cases e
          obtain ⟨j1, j2⟩ := u8_is (c := bAt l (d + 1)) (k := 45) (by decide)
          by_cases h45 : bAt l (d + 1) = 45
          · exact .inr ⟨h', hiff.2 h45, _, hc', (j1 h45).1⟩
          · left
            refine ⟨h', ?_, _, hc', (j2 h45).1⟩
            rcases hh with h0 | h0
            · exact h0
            · exact absurd (hiff.1 h0) h45
        · left
          refine ⟨h', ?_⟩
          rcases hh with h0 | h0
          · exact h0
          · have := hiff.1 h0; rw [bAt_ge (by omega)] at this; cases this
      have hz : (t = 0 ∧ ((t : Int) == 0) = true) ∨ (t ≠ 0 ∧ ((t : Int) == 0) = false) := by
        rcases Nat.eq_zero_or_pos t with h0 | h0
        · left; exact ⟨h0, by rw [h0]; rfl⟩
        · right; exact ⟨by omega, by rw [beq_eq_false_iff_ne]; omega⟩
      have q0 : decide (n ≤ d) = false := by rw [decide_eq_false_iff_not]; omega
      clear ht hl htw hif hiff hh i112 n112 h1
      rcases hnext with ⟨g1, rfl⟩ | ⟨g1, rfl, c, g2, g3⟩ | ⟨g1, rfl, c, g2, g3⟩ <;> rcases hz with ⟨z1, z2⟩ | ⟨z1, z2⟩
      all_goals
        have Z1 := Lib.hid z1
        clear z1
        first
        | (have q1 : decide (d + 1 < n) = true := by (rw [decide_eq_true_eq]; omega))
        | (have q1 : decide (d + 1 < n) = false := by (rw [decide_eq_false_iff_not]; omega))
        go_enter Tryd.func63, Tryd.ntmps63
        go_wp2_with fail
        refine HDG.out.mono ?_
        rintro e w' ⟨rfl, rfl⟩
        rw [HT2.out]
        go_wp2_with fail
        go_ret2
        rw [HE.out]
        first
        | (rw [if_pos Z1.out]; exact ⟨rfl, rfl⟩)
        | (rw [if_neg Z1.out]; exact ⟨by simp, rfl⟩)
    · obtain ⟨e1, e2⟩ := n112 h1
      have q0 : decide (n ≤ d) = false := by rw [decide_eq_false_iff_not]; omega
      have HE : Hid (endF l d = (0, 0)) := by
        have : endF l d = (0, 0) := by unfold endF; rw [if_neg h1]
        exact this
      clear ht hl i112 n112 h1
      go_enter Tryd.func63, Tryd.ntmps63
      go_wp2_with fail
      go_ret2
      rw [HE.out]
      exact ⟨rfl, rfl⟩
  · have q0 : decide (n ≤ d) = true := by rw [decide_eq_true_eq]; omega
    have HE : Hid (endF l d = (0, 0)) := by
      have : endF l d = (0, 0) := by unfold endF; rw [if_neg]; rw [bAt_ge (by omega)]; decide
      exact this
    clear ht hl
    go_enter Tryd.func63, Tryd.ntmps63
    go_wp2_with fail
    go_ret2
    rw [HE.out]
    exact ⟨rfl, rfl⟩
end Go.Proofs.YtkhghbeojfgkhaaDoor
