/- The walks of byteAt, isBlank, isLetter, isDigit, isWord. -/
import Derived.Test.YtofjbakepneilaaGreatDoorRows
import Derived.Test.YtofjbakepneilaaGreatDoorMQuotePlain
import Derived.WalkKit
import Derived.WalkSpells
import Derived.WalkLawsBesides
import Derived.Lib.Hide
namespace Go.Proofs.YtofjbakepneilaaGreatDoor
open Go.RowKit
set_option maxRecDepth 100000

theorem byteAt_any (a : Option Addr) (n cap i : Nat) (l : List UInt8) (w : World) (ht : Txt w a n cap l) :
    Calls Tryz.prog 131 #[.slice a n cap, .int .i64 i] w fun e w' => e = .returned (.int .u8 (bAt l i).toNat) ∧ w = w' := by
  obtain ⟨hl, hnc, hm, h4⟩ := ht
  by_cases hi : i < n
  · rw [bAt_lt (by omega)]
    rcases h4 with ⟨_, h0, _⟩ | ⟨x, rfl, hx⟩
    · omega
    · obtain ⟨b, o, s⟩ := x
      obtain ⟨rfl, hc⟩ := hx.spot (by omega)
      have hcell := hc i (by omega)
      clear hc hx
      subst hl
      go_enter Tryz.func131, Tryz.ntmps131
      go_wp2
      go_ret
      exact ⟨rfl, rfl⟩
  · rw [bAt_ge (by omega)]
    clear h4
    go_enter Tryz.func131, Tryz.ntmps131
    go_wp2
    go_ret
    exact ⟨rfl, rfl⟩

theorem byteAt_int (a : Option Addr) (n cap : Nat) (z : Int) (i : Nat) (hz : z = (i : Int)) (l : List UInt8) (w : World) (ht : Txt w a n cap l) :
    Calls Tryz.prog 131 #[.slice a n cap, .int .i64 z] w fun e w' => e = .returned (.int .u8 (bAt l i).toNat) ∧ w = w' := by
  subst hz
  exact byteAt_any a n cap i l w ht

theorem u8_ne {c : UInt8} {k : Nat} (h : c.toNat ≠ k) (hk : k < 256) : (c == UInt8.ofNat k) = false := by
  rw [beq_eq_false_iff_ne]
  intro e
  apply h
  rw [e]
  simp
  omega
theorem u8_eq {c : UInt8} {k : Nat} (h : c.toNat = k) : (c == UInt8.ofNat k) = true := by
  rw [beq_iff_eq, ← h]
  simp

theorem u8_neq {c d : UInt8} (h : c ≠ d) : ((c.toNat : Int) == (d.toNat : Int)) = false := by
  rw [beq_eq_false_iff_ne]
  intro e
  exact h (UInt8.toNat_inj.1 (by omega))
theorem u8_neqn {c d : UInt8} (h : c ≠ d) : ((c.toNat : Int) != (d.toNat : Int)) = true := by
  rw [bne_iff_ne]
  intro e
  exact h (UInt8.toNat_inj.1 (by omega))

theorem isDigit_any (c : UInt8) (w : World) : Calls Tryz.prog 164 #[.int .u8 c.toNat] w fun e w' => e = .returned (.bool (digitB c)) ∧ w = w' := by
  have hc := c.toNat_lt
  unfold digitB
  by_cases h1 : 48 ≤ c.toNat
  · by_cases h2 : c.toNat ≤ 57 <;>
    · go_enter Tryz.func164, Tryz.ntmps164
      go_wp2
      go_ret
      exact ⟨by simp [h1, h2]; omega, rfl⟩
  · go_enter Tryz.func164, Tryz.ntmps164
    go_wp2
    go_ret
    exact ⟨by simp [h1], rfl⟩

theorem isLetter_any (c : UInt8) (w : World) : Calls Tryz.prog 163 #[.int .u8 c.toNat] w fun e w' => e = .returned (.bool (letterB c)) ∧ w = w' := by
  have hc := c.toNat_lt
  have h0 : c.toNat < 65 ∨ (65 ≤ c.toNat ∧ c.toNat ≤ 90) ∨ (90 < c.toNat ∧ c.toNat < 97) ∨ (97 ≤ c.toNat ∧ c.toNat ≤ 122) ∨ 122 < c.toNat := by omega
  have hb : letterB c = true ∨ letterB c = false := by cases letterB c <;> simp
  unfold letterB
  rcases h0 with h1 | ⟨h1, h2⟩ | ⟨h1, h2⟩ | ⟨h1, h2⟩ | h1
  · have d1 : decide ((65 : Int) ≤ c.toNat) = false := by simp; omega
    have d2 : decide ((97 : Int) ≤ c.toNat) = false := by simp; omega
    go_enter Tryz.func163, Tryz.ntmps163
    go_wp2
    go_ret
    exact ⟨by simp; omega, rfl⟩
  · have d1 : decide ((65 : Int) ≤ c.toNat) = true := by simp; omega
    have d2 : decide ((c.toNat : Int) ≤ 90) = true := by simp; omega
    go_enter Tryz.func163, Tryz.ntmps163
    go_wp2
    go_ret
    exact ⟨by simp; omega, rfl⟩
  · have d1 : decide ((65 : Int) ≤ c.toNat) = true := by simp; omega
    have d2 : decide ((c.toNat : Int) ≤ 90) = false := by simp; omega
    have d3 : decide ((97 : Int) ≤ c.toNat) = false := by simp; omega
    go_enter Tryz.func163, Tryz.ntmps163
    go_wp2
    go_ret
    exact ⟨by simp; omega, rfl⟩
  · have d1 : decide ((65 : Int) ≤ c.toNat) = true := by simp; omega
    have d2 : decide ((c.toNat : Int) ≤ 90) = false := by simp; omega
    have d3 : decide ((97 : Int) ≤ c.toNat) = true := by simp; omega
    have d4 : decide ((c.toNat : Int) ≤ 122) = true := by simp; omega
    go_enter Tryz.func163, Tryz.ntmps163
    go_wp2
    go_ret
    exact ⟨by simp; omega, rfl⟩
  · have d1 : decide ((65 : Int) ≤ c.toNat) = true := by simp; omega
    have d2 : decide ((c.toNat : Int) ≤ 90) = false := by simp; omega
    have d3 : decide ((97 : Int) ≤ c.toNat) = true := by simp; omega
    have d4 : decide ((c.toNat : Int) ≤ 122) = false := by simp; omega
    go_enter Tryz.func163, Tryz.ntmps163
    go_wp2
    go_ret
    exact ⟨by simp; omega, rfl⟩

theorem isBlank_any (c : UInt8) (w : World) : Calls Tryz.prog 162 #[.int .u8 c.toNat] w fun e w' => e = .returned (.bool (blankB c)) ∧ w = w' := by
  have f (k : Nat) (hk : k < 256) : (c == UInt8.ofNat k) = ((c.toNat : Int) == (k : Int)) := by
    by_cases h : c.toNat = k
    · rw [u8_eq h, h]; simp
    · rw [u8_ne h hk]; symm; rw [beq_eq_false_iff_ne]; omega
  have f32 := f 32 (by omega)
  have f9 := f 9 (by omega)
  have f10 := f 10 (by omega)
  have f13 := f 13 (by omega)
  have hB : blankB c = (((c.toNat : Int) == 32) || ((c.toNat : Int) == 9) || ((c.toNat : Int) == 10) || ((c.toNat : Int) == 13)) := by
    unfold blankB
    rw [show (32 : UInt8) = UInt8.ofNat 32 from rfl, show (9 : UInt8) = UInt8.ofNat 9 from rfl, show (10 : UInt8) = UInt8.ofNat 10 from rfl, show (13 : UInt8) = UInt8.ofNat 13 from rfl, f32, f9, f10, f13]
    rfl
  clear f f32 f9 f10 f13
  rw [hB]
  clear hB
  cases e1 : ((c.toNat : Int) == 32) <;> cases e2 : ((c.toNat : Int) == 9) <;> cases e3 : ((c.toNat : Int) == 10) <;> cases e4 : ((c.toNat : Int) == 13) <;>
  · go_enter Tryz.func162, Tryz.ntmps162
    go_wp2
    go_ret
    exact ⟨rfl, rfl⟩

theorem isWord_any (c : UInt8) (w : World) : Calls Tryz.prog 130 #[.int .u8 c.toNat] w fun e w' => e = .returned (.bool (wordB c)) ∧ w = w' := by
  unfold wordB
  have f95 : (c == 95) = ((c.toNat : Int) == 95) := by
    by_cases h : c.toNat = 95
    · rw [show (95 : UInt8) = UInt8.ofNat 95 from rfl, u8_eq h, h]; rfl
    · rw [show (95 : UInt8) = UInt8.ofNat 95 from rfl, u8_ne h (by omega)]; symm; rw [beq_eq_false_iff_ne]; omega
  rw [f95]
  clear f95
  have hL := Lib.hid (isLetter_any c w)
  have hD := Lib.hid (isDigit_any c w)
  generalize letterB c = bl at *
  generalize digitB c = bd at *
  cases bl
  · cases bd
    · cases e1 : ((c.toNat : Int) == 95) <;>
      · go_enter Tryz.func130, Tryz.ntmps130
        go_wp2_with (first | (go_at_call 163; refine hL.out.mono ?_; rintro e w' ⟨rfl, rfl⟩) | (go_at_call 164; refine hD.out.mono ?_; rintro e w' ⟨rfl, rfl⟩))
        go_ret
        exact ⟨rfl, rfl⟩
    · go_enter Tryz.func130, Tryz.ntmps130
      go_wp2_with (first | (go_at_call 163; refine hL.out.mono ?_; rintro e w' ⟨rfl, rfl⟩) | (go_at_call 164; refine hD.out.mono ?_; rintro e w' ⟨rfl, rfl⟩))
      go_ret
      exact ⟨rfl, rfl⟩
  · go_enter Tryz.func130, Tryz.ntmps130
    go_wp2_with (first | (go_at_call 163; refine hL.out.mono ?_; rintro e w' ⟨rfl, rfl⟩) | (go_at_call 164; refine hD.out.mono ?_; rintro e w' ⟨rfl, rfl⟩))
    go_ret
    exact ⟨rfl, rfl⟩
end Go.Proofs.YtofjbakepneilaaGreatDoor
