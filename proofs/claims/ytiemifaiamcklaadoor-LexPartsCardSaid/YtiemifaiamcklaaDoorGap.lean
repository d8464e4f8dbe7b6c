/- gap's walk. -/
import Derived.Test.YtiemifaiamcklaaDoorChainPlain
import Derived.Test.YtiemifaiamcklaaDoorTextWalks
import Derived.WalkKit
import Derived.WalkSpells
import Derived.WalkLawsBesides
import Derived.Lib.Hide
namespace Go.Proofs.YtiemifaiamcklaaDoor
open Go.RowKit
set_option maxRecDepth 100000

def gapOk (l : List UInt8) (last : Bool) : Bool := match gapB false l with
  | none => false
  | some d => last || !d
theorem gap_step_true {l : List UInt8} {k : Nat} (h : k < l.length) : gapB true (l.drop k) = gapB (l[k] != 10) (l.drop (k + 1)) := by
  rw [List.drop_eq_getElem_cons h]; rfl
theorem gap_step_false {l : List UInt8} {k : Nat} (h : k < l.length) : gapB false (l.drop k) = if l[k] = 35 then gapB true (l.drop (k + 1)) else if blankB l[k] = true then gapB false (l.drop (k + 1)) else none := by
  rw [List.drop_eq_getElem_cons h]; rfl
theorem gap_end (l : List UInt8) (c : Bool) : gapB c (l.drop l.length) = some c := by rw [List.drop_length]; cases c <;> rfl
theorem u8_not {x : UInt8} {n : Nat} (hn : n < 256) (h : x ≠ UInt8.ofNat n) : ((x.toNat : Int) == (n : Int)) = false ∧ ((x.toNat : Int) != (n : Int)) = true := by
  have : (x.toNat : Int) ≠ (n : Int) := by
    intro e
    apply h
    have : x.toNat = n := by omega
    rw [← this]; simp
  exact ⟨by simpa using this, by simpa using this⟩

set_option maxHeartbeats 1000000 in
theorem gap_any (a : Option Addr) (n cap : Nat) (l : List UInt8) (last : Bool) (w : World) (ht : Txt w a n cap l) (hr : n ≤ 140737488351232) :
    Calls Tryd.prog 19 #[.slice a n cap, .bool last] w fun e w' => e = .returned (.bool (gapOk l last)) ∧ w = w' := by
  obtain ⟨hl, hnc, hm, h4⟩ := ht
  have hcell : ∀ k (h : k < l.length), ∃ b o, a = some ⟨b, o, none⟩ ∧ w.cell? ⟨b, o + k, none⟩ = some (.int .u8 (l[k].toNat : Int)) := by
    intro k h
    rcases h4 with ⟨_, h0, _⟩ | ⟨⟨b, o, s⟩, rfl, hx⟩
    · omega
    · obtain ⟨rfl, hc⟩ := hx.spot (by omega)
      exact ⟨b, o, rfl, hc k h⟩
  have HC := Lib.hid hcell
  have HL := Lib.hid hl
  have HG := Lib.hid (show ∀ c, gapB c (l.drop l.length) = some c from gap_end l)
  clear hcell h4 hl
  go_enter Tryd.func19, Tryd.ntmps19
  go_wp2
  go_loop [5, 6] (fun cm i => ∃ (k : Nat) (c : Bool), k ≤ n ∧ i = .int .i64 k ∧ cm = .bool c ∧ Hid (gapB false l = gapB c (l.drop k))) (fun _ i => n - (intOf i).toNat)
  case atStart => exact ⟨0, false, Nat.zero_le _, rfl, rfl, rfl⟩
  case round =>
    obtain ⟨k, c, hk, rfl, rfl, hg⟩ := hrel
    rcases Nat.lt_or_ge k n with hlt | hge
    · have hlt' : k < l.length := by rw [HL.out]; exact hlt
      obtain ⟨b, o, rfl, hcl⟩ := HC.out k hlt'
      have HT := Lib.hid (gap_step_true hlt')
      have HF := Lib.hid (gap_step_false hlt')
      obtain ⟨x, hx⟩ : ∃ x, x = l[k] := ⟨_, rfl⟩
      rw [← hx] at hcl HT HF
      clear hx
      cases c
      · by_cases h35 : x = 35
        · subst h35
          have e1 : ((((35 : UInt8).toNat : Nat) : Int)) = 35 := rfl
          rw [e1] at hcl
          go_wp2
          go_round
          case rel => exact ⟨k + 1, true, by omega, by go_num, rfl, by rw [hg.out, HF.out, if_pos rfl]; rfl⟩
          case measure => simp [intOf]; omega
        · by_cases hb : blankB x = true
          · have hb4 : x = 32 ∨ x = 9 ∨ x = 10 ∨ x = 13 := by simpa [blankB, or_assoc] using hb
            have HN : Hid (gapB false l = gapB false (l.drop (k + 1))) := by
              have : gapB false l = gapB false (l.drop (k + 1)) := by rw [hg.out, HF.out, if_neg h35, if_pos hb]
              exact this
            clear hb h35 HF HT
            rcases hb4 with rfl | rfl | rfl | rfl
            all_goals
              simp only [show (((32 : UInt8).toNat : Nat) : Int) = 32 from rfl, show (((9 : UInt8).toNat : Nat) : Int) = 9 from rfl, show (((10 : UInt8).toNat : Nat) : Int) = 10 from rfl, show (((13 : UInt8).toNat : Nat) : Int) = 13 from rfl] at hcl
              go_wp2
              go_round
              case rel => exact ⟨k + 1, false, by omega, by go_num, rfl, HN⟩
              case measure => simp [intOf]; omega
          · have hb4 : x ≠ 32 ∧ x ≠ 9 ∧ x ≠ 10 ∧ x ≠ 13 := by simpa [blankB, not_or, and_assoc] using hb
            obtain ⟨n1, n2⟩ := u8_not (n := 35) (by decide) h35
            obtain ⟨a1, a2⟩ := u8_not (n := 32) (by decide) hb4.1
            obtain ⟨b1, b2⟩ := u8_not (n := 9) (by decide) hb4.2.1
            obtain ⟨c1, c2⟩ := u8_not (n := 10) (by decide) hb4.2.2.1
            obtain ⟨d1, d2⟩ := u8_not (n := 13) (by decide) hb4.2.2.2
            have HN : Hid (gapOk l last = false) := by
              have : gapOk l last = false := by unfold gapOk; rw [hg.out, HF.out, if_neg h35, if_neg hb]
              exact this
            clear hb h35 HF HT hb4
            simp only [Int.cast_ofNat_Int] at n1 n2 a1 a2 b1 b2 c1 c2 d1 d2
            go_wp2
            go_ret
            exact ⟨by rw [HN.out]; rfl, rfl⟩
      · by_cases h10 : x = 10
        · subst h10
          have e1 : ((((10 : UInt8).toNat : Nat) : Int)) = 10 := rfl
          rw [e1] at hcl
          go_wp2
          go_round
          case rel => exact ⟨k + 1, false, by omega, by go_num, rfl, by rw [hg.out, HT.out]; rfl⟩
          case measure => simp [intOf]; omega
        · obtain ⟨c1, c2⟩ := u8_not (n := 10) (by decide) h10
          simp only [Int.cast_ofNat_Int] at c1 c2
          have HN : Hid (gapB false l = gapB true (l.drop (k + 1))) := by
            have : gapB false l = gapB true (l.drop (k + 1)) := by rw [hg.out, HT.out, show (x != 10) = true by simpa using h10]
            exact this
          clear h10
          go_wp2
          go_round
          case rel => exact ⟨k + 1, true, by omega, by go_num, rfl, HN⟩
          case measure => simp [intOf]; omega
    · obtain rfl : k = n := by omega
      have HE : Hid (gapOk l last = (last || !c)) := by
        have : gapOk l last = (last || !c) := by unfold gapOk; rw [hg.out, ← HL.out, HG.out]
        exact this
      cases last <;> cases c <;> (go_wp2; go_ret; exact ⟨by rw [HE.out]; rfl, rfl⟩)
end Go.Proofs.YtiemifaiamcklaaDoor
