/- The reference's leaves: letter, digit, Blank, digits, whole. -/
import Derived.Test.YtkhghbeojfgkhaaDoorRealsPlain
import Derived.Test.YtkhghbeojfgkhaaDoorLexClass
import Derived.WalkKit
import Derived.WalkSpells
import Derived.WalkLawsBesides
import Derived.Lib.Hide
namespace Go.Proofs.YtkhghbeojfgkhaaDoor
open Go.RowKit
set_option maxRecDepth 100000

theorem refDigit_any (c : UInt8) (w : World) : Calls Tryd.prog 34 #[.int .u8 c.toNat] w fun e w' => e = .returned (.bool (digitB c)) ∧ w = w' := by
  have hc := c.toNat_lt
  unfold digitB
  by_cases h1 : 48 ≤ c.toNat
  · by_cases h2 : c.toNat ≤ 57 <;>
    · go_enter Tryd.func34, Tryd.ntmps34
      go_wp2
      go_ret
      exact ⟨by simp [h1, h2]; omega, rfl⟩
  · go_enter Tryd.func34, Tryd.ntmps34
    go_wp2
    go_ret
    exact ⟨by simp [h1], rfl⟩

theorem refLetter_any (c : UInt8) (w : World) : Calls Tryd.prog 33 #[.int .u8 c.toNat] w fun e w' => e = .returned (.bool (letterB c)) ∧ w = w' := by
  have hc := c.toNat_lt
  have h0 : c.toNat < 65 ∨ (65 ≤ c.toNat ∧ c.toNat ≤ 90) ∨ (90 < c.toNat ∧ c.toNat < 97) ∨ (97 ≤ c.toNat ∧ c.toNat ≤ 122) ∨ 122 < c.toNat := by omega
  have hb : letterB c = true ∨ letterB c = false := by cases letterB c <;> simp
  unfold letterB
  rcases h0 with h1 | ⟨h1, h2⟩ | ⟨h1, h2⟩ | ⟨h1, h2⟩ | h1
  · have d1 : decide ((65 : Int) ≤ c.toNat) = false := by simp; omega
    have d2 : decide ((97 : Int) ≤ c.toNat) = false := by simp; omega
    go_enter Tryd.func33, Tryd.ntmps33
    go_wp2
    go_ret
    exact ⟨by simp; omega, rfl⟩
  · have d1 : decide ((65 : Int) ≤ c.toNat) = true := by simp; omega
    have d2 : decide ((c.toNat : Int) ≤ 90) = true := by simp; omega
    go_enter Tryd.func33, Tryd.ntmps33
    go_wp2
    go_ret
    exact ⟨by simp; omega, rfl⟩
  · have d1 : decide ((65 : Int) ≤ c.toNat) = true := by simp; omega
    have d2 : decide ((c.toNat : Int) ≤ 90) = false := by simp; omega
    have d3 : decide ((97 : Int) ≤ c.toNat) = false := by simp; omega
    go_enter Tryd.func33, Tryd.ntmps33
    go_wp2
    go_ret
    exact ⟨by simp; omega, rfl⟩
  · have d1 : decide ((65 : Int) ≤ c.toNat) = true := by simp; omega
    have d2 : decide ((c.toNat : Int) ≤ 90) = false := by simp; omega
    have d3 : decide ((97 : Int) ≤ c.toNat) = true := by simp; omega
    have d4 : decide ((c.toNat : Int) ≤ 122) = true := by simp; omega
    go_enter Tryd.func33, Tryd.ntmps33
    go_wp2
    go_ret
    exact ⟨by simp; omega, rfl⟩
  · have d1 : decide ((65 : Int) ≤ c.toNat) = true := by simp; omega
    have d2 : decide ((c.toNat : Int) ≤ 90) = false := by simp; omega
    have d3 : decide ((97 : Int) ≤ c.toNat) = true := by simp; omega
    have d4 : decide ((c.toNat : Int) ≤ 122) = false := by simp; omega
    go_enter Tryd.func33, Tryd.ntmps33
    go_wp2
    go_ret
    exact ⟨by simp; omega, rfl⟩

theorem refBlank_any (c : UInt8) (w : World) : Calls Tryd.prog 21 #[.int .u8 c.toNat] w fun e w' => e = .returned (.bool (blankB c)) ∧ w = w' := by
  have f (k : Nat) (hk : k < 256) : (c == UInt8.ofNat k) = ((c.toNat : Int) == (k : Int)) := by
    by_cases h : c.toNat = k
    · rw [u8_eq h, h]; simp
    · rw [u8_ne h hk]; symm; rw [beq_eq_false_iff_ne]; omega
  have f32 := f 32 (by omega)
  have f9 := f 9 (by omega)
  have f10 := f 10 (by omega)
  have f13 := f 13 (by omega)
  have hB : blankB c = (((c.toNat : Int) == 32) || ((c.toNat : Int) == 9) || ((c.toNat : Int) == 10) || ((c.toNat : Int) == 13)) := by
    unfold blankB
    rw [show (32 : UInt8) = UInt8.ofNat 32 from rfl, show (9 : UInt8) = UInt8.ofNat 9 from rfl, show (10 : UInt8) = UInt8.ofNat 10 from rfl, show (13 : UInt8) = UInt8.ofNat 13 from rfl, f32, f9, f10, f13]
    rfl
  clear f f32 f9 f10 f13
  rw [hB]
  clear hB
  cases e1 : ((c.toNat : Int) == 32) <;> cases e2 : ((c.toNat : Int) == 9) <;> cases e3 : ((c.toNat : Int) == 10) <;> cases e4 : ((c.toNat : Int) == 13) <;>
  · go_enter Tryd.func21, Tryd.ntmps21
    go_wp2
    go_ret
    exact ⟨rfl, rfl⟩


/-- the cell of a byte that is there -/
theorem Txt.cellAt {w : World} {a : Option Addr} {n cap : Nat} {l : List UInt8} (ht : Txt w a n cap l) {i : Nat} (hi : i < n) : ∃ b o, a = some ⟨b, o, none⟩ ∧ w.cell? ⟨b, o + i, none⟩ = some (.int .u8 ((bAt l i).toNat : Int)) := by
  obtain ⟨hl, hnc, hm, h4⟩ := ht
  rcases h4 with ⟨_, h0, _⟩ | ⟨⟨b, o, s⟩, rfl, hx⟩
  · omega
  · obtain ⟨rfl, hc⟩ := hx.spot (by omega)
    refine ⟨b, o, rfl, ?_⟩
    rw [bAt_lt (by omega)]
    exact hc i (by omega)

theorem digits_any (a : Option Addr) (n cap f : Nat) (l : List UInt8) (w : World) (ht : Txt w a n cap l) (hr : n ≤ 140737488351232) (hf : f ≤ 140737488351300) :
    Calls Tryd.prog 62 #[.slice a n cap, .int .i64 f] w fun e w' => e = .returned (.int .i64 (tw digitB l f)) ∧ w = w' := by
  have hl := ht.1
  have HT := Lib.hid ht
  have HL := Lib.hid hl
  clear ht hl
  go_enter Tryd.func62, Tryd.ntmps62
  go_wp2
  go_loop [5] (fun i => ∃ j : Nat, (j = 0 ∨ f + j ≤ n) ∧ i = .int .i64 j ∧ Hid (tw digitB l f = j + tw digitB l (f + j))) (fun i => n - (intOf i).toNat)
  case atStart => exact ⟨0, .inl rfl, rfl, by show tw digitB l f = 0 + tw digitB l (f + 0); rw [Nat.add_zero, Nat.zero_add]⟩
  case round =>
    obtain ⟨j, hj, rfl, hg⟩ := hrel
    have hjn : j ≤ n := by omega
    rcases Nat.lt_or_ge (f + j) n with hlt | hge
    · obtain ⟨b, o, rfl, hcell⟩ := HT.out.cellAt hlt
      obtain ⟨c, hc⟩ : ∃ c, c = bAt l (f + j) := ⟨_, rfl⟩
      rw [← hc] at hcell
      have HD := refDigit_any c
      cases hd : digitB c
      · rw [hd] at HD
        have HD2 := Lib.hid HD
        have HE : Hid (tw digitB l f = j) := by
          have : tw digitB l f = j := by rw [hg.out, tw_no (by rw [← hc]; exact hd)]; rfl
          exact this
        clear HD hc hd
        go_wp2_with (go_at_call 34; refine (HD2.out _).mono ?_; rintro e w' ⟨rfl, rfl⟩)
        go_ret
        exact ⟨by rw [HE.out]; rfl, rfl⟩
      · rw [hd] at HD
        have HD2 := Lib.hid HD
        have HE : Hid (tw digitB l f = (j + 1) + tw digitB l (f + (j + 1))) := by
          have : tw digitB l f = (j + 1) + tw digitB l (f + (j + 1)) := by
            rw [hg.out, (tw_yes (by rw [← hc]; exact hd) digit0).2, ← Nat.add_assoc, ← Nat.add_assoc]
          exact this
        clear HD hc hd
        go_wp2_with (go_at_call 34; refine (HD2.out _).mono ?_; rintro e w' ⟨rfl, rfl⟩)
        go_round
        case rel => exact ⟨j + 1, .inr (by omega), by go_num, HE⟩
        case measure => simp [intOf]; omega
    · have HE : Hid (tw digitB l f = j) := by
        have : tw digitB l f = j := by
          rw [hg.out]
          have : tw digitB l (f + j) = 0 := by have := tw_le digitB l (f + j); rw [HL.out] at this; omega
          omega
        exact this
      go_wp2
      go_ret
      exact ⟨by rw [HE.out]; rfl, rfl⟩

/-- the int that digits say -/
def refW (l : List UInt8) : Option Nat := if valD 0 l ≤ 9223372036854775807 then some (valD 0 l) else none
def RefW (l : List UInt8) (w : World) (e : Ending) (w' : World) : Prop := (match refW l with | some v => e = .returned (.tuple #[.int .i64 v, .bool true]) | none => e = .returned (.tuple #[.int .i64 0, .bool false])) ∧ w = w'
theorem valD_snoc (l : List UInt8) (k : Nat) (hk : k < l.length) : valD 0 (l.take (k + 1)) = valD 0 (l.take k) * 10 + ((bAt l k).toNat - 48) := by
  unfold valD
  rw [take_snoc _ _ hk, List.foldl_append, bAt_lt hk]; rfl
theorem valD_take (l : List UInt8) (k : Nat) : valD 0 (l.take k) ≤ valD 0 l := by
  have h : valD 0 l = valD (valD 0 (l.take k)) (l.drop k) := by
    unfold valD
    rw [← List.foldl_append, List.take_append_drop]
  rw [h]
  exact valD_le _ _

set_option maxHeartbeats 1000000 in
theorem refWhole_any (a : Option Addr) (n cap : Nat) (l : List UInt8) (w : World) (ht : Txt w a n cap l) (hr : n ≤ 140737488351232) (hd : ∀ c ∈ l, 48 ≤ c.toNat ∧ c.toNat ≤ 57) :
    Calls Tryd.prog 65 #[.slice a n cap] w fun e w' => RefW l w e w' := by
  have hl := ht.1
  have HT := Lib.hid ht
  have HL := Lib.hid hl
  have HD := Lib.hid hd
  clear ht hl hd
  go_enter Tryd.func65, Tryd.ntmps65
  go_wp2
  go_loop [4, 5] (fun v i => ∃ k u : Nat, k ≤ n ∧ i = .int .i64 k ∧ v = .int .u64 u ∧ u ≤ 9223372036854775807 ∧ Hid (u = valD 0 (l.take k))) (fun _ i => n - (intOf i).toNat)
  case atStart => exact ⟨0, 0, Nat.zero_le _, rfl, rfl, Nat.zero_le _, rfl⟩
  case round =>
    obtain ⟨k, u, hk, rfl, rfl, hu, hv⟩ := hrel
    rcases Nat.lt_or_ge k n with hlt | hge
    · obtain ⟨b, o, rfl, hcell⟩ := HT.out.cellAt hlt
      have hkl : k < l.length := by rw [HL.out]; exact hlt
      have hdc : 48 ≤ (bAt l k).toNat ∧ (bAt l k).toNat ≤ 57 := HD.out _ (by rw [bAt_lt hkl]; exact List.getElem_mem _)
      have hsn := valD_snoc l k hkl
      obtain ⟨c, hc⟩ : ∃ c, c = (bAt l k).toNat := ⟨_, rfl⟩
      rw [← hc] at hcell hdc hsn
      rw [← hv.out] at hsn
      have HSN := Lib.hid hsn
      have hq1 : 0 ≤ (9223372036854775807 - ((c : Int) - 48)) := by omega
      have c1 := hdc.1
      have c2 := hdc.2
      clear hsn hc hdc
      rcases Nat.lt_or_ge 9223372036854775807 (u * 10 + (c - 48)) with hbig | hsmall
      · have hgt : decide ((9223372036854775807 - ((c : Int) - 48)) / 10 < (u : Int)) = true := by rw [decide_eq_true_eq]; omega
        have HN : Hid (refW l = none) := by
          have : refW l = none := by
            unfold refW
            have := valD_take l (k + 1)
            rw [HSN.out] at this
            rw [if_neg (by omega)]
          exact this
        clear hbig
        go_wp2
        go_ret2
        unfold RefW
        rw [HN.out]
        exact ⟨rfl, rfl⟩
      · have hgt : decide ((9223372036854775807 - ((c : Int) - 48)) / 10 < (u : Int)) = false := by rw [decide_eq_false_iff_not]; omega
        have hw : IntKind.u64.wrap (10 * (u : Int) + ((c : Int) - 48)) = ((u * 10 + (c - 48) : Nat) : Int) := by rw [IntKind.wrap_u64]; omega
        go_wp2
        go_round
        case rel => exact ⟨k + 1, u * 10 + (c - 48), by omega, by go_num, by congr 1, hsmall, HSN.out.symm⟩
        case measure => simp [intOf]; omega
    · obtain rfl : k = n := by omega
      have HS : Hid (refW l = some u) := by
        have : refW l = some u := by
          unfold refW
          have h := hv.out
          rw [← HL.out, List.take_length] at h
          rw [← h, if_pos hu]
        exact this
      go_wp2
      go_ret2
      unfold RefW
      rw [HS.out]
      exact ⟨rfl, rfl⟩
end Go.Proofs.YtkhghbeojfgkhaaDoor
