/- value's part: it tells some byte and some size. -/
import Derived.Test.YtofjbakepneilaaGreatDoorVForm
namespace Go.Proofs.YtofjbakepneilaaGreatDoor
open Go.RowKit Go.Shelf
set_option maxRecDepth 100000

/-- a byte and how many bytes it takes -/
def PartV (n : Nat) (e : Ending) : Prop := ∃ (c : UInt8) (k : Nat), 1 ≤ k ∧ k ≤ n ∧ e = .returned (.tuple #[.int .u8 c.toNat, .int .i64 k])
theorem partv_of {n : Nat} {c : Int} {k : Nat} {e : Ending} (h0 : 0 ≤ c) (h1 : c < 256) (hk : 1 ≤ k) (hn : k ≤ n) (he : e = .returned (.tuple #[.int .u8 c, .int .i64 k])) : PartV n e := by
  refine ⟨UInt8.ofNat c.toNat, k, hk, hn, ?_⟩
  rw [he]
  have : ((UInt8.ofNat c.toNat).toNat : Int) = c := by
    rw [UInt8.toNat_ofNat']
    omega
  rw [this]
set_option maxHeartbeats 2000000 in
theorem vpart_any (s : ByteArray) (w : World) (h2 : 2 ≤ s.size) (hm : s.size ≤ 9223372036854775806) :
    Calls Tryz.prog 63 #[.string s] w fun e w' => PartV s.size e ∧ w = w' := by
  have l0 : (0 : Nat) < s.size := by omega
  have l1 : (1 : Nat) < s.size := by omega
  have b0 := s[0].toNat_lt
  have b1 := s[1].toNat_lt
  by_cases hb : s[0] = 92
  · have t1 : (((s[0]'l0).toNat : Int) != 92) = false := by rw [hb]; rfl
    have t1' : (((s[0]'l0).toNat : Int) == 92) = true := by rw [hb]; rfl
    clear hb
    by_cases hx : s[1] = 120 ∧ 4 ≤ s.size
    · obtain ⟨hx, h4⟩ := hx
      have l2 : (2 : Nat) < s.size := by omega
      have l3 : (3 : Nat) < s.size := by omega
      have t2 : (((s[1]'l1).toNat : Int) != 120) = false := by rw [hx]; rfl
      have t2' : (((s[1]'l1).toNat : Int) == 120) = true := by rw [hx]; rfl
      have t3 : decide ((s.size : Int) < 4) = false := decide_eq_false (by omega)
      clear hx
      go_enter Tryz.func63, Tryz.ntmps63
      go_wp2_with (go_at_call 102; refine (Tryz.strings_IndexByte _ _ _).mono ?_; rintro e w' ⟨rfl, rfl⟩)
      go_ret2
      exact ⟨partv_of (k := 4) (Int.emod_nonneg _ (by decide)) (Int.emod_lt_of_pos _ (by decide)) (by omega) h4 rfl, rfl⟩
    · have hq : (((s[1]'l1).toNat : Int) != 120) = true ∨ ((((s[1]'l1).toNat : Int) != 120) = false ∧ decide ((s.size : Int) < 4) = true) := by
        by_cases h120 : s[1] = 120
        · refine .inr ⟨by rw [h120]; rfl, decide_eq_true ?_⟩
          have : ¬ 4 ≤ s.size := fun h => hx ⟨h120, h⟩
          omega
        · refine .inl ?_
          rw [bne_iff_ne]
          intro h
          exact h120 (UInt8.toNat_inj.1 (by have : (120 : UInt8).toNat = 120 := rfl; omega))
      rcases hq with t2 | ⟨t2, t3⟩
      · clear hx
        go_enter Tryz.func63, Tryz.ntmps63
        go_wp2_with fail
        go_ret2
        exact ⟨partv_of (k := 2) (by omega) (by omega) (by omega) h2 rfl, rfl⟩
      · clear hx
        go_enter Tryz.func63, Tryz.ntmps63
        go_wp2_with fail
        go_ret2
        exact ⟨partv_of (k := 2) (by omega) (by omega) (by omega) h2 rfl, rfl⟩
  · have t1 : (((s[0]'l0).toNat : Int) != 92) = true := by
      rw [bne_iff_ne]
      intro h
      exact hb (UInt8.toNat_inj.1 (by have : (92 : UInt8).toNat = 92 := rfl; omega))
    clear hb
    go_enter Tryz.func63, Tryz.ntmps63
    go_wp2_with fail
    go_ret2
    exact ⟨partv_of (k := 1) (by omega) (by omega) (by omega) (by omega) rfl, rfl⟩
end Go.Proofs.YtofjbakepneilaaGreatDoor
