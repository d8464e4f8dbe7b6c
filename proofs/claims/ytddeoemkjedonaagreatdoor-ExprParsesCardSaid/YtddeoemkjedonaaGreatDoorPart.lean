/- The walk of part. -/
import Derived.Test.YtddeoemkjedonaaGreatDoorRows
import Derived.Test.YtddeoemkjedonaaGreatDoorMQuotePlain
import Derived.Test.YtddeoemkjedonaaGreatDoorMTextWalks
import Derived.Test.YtddeoemkjedonaaGreatDoorQuoteLex
import Derived.Test.YtddeoemkjedonaaGreatDoorShelf
import Derived.WalkKit
import Derived.WalkSpells
import Derived.WalkLawsBesides
import Derived.Lib.Hide
namespace Go.Proofs.YtddeoemkjedonaaGreatDoor
open Go.RowKit
set_option maxRecDepth 100000

theorem isPlain_b (c : UInt8) (w : World) : Calls Tryz.prog 98 #[.int .u8 c.toNat] w fun e w' => e = .returned (.bool (plainB c)) ∧ w = w' := isPlain_any c w

/-- strings.IndexByte of the sixteen digits' text -/
theorem hex_any (c : UInt8) (w : World) :
    Calls Tryz.prog 90 #[.string ⟨#[48, 49, 50, 51, 52, 53, 54, 55, 56, 57, 97, 98, 99, 100, 101, 102]⟩, .int .u8 c.toNat] w fun e w' => e = .returned (.int .i64 (hexI c)) ∧ w = w' :=
  (Tryz.strings_IndexByte ⟨#[48, 49, 50, 51, 52, 53, 54, 55, 56, 57, 97, 98, 99, 100, 101, 102]⟩ c.toNat w).mono fun e w' ⟨he, hw⟩ => ⟨by rw [he, ← hex_index]; simp [hexL], hw.symm⟩

theorem hex_or' : ∀ h : Nat, h < 16 → ∀ k : Nat, k < 16 → bits .or .i64 ((h : Int) * 16) (k : Int) = 16 * (h : Int) + (k : Int) := by decide +kernel
theorem hex_or (h k : Nat) (hh : h < 16) (hk : k < 16) : bits .or .i64 ((h : Int) * 16) (k : Int) = 16 * (h : Int) + (k : Int) := hex_or' h hh k hk
theorem partF_hex {l : List UInt8} {h k : Nat} {q : UInt8} (h92 : bAt l 0 = 92) (g120 : bAt l 1 = 120) (h2 : hexVal (bAt l 2) = some h) (h3 : hexVal (bAt l 3) = some k) (hq : q = UInt8.ofNat (16 * h + k)) : partF l = if plainB q = true then (0, 0) else (q, 4) := by
  unfold partF
  rw [if_neg (fun e => e.1 h92), if_neg (by rw [g120]; exact fun e => absurd e.2 (by decide)), if_pos ⟨h92, g120⟩, h2, h3, hq]

set_option maxHeartbeats 1000000 in
theorem part_any (a : Option Addr) (n cap : Nat) (l : List UInt8) (w : World) (ht : Txt w a n cap l) :
    Calls Tryz.prog 78 #[.slice a n cap] w fun e w' => e = .returned (.tuple #[.int .u8 (partF l).1.toNat, .int .i64 (partF l).2]) ∧ w = w' := by
  have HT := Lib.hid ht
  clear ht
  by_cases h92 : bAt l 0 = 92
  · have ef0_92 : (((bAt l 0).toNat : Int) == 92) = true := by rw [h92]; rfl
    have nf0_92 : (((bAt l 0).toNat : Int) != 92) = false := by rw [h92]; rfl
    have ef0_34 : (((bAt l 0).toNat : Int) == 34) = false := u8_neq (d := 34) (show bAt l 0 ≠ 34 by rw [h92]; decide)
    have nf0_34 : (((bAt l 0).toNat : Int) != 34) = true := u8_neqn (d := 34) (show bAt l 0 ≠ 34 by rw [h92]; decide)
    by_cases g34 : bAt l 1 = 34
    · have ef1_34 : (((bAt l 1).toNat : Int) == 34) = true := by rw [g34]; rfl
      have nf1_34 : (((bAt l 1).toNat : Int) != 34) = false := by rw [g34]; rfl
      have FIN := Lib.hid (show Ending.returned (.tuple #[.int .u8 (bAt l 1).toNat, .int .i64 2]) = Ending.returned (.tuple #[.int .u8 (partF l).1.toNat, .int .i64 (partF l).2]) from by
        unfold partF
        simp [h92, g34])
      clear h92 g34
      go_enter Tryz.func78, Tryz.ntmps78
      go_wp2_with (first | (go_at_call 56; first | ((with_reducible refine (byteAt_int _ n cap 0 0 rfl l _ HT.out).mono ?_); rintro e w' ⟨rfl, rfl⟩) | ((with_reducible refine (byteAt_int _ n cap 1 1 rfl l _ HT.out).mono ?_); rintro e w' ⟨rfl, rfl⟩) | ((with_reducible refine (byteAt_int _ n cap 2 2 rfl l _ HT.out).mono ?_); rintro e w' ⟨rfl, rfl⟩) | ((with_reducible refine (byteAt_int _ n cap 3 3 rfl l _ HT.out).mono ?_); rintro e w' ⟨rfl, rfl⟩)))
      go_ret2
      exact ⟨FIN.out, rfl⟩
    · by_cases g92 : bAt l 1 = 92
      · have ef1_34 : (((bAt l 1).toNat : Int) == 34) = false := u8_neq (d := 34) g34
        have nf1_34 : (((bAt l 1).toNat : Int) != 34) = true := u8_neqn (d := 34) g34
        have ef1_92 : (((bAt l 1).toNat : Int) == 92) = true := by rw [g92]; rfl
        have nf1_92 : (((bAt l 1).toNat : Int) != 92) = false := by rw [g92]; rfl
        have FIN := Lib.hid (show Ending.returned (.tuple #[.int .u8 (bAt l 1).toNat, .int .i64 2]) = Ending.returned (.tuple #[.int .u8 (partF l).1.toNat, .int .i64 (partF l).2]) from by
          unfold partF
          simp [h92, g92])
        clear h92 g34 g92
        go_enter Tryz.func78, Tryz.ntmps78
        go_wp2_with (first | (go_at_call 56; first | ((with_reducible refine (byteAt_int _ n cap 0 0 rfl l _ HT.out).mono ?_); rintro e w' ⟨rfl, rfl⟩) | ((with_reducible refine (byteAt_int _ n cap 1 1 rfl l _ HT.out).mono ?_); rintro e w' ⟨rfl, rfl⟩) | ((with_reducible refine (byteAt_int _ n cap 2 2 rfl l _ HT.out).mono ?_); rintro e w' ⟨rfl, rfl⟩) | ((with_reducible refine (byteAt_int _ n cap 3 3 rfl l _ HT.out).mono ?_); rintro e w' ⟨rfl, rfl⟩)))
        go_ret2
        exact ⟨FIN.out, rfl⟩
      · by_cases g120 : bAt l 1 = 120
        · have ef1_34 : (((bAt l 1).toNat : Int) == 34) = false := u8_neq (d := 34) g34
          have nf1_34 : (((bAt l 1).toNat : Int) != 34) = true := u8_neqn (d := 34) g34
          have ef1_92 : (((bAt l 1).toNat : Int) == 92) = false := u8_neq (d := 92) g92
          have nf1_92 : (((bAt l 1).toNat : Int) != 92) = true := u8_neqn (d := 92) g92
          have ef1_120 : (((bAt l 1).toNat : Int) == 120) = true := by rw [g120]; rfl
          have nf1_120 : (((bAt l 1).toNat : Int) != 120) = false := by rw [g120]; rfl
          cases h2 : hexVal (bAt l 2) with
          | none =>
            have FIN := Lib.hid (show Ending.returned (.tuple #[.int .u8 0, .int .i64 0]) = Ending.returned (.tuple #[.int .u8 (partF l).1.toNat, .int .i64 (partF l).2]) from by
              unfold partF
              simp [h92, g120, h2])
            have H2 : Hid (hexI (bAt l 2) = -1) := by unfold hexI; rw [h2]; rfl
            obtain ⟨z, hz⟩ : ∃ z, hexI (bAt l 3) = z := ⟨_, rfl⟩
            have hzl := hexI_lo (bAt l 3)
            rw [hz] at hzl
            have H3 := Lib.hid hz
            clear h92 g34 g92 g120 h2 hz
            go_enter Tryz.func78, Tryz.ntmps78
            go_wp2_with (first | (go_at_call 56; first | ((with_reducible refine (byteAt_int _ n cap 0 0 rfl l _ HT.out).mono ?_); rintro e w' ⟨rfl, rfl⟩) | ((with_reducible refine (byteAt_int _ n cap 1 1 rfl l _ HT.out).mono ?_); rintro e w' ⟨rfl, rfl⟩) | ((with_reducible refine (byteAt_int _ n cap 2 2 rfl l _ HT.out).mono ?_); rintro e w' ⟨rfl, rfl⟩) | ((with_reducible refine (byteAt_int _ n cap 3 3 rfl l _ HT.out).mono ?_); rintro e w' ⟨rfl, rfl⟩)) | (go_at_call 90; first | ((with_reducible refine (hex_any (bAt l 2) _).mono ?_); rintro e w' ⟨rfl, rfl⟩; rw [H2.out]) | ((with_reducible refine (hex_any (bAt l 3) _).mono ?_); rintro e w' ⟨rfl, rfl⟩; rw [H3.out])))
            go_ret2
            exact ⟨FIN.out, rfl⟩
          | some h =>
            have hh := hexVal_lt h2
            have H2 : Hid (hexI (bAt l 2) = (h : Int)) := by unfold hexI; rw [h2]; rfl
            cases h3 : hexVal (bAt l 3) with
            | none =>
              have FIN := Lib.hid (show Ending.returned (.tuple #[.int .u8 0, .int .i64 0]) = Ending.returned (.tuple #[.int .u8 (partF l).1.toNat, .int .i64 (partF l).2]) from by
                unfold partF
                simp [h92, g120, h2, h3])
              have H3 : Hid (hexI (bAt l 3) = -1) := by unfold hexI; rw [h3]; rfl
              clear h92 g34 g92 g120 h2 h3
              go_enter Tryz.func78, Tryz.ntmps78
              go_wp2_with (first | (go_at_call 56; first | ((with_reducible refine (byteAt_int _ n cap 0 0 rfl l _ HT.out).mono ?_); rintro e w' ⟨rfl, rfl⟩) | ((with_reducible refine (byteAt_int _ n cap 1 1 rfl l _ HT.out).mono ?_); rintro e w' ⟨rfl, rfl⟩) | ((with_reducible refine (byteAt_int _ n cap 2 2 rfl l _ HT.out).mono ?_); rintro e w' ⟨rfl, rfl⟩) | ((with_reducible refine (byteAt_int _ n cap 3 3 rfl l _ HT.out).mono ?_); rintro e w' ⟨rfl, rfl⟩)) | (go_at_call 90; first | ((with_reducible refine (hex_any (bAt l 2) _).mono ?_); rintro e w' ⟨rfl, rfl⟩; rw [H2.out]) | ((with_reducible refine (hex_any (bAt l 3) _).mono ?_); rintro e w' ⟨rfl, rfl⟩; rw [H3.out])))
              go_ret2
              exact ⟨FIN.out, rfl⟩
            | some k =>
              have hk := hexVal_lt h3
              have H3 : Hid (hexI (bAt l 3) = (k : Int)) := by unfold hexI; rw [h3]; rfl
              have hor := hex_or h k hh hk
              obtain ⟨q, hq⟩ : ∃ q, q = UInt8.ofNat (16 * h + k) := ⟨_, rfl⟩
              have hpf := partF_hex h92 g120 h2 h3 hq
              have hqn : IntKind.u8.wrap (16 * (h : Int) + (k : Int)) = (q.toNat : Int) := by rw [hq, IntWalk.u8_in _ (by omega)]; simp; omega
              cases hp : plainB q
              · have FIN := Lib.hid (show Ending.returned (.tuple #[.int .u8 q.toNat, .int .i64 4]) = Ending.returned (.tuple #[.int .u8 (partF l).1.toNat, .int .i64 (partF l).2]) from by
                  rw [hpf, hp]
                  rfl)
                have HP := Lib.hid hp
                clear h92 g34 g92 g120 h2 h3 hp hq hpf
                go_enter Tryz.func78, Tryz.ntmps78
                go_wp2_with (first | (go_at_call 56; first | ((with_reducible refine (byteAt_int _ n cap 0 0 rfl l _ HT.out).mono ?_); rintro e w' ⟨rfl, rfl⟩) | ((with_reducible refine (byteAt_int _ n cap 1 1 rfl l _ HT.out).mono ?_); rintro e w' ⟨rfl, rfl⟩) | ((with_reducible refine (byteAt_int _ n cap 2 2 rfl l _ HT.out).mono ?_); rintro e w' ⟨rfl, rfl⟩) | ((with_reducible refine (byteAt_int _ n cap 3 3 rfl l _ HT.out).mono ?_); rintro e w' ⟨rfl, rfl⟩)) | (go_at_call 90; first | ((with_reducible refine (hex_any (bAt l 2) _).mono ?_); rintro e w' ⟨rfl, rfl⟩; rw [H2.out]) | ((with_reducible refine (hex_any (bAt l 3) _).mono ?_); rintro e w' ⟨rfl, rfl⟩; rw [H3.out])) | (go_at_call 98; ((with_reducible refine (isPlain_b q _).mono ?_); rintro e w' ⟨rfl, rfl⟩; rw [HP.out])))
                go_ret2
                exact ⟨FIN.out, rfl⟩
              · have FIN := Lib.hid (show Ending.returned (.tuple #[.int .u8 0, .int .i64 0]) = Ending.returned (.tuple #[.int .u8 (partF l).1.toNat, .int .i64 (partF l).2]) from by
                  rw [hpf, hp]
                  rfl)
                have HP := Lib.hid hp
                clear h92 g34 g92 g120 h2 h3 hp hq hpf
                go_enter Tryz.func78, Tryz.ntmps78
                go_wp2_with (first | (go_at_call 56; first | ((with_reducible refine (byteAt_int _ n cap 0 0 rfl l _ HT.out).mono ?_); rintro e w' ⟨rfl, rfl⟩) | ((with_reducible refine (byteAt_int _ n cap 1 1 rfl l _ HT.out).mono ?_); rintro e w' ⟨rfl, rfl⟩) | ((with_reducible refine (byteAt_int _ n cap 2 2 rfl l _ HT.out).mono ?_); rintro e w' ⟨rfl, rfl⟩) | ((with_reducible refine (byteAt_int _ n cap 3 3 rfl l _ HT.out).mono ?_); rintro e w' ⟨rfl, rfl⟩)) | (go_at_call 90; first | ((with_reducible refine (hex_any (bAt l 2) _).mono ?_); rintro e w' ⟨rfl, rfl⟩; rw [H2.out]) | ((with_reducible refine (hex_any (bAt l 3) _).mono ?_); rintro e w' ⟨rfl, rfl⟩; rw [H3.out])) | (go_at_call 98; ((with_reducible refine (isPlain_b q _).mono ?_); rintro e w' ⟨rfl, rfl⟩; rw [HP.out])))
                go_ret2
                exact ⟨FIN.out, rfl⟩
        · have ef1_34 : (((bAt l 1).toNat : Int) == 34) = false := u8_neq (d := 34) g34
          have nf1_34 : (((bAt l 1).toNat : Int) != 34) = true := u8_neqn (d := 34) g34
          have ef1_92 : (((bAt l 1).toNat : Int) == 92) = false := u8_neq (d := 92) g92
          have nf1_92 : (((bAt l 1).toNat : Int) != 92) = true := u8_neqn (d := 92) g92
          have ef1_120 : (((bAt l 1).toNat : Int) == 120) = false := u8_neq (d := 120) g120
          have nf1_120 : (((bAt l 1).toNat : Int) != 120) = true := u8_neqn (d := 120) g120
          have FIN := Lib.hid (show Ending.returned (.tuple #[.int .u8 0, .int .i64 0]) = Ending.returned (.tuple #[.int .u8 (partF l).1.toNat, .int .i64 (partF l).2]) from by
            unfold partF
            simp [h92, g34, g92, g120])
          clear h92 g34 g92 g120
          go_enter Tryz.func78, Tryz.ntmps78
          go_wp2_with (first | (go_at_call 56; first | ((with_reducible refine (byteAt_int _ n cap 0 0 rfl l _ HT.out).mono ?_); rintro e w' ⟨rfl, rfl⟩) | ((with_reducible refine (byteAt_int _ n cap 1 1 rfl l _ HT.out).mono ?_); rintro e w' ⟨rfl, rfl⟩) | ((with_reducible refine (byteAt_int _ n cap 2 2 rfl l _ HT.out).mono ?_); rintro e w' ⟨rfl, rfl⟩) | ((with_reducible refine (byteAt_int _ n cap 3 3 rfl l _ HT.out).mono ?_); rintro e w' ⟨rfl, rfl⟩)))
          go_ret2
          exact ⟨FIN.out, rfl⟩
  · have ef0_92 : (((bAt l 0).toNat : Int) == 92) = false := u8_neq (d := 92) h92
    have nf0_92 : (((bAt l 0).toNat : Int) != 92) = true := u8_neqn (d := 92) h92
    by_cases h34 : bAt l 0 = 34
    · have ef0_34 : (((bAt l 0).toNat : Int) == 34) = true := by rw [h34]; rfl
      have nf0_34 : (((bAt l 0).toNat : Int) != 34) = false := by rw [h34]; rfl
      have FIN := Lib.hid (show Ending.returned (.tuple #[.int .u8 0, .int .i64 0]) = Ending.returned (.tuple #[.int .u8 (partF l).1.toNat, .int .i64 (partF l).2]) from by
        unfold partF
        simp [h92, h34])
      clear h92 h34
      go_enter Tryz.func78, Tryz.ntmps78
      go_wp2_with (first | (go_at_call 56; first | ((with_reducible refine (byteAt_int _ n cap 0 0 rfl l _ HT.out).mono ?_); rintro e w' ⟨rfl, rfl⟩) | ((with_reducible refine (byteAt_int _ n cap 1 1 rfl l _ HT.out).mono ?_); rintro e w' ⟨rfl, rfl⟩) | ((with_reducible refine (byteAt_int _ n cap 2 2 rfl l _ HT.out).mono ?_); rintro e w' ⟨rfl, rfl⟩) | ((with_reducible refine (byteAt_int _ n cap 3 3 rfl l _ HT.out).mono ?_); rintro e w' ⟨rfl, rfl⟩)))
      go_ret2
      exact ⟨FIN.out, rfl⟩
    · have ef0_34 : (((bAt l 0).toNat : Int) == 34) = false := u8_neq (d := 34) h34
      have nf0_34 : (((bAt l 0).toNat : Int) != 34) = true := u8_neqn (d := 34) h34
      cases hp : plainB (bAt l 0)
      · have FIN := Lib.hid (show Ending.returned (.tuple #[.int .u8 0, .int .i64 0]) = Ending.returned (.tuple #[.int .u8 (partF l).1.toNat, .int .i64 (partF l).2]) from by
          unfold partF
          simp [h92, h34, hp])
        have HP := Lib.hid hp
        clear h92 h34 hp
        go_enter Tryz.func78, Tryz.ntmps78
        go_wp2_with (first | (go_at_call 56; first | ((with_reducible refine (byteAt_int _ n cap 0 0 rfl l _ HT.out).mono ?_); rintro e w' ⟨rfl, rfl⟩) | ((with_reducible refine (byteAt_int _ n cap 1 1 rfl l _ HT.out).mono ?_); rintro e w' ⟨rfl, rfl⟩) | ((with_reducible refine (byteAt_int _ n cap 2 2 rfl l _ HT.out).mono ?_); rintro e w' ⟨rfl, rfl⟩) | ((with_reducible refine (byteAt_int _ n cap 3 3 rfl l _ HT.out).mono ?_); rintro e w' ⟨rfl, rfl⟩)) | (go_at_call 98; ((with_reducible refine (isPlain_b (bAt l 0) _).mono ?_); rintro e w' ⟨rfl, rfl⟩; rw [HP.out])))
        go_ret2
        exact ⟨FIN.out, rfl⟩
      · have FIN := Lib.hid (show Ending.returned (.tuple #[.int .u8 (bAt l 0).toNat, .int .i64 1]) = Ending.returned (.tuple #[.int .u8 (partF l).1.toNat, .int .i64 (partF l).2]) from by
          unfold partF
          simp [h92, h34, hp])
        have HP := Lib.hid hp
        clear h92 h34 hp
        go_enter Tryz.func78, Tryz.ntmps78
        go_wp2_with (first | (go_at_call 56; first | ((with_reducible refine (byteAt_int _ n cap 0 0 rfl l _ HT.out).mono ?_); rintro e w' ⟨rfl, rfl⟩) | ((with_reducible refine (byteAt_int _ n cap 1 1 rfl l _ HT.out).mono ?_); rintro e w' ⟨rfl, rfl⟩) | ((with_reducible refine (byteAt_int _ n cap 2 2 rfl l _ HT.out).mono ?_); rintro e w' ⟨rfl, rfl⟩) | ((with_reducible refine (byteAt_int _ n cap 3 3 rfl l _ HT.out).mono ?_); rintro e w' ⟨rfl, rfl⟩)) | (go_at_call 98; ((with_reducible refine (isPlain_b (bAt l 0) _).mono ?_); rintro e w' ⟨rfl, rfl⟩; rw [HP.out])))
        go_ret2
        exact ⟨FIN.out, rfl⟩
end Go.Proofs.YtddeoemkjedonaaGreatDoor
