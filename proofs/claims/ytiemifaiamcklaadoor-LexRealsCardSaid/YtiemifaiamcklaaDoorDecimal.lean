/- decimal's walk. -/
import Derived.Test.YtiemifaiamcklaaDoorRealsPlain
import Derived.WalkKit
import Derived.WalkSpells
import Derived.WalkLawsBesides
import Derived.Laws.Runes
import Derived.Lib.Hide
namespace Go.Proofs.YtiemifaiamcklaaDoor
open Go.RowKit
set_option maxRecDepth 100000

theorem encode_digit (k : Nat) : Utf8.encode (48 + (k : Int) % 10) = ⟨#[UInt8.ofNat (48 + k % 10)]⟩ := by
  obtain ⟨d, hd, hd2⟩ : ∃ d, d = k % 10 ∧ d < 10 := ⟨_, rfl, Nat.mod_lt _ (by omega)⟩
  rw [show (k : Int) % 10 = (d : Int) by omega, ← hd]
  clear hd
  have : ∀ f : Fin 10, Utf8.encode (48 + ((f.val : Nat) : Int)) = ⟨#[UInt8.ofNat (48 + f.val)]⟩ := by decide +kernel
  exact this ⟨d, hd2⟩
theorem bytes_app (a : List UInt8) (b : ByteArray) : (⟨a.toArray⟩ : ByteArray) ++ b = ⟨(a ++ b.data.toList).toArray⟩ := by
  apply ByteArray.ext
  simp
theorem bytes_list (s : ByteArray) : (⟨s.data.toList.toArray⟩ : ByteArray) = s := by simp

set_option maxHeartbeats 1000000 in
theorem decimal_any (m : Nat) (w : World) (hm : m < 18446744073709551616) :
    Calls Tryd.prog 22 #[.int .u64 m] w fun e w' => e = .returned (.string ⟨(Lib.decDigits m).toArray⟩) ∧ w = w' := by
  have hm2 : (m : Int) ≤ 18446744073709551615 := by omega
  clear hm
  go_enter Tryd.func22, Tryd.ntmps22
  go_wp2
  go_loop [0, 3] (fun n s => ∃ (k : Nat) (S : List UInt8), k ≤ m ∧ n = .int .u64 k ∧ s = .string ⟨S.toArray⟩ ∧ S.length ≤ 40 ∧ Hid (Lib.decDigits m = Lib.decDigits k ++ S ∧ (Lib.decDigits m).length ≤ 20)) (fun n _ => (intOf n).toNat)
  case atStart => exact ⟨m, [], Nat.le_refl _, rfl, rfl, by simp, ⟨by simp, dd_len20 m (by omega)⟩⟩
  case round =>
    obtain ⟨k, S, hk, rfl, rfl, hS, hd⟩ := hrel
    have he := encode_digit k
    obtain ⟨c, hc⟩ : ∃ c, c = UInt8.ofNat (48 + k % 10) := ⟨_, rfl⟩
    rw [← hc] at he
    have HC := Lib.hid hc
    have hs1 : (⟨S.toArray⟩ : ByteArray).size = S.length := rfl
    have hl := hd.out.2
    have hls : S.length < 20 := by
      have h2 := congrArg List.length hd.out.1
      rw [List.length_append] at h2
      have h3 := List.length_pos_iff.2 (dd_ne k)
      omega
    have HA : Hid ((⟨#[c]⟩ : ByteArray) ++ ⟨S.toArray⟩ = ⟨(c :: S).toArray⟩) := bytes_app [c] ⟨S.toArray⟩
    clear hc hl
    rcases Nat.lt_or_ge k 10 with h10 | h10
    · have hq : ((k : Int) / 10 == 0) = true := by rw [beq_iff_eq]; omega
      have HF : Hid (c :: S = Lib.decDigits m) := by
        have : c :: S = Lib.decDigits m := by rw [hd.out.1, Lib.decDigits_one h10, HC.out, Nat.mod_eq_of_lt h10]; rfl
        exact this
      go_wp2
      go_ret
      exact ⟨by rw [← HF.out, ← HA.out]; rfl, rfl⟩
    · have hq : ((k : Int) / 10 == 0) = false := by rw [beq_eq_false_iff_ne]; omega
      go_wp2
      go_round
      case rel => exact ⟨k / 10, c :: S, by omega, by go_num, by rw [HA.out], by simp; omega, by
        have h1 : Lib.decDigits m = Lib.decDigits (k / 10) ++ c :: S := by rw [hd.out.1, dd_big (by omega : ¬ k < 10), HC.out, List.append_assoc]; rfl
        exact ⟨h1, hd.out.2⟩⟩
      case measure => simp [intOf]; omega
end Go.Proofs.YtiemifaiamcklaaDoor
