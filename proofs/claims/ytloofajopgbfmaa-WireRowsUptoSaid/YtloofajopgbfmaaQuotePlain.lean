/- Plain facts on quoting bytes: no program. -/
import Derived.WalkKit
namespace Go.Proofs.Ytloofajopgbfmaa
set_option linter.all false

/-- the sixteen digits -/
def hexDigit (n : Nat) : UInt8 := if n < 10 then (48 + n).toUInt8 else (87 + n).toUInt8
def qPart (c : UInt8) : List UInt8 :=
  if c.toNat = 34 ∨ c.toNat = 92 then [92, c] else if 32 ≤ c.toNat ∧ c.toNat ≤ 126 then [c] else [92, 120, hexDigit (c.toNat / 16), hexDigit (c.toNat % 16)]
def qHead (l : List UInt8) : List UInt8 := 34 :: l.flatMap qPart
def quoted (l : List UInt8) : List UInt8 := qHead l ++ [34]
/-- bytes as cells -/
def u8s (l : List UInt8) : List Value := l.map fun b => Value.int .u8 b.toNat

theorem u8s_append (a b : List UInt8) : u8s (a ++ b) = u8s a ++ u8s b := by simp [u8s]
theorem u8s_length (a : List UInt8) : (u8s a).length = a.length := by simp [u8s]
theorem u8s_one (a : List UInt8) : ∀ u ∈ u8s a, u.oneCell' = true := by
  intro u hu
  simp only [u8s, List.mem_map] at hu
  obtain ⟨b, _, rfl⟩ := hu
  rfl
theorem qHead_snoc (l : List UInt8) (c : UInt8) : qHead (l ++ [c]) = qHead l ++ qPart c := by simp [qHead]
theorem qPart_le (c : UInt8) : (qPart c).length ≤ 4 := by unfold qPart; split <;> (try split) <;> simp
theorem qHead_le (l : List UInt8) : (qHead l).length ≤ 1 + 4 * l.length := by
  induction l with
  | nil => simp [qHead]
  | cons a l ih => have := qPart_le a; simp [qHead] at *; omega
theorem take_snoc (l : List UInt8) (k : Nat) (h : k < l.length) : l.take (k + 1) = l.take k ++ [l[k]] := by
  rw [List.take_succ_eq_append_getElem h]
theorem qPart_esc (c : UInt8) (h : c.toNat = 34 ∨ c.toNat = 92) : qPart c = [92, c] := by unfold qPart; rw [if_pos h]
theorem qPart_plain (c : UInt8) (h : ¬ (c.toNat = 34 ∨ c.toNat = 92)) (h2 : 32 ≤ c.toNat ∧ c.toNat ≤ 126) : qPart c = [c] := by unfold qPart; rw [if_neg h, if_pos h2]
theorem qPart_hex (c : UInt8) (h : ¬ (c.toNat = 34 ∨ c.toNat = 92)) (h2 : ¬ (32 ≤ c.toNat ∧ c.toNat ≤ 126)) : qPart c = [92, 120, hexDigit (c.toNat / 16), hexDigit (c.toNat % 16)] := by unfold qPart; rw [if_neg h, if_neg h2]
/-- the sixteen digits' text -/
def hexText : ByteArray := ⟨#[48, 49, 50, 51, 52, 53, 54, 55, 56, 57, 97, 98, 99, 100, 101, 102]⟩
theorem hexAt : ∀ (n : Nat) (h : n < 16), (⟨#[48, 49, 50, 51, 52, 53, 54, 55, 56, 57, 97, 98, 99, 100, 101, 102]⟩ : ByteArray)[n]'h = hexDigit n := by decide
theorem and15 : ∀ n : Nat, n < 256 → bits .and .u8 (n : Int) 15 = (n : Int) % 16 := by decide +kernel
theorem hexAtInt (z : Int) (n : Nat) (hz : z = (n : Int)) (hn : n < 16) : ∀ h, (⟨#[48, 49, 50, 51, 52, 53, 54, 55, 56, 57, 97, 98, 99, 100, 101, 102]⟩ : ByteArray)[z.toNat]'h = hexDigit n := by
  subst hz
  intro h
  exact hexAt n hn
theorem wrap_div16 : ∀ n : Nat, n < 256 → IntKind.u8.wrap ((n : Int) / 16) = (n : Int) / 16 := by decide +kernel
theorem tmod16 (n : Nat) : ((n : Int)).tmod 16 = (n : Int) % 16 := Int.tmod_eq_emod_of_nonneg (by omega)
end Go.Proofs.Ytloofajopgbfmaa
