/- What a token's bytes stand for, as plain functions: no program. -/
import Derived.Test.YtkhghbeojfgkhaaDoorLexPlain
import Derived.Lib.ParseIntB
import Derived.Lib.Bytealg
import Derived.Lib.BitFns
namespace Go.Proofs.YtkhghbeojfgkhaaDoor
open Go.RowKit

/-- the number that digits are, in their only form -/
def wholeF (l : List UInt8) : Option Int :=
  match Lib.parseIntB 64 l with
  | .ok v => if 1 < l.length ∧ bAt l 0 = 48 then none else some v
  | _ => none
theorem parse_range {l : List UInt8} {v : Int} (h : Lib.parseIntB 64 l = .ok v) : -9223372036854775808 ≤ v ∧ v ≤ 9223372036854775807 := by
  unfold Lib.parseIntB at h
  cases l with
  | nil => simp at h
  | cons c r =>
    simp only at h
    split at h
    · cases h
    · cases h
    · rename_i u hu
      simp only [Nat.add_one_sub_one, Nat.reduceSub, Nat.reducePow] at h
      by_cases hn : c.toNat = 45
      · simp [hn] at h
        split at h
        · cases h
        · injection h with h; omega
      · simp [hn] at h
        split at h
        · cases h
        · injection h with h; omega
theorem wholeF_range {l : List UInt8} {v : Int} (h : wholeF l = some v) : -9223372036854775808 ≤ v ∧ v ≤ 9223372036854775807 := by
  unfold wholeF at h
  split at h
  · rename_i u hu
    split at h
    · cases h
    · injection h with h; subst h; exact parse_range hu
  · cases h

def hexL : List UInt8 := [48, 49, 50, 51, 52, 53, 54, 55, 56, 57, 97, 98, 99, 100, 101, 102]
def hexVal (c : UInt8) : Option Nat :=
  if 48 ≤ c.toNat ∧ c.toNat ≤ 57 then some (c.toNat - 48) else if 97 ≤ c.toNat ∧ c.toNat ≤ 102 then some (c.toNat - 87) else none
def hexI (c : UInt8) : Int := match hexVal c with | some v => (v : Int) | none => -1
theorem all_u8 (p : UInt8 → Prop) (h : ∀ n : Fin 256, p (UInt8.ofNat n.val)) (c : UInt8) : p c := by
  have := h ⟨c.toNat, c.toNat_lt⟩
  simpa using this
theorem hex_index (c : UInt8) : Lib.indexByte hexL c = hexI c :=
  all_u8 (fun c => Lib.indexByte hexL c = hexI c) (by decide +kernel) c
theorem hexVal_lt {c : UInt8} {v : Nat} (h : hexVal c = some v) : v < 16 := by
  unfold hexVal at h
  split at h
  · injection h with h; omega
  · split at h
    · injection h with h; omega
    · cases h
theorem hexI_lo (c : UInt8) : -1 ≤ hexI c ∧ hexI c ≤ 15 := by
  unfold hexI
  split
  · rename_i v h; have := hexVal_lt h; omega
  · omega
theorem hex0 : hexVal 0 = none := by decide
def plainB (c : UInt8) : Bool := decide (32 ≤ c.toNat ∧ c.toNat ≤ 126)

/-- what the part stands for with which bytes begin, and its size -/
def partF (r : List UInt8) : UInt8 × Nat :=
  if bAt r 0 ≠ 92 ∧ bAt r 0 ≠ 34 ∧ plainB (bAt r 0) = true then (bAt r 0, 1)
  else if bAt r 0 = 92 ∧ (bAt r 1 = 34 ∨ bAt r 1 = 92) then (bAt r 1, 2)
  else if bAt r 0 = 92 ∧ bAt r 1 = 120 then
    match hexVal (bAt r 2), hexVal (bAt r 3) with
    | some h, some k => if plainB (UInt8.ofNat (16 * h + k)) = true then (0, 0) else (UInt8.ofNat (16 * h + k), 4)
    | _, _ => (0, 0)
  else (0, 0)
theorem bAt_pos {l : List UInt8} {i : Nat} (h : bAt l i ≠ 0) : i < l.length := by
  rcases Nat.lt_or_ge i l.length with h' | h'
  · exact h'
  · exact absurd (bAt_ge h') h
theorem partF_le (r : List UInt8) : (partF r).2 ≤ r.length ∧ (partF r).2 ≤ 4 := by
  unfold partF
  split
  · rename_i h
    have h0 : bAt r 0 ≠ 0 := by intro e; rw [e] at h; exact absurd h.2.2 (by decide)
    have := bAt_pos h0
    simp; omega
  · split
    · rename_i h
      have h0 : bAt r 1 ≠ 0 := by intro e; rw [e] at h; exact absurd h.2 (by decide)
      have := bAt_pos h0
      simp; omega
    · split
      · split
        · rename_i h _ _ a b ha hb
          split
          · simp
          · have h0 : bAt r 3 ≠ 0 := by intro e; rw [e, hex0] at hb; cases hb
            have := bAt_pos h0
            simp; omega
        · simp
      · simp

/-- what a text's bytes behind its first quote stand for; 'none': something else than parts, or no end -/
def unqF : Nat → List UInt8 → Option (List UInt8)
  | 0, _ => none
  | f + 1, r => if r = [34] then some [] else if (partF r).2 = 0 then none else (unqF f (r.drop (partF r).2)).map ((partF r).1 :: ·)
def unquoteF (l : List UInt8) : Option (List UInt8) :=
  match unqF (l.length + 1) (l.drop 1) with
  | some s => if s.length ≤ 256 then some s else none
  | none => none

/-- is it a real in its only form? -/
def oneFormB (m e : Int) : Bool :=
  if m = 0 then decide (e = 0)
  else if m % 2 = 0 ∨ 9007199254740992 ≤ m ∨ e < -1074 ∨ 1023 < e then false
  else decide ((Lib.bitLen m.toNat : Int) + e ≤ 1024)
def cutAt (l : List UInt8) : List UInt8 × List UInt8 :=
  if 0 ≤ Lib.indexByte l 112 then (l.take (Lib.indexByte l 112).toNat, l.drop ((Lib.indexByte l 112).toNat + 1)) else (l, [])
/-- the two numbers of a real, if its bytes are one -/
def scaledF (l : List UInt8) : Option (Int × Int) :=
  match wholeF (cutAt l).1, wholeF (if bAt (cutAt l).2 0 = 45 then (cutAt l).2.drop 1 else (cutAt l).2) with
  | some m, some e =>
    if bAt (cutAt l).2 0 = 45 then (if e = 0 then none else if oneFormB m (-e) = true then some (m, -e) else none)
    else if oneFormB m e = true then some (m, e) else none
  | _, _ => none
/-- the real that is m times 2 to e, as its bits -/
def realBits (m e : Int) : Nat := Ieee.double.nearest false m.toNat e
end Go.Proofs.YtkhghbeojfgkhaaDoor
