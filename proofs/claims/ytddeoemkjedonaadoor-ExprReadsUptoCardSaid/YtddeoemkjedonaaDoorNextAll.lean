/- The walk of next: marks, bytes that begin nothing, the end; and all kinds together. -/
import Derived.Test.YtddeoemkjedonaaDoorNext
namespace Go.Proofs.YtddeoemkjedonaaDoor
open Go.RowKit
set_option maxRecDepth 100000
theorem baseF_1 (l : List UInt8) (A E : Nat) : baseF l 1 A E = if E - A ≤ 32 then (pieceOf l A E, 0, 0, 0) else ([], 0, 0, 13) := rfl
theorem baseF_2 (l : List UInt8) (A E : Nat) : baseF l 2 A E = match wholeF (pieceOf l A E) with | some v => ([], v, 0, 0) | none => ([], 0, 0, 12) := rfl
theorem baseF_3 (l : List UInt8) (A E : Nat) : baseF l 3 A E = match scaledF (pieceOf l A E) with | some (m, e) => ([], 0, realBits m e, 0) | none => ([], 0, 0, 12) := rfl
theorem baseF_4 (l : List UInt8) (A E : Nat) : baseF l 4 A E = match unquoteF (pieceOf l A E) with | some s => (s, 0, 0, 0) | none => ([], 0, 0, 11) := rfl
theorem baseF_5 (l : List UInt8) (A E : Nat) : baseF l 5 A E = (pieceOf l A E, 0, 0, 0) := rfl
theorem baseF_0 (l : List UInt8) (A E : Nat) : baseF l 0 A E = ([], 0, 0, if A < l.length then 10 else 0) := rfl

/-- what a kind comes to -/
theorem tokAt_bad {l : List UInt8} {A K E f : Nat} (h : spanE l A = (K, E)) (hf : faultF l K A E = f) (h0 : f ≠ 0) : tokAt l A = (⟨0, [], 0, 0, A, 0⟩, f) := by
  unfold tokAt
  rw [h]
  simp only
  rw [hf, if_pos h0]
theorem tokAt_ok {l : List UInt8} {A K E : Nat} {x : List UInt8} {v : Int} {r : Nat} (h : spanE l A = (K, E)) (hf : faultF l K A E = 0) (hb : baseF l K A E = (x, v, r, 0)) : tokAt l A = (⟨K, x, v, r, A, E - A⟩, 0) := by
  unfold tokAt
  rw [h]
  simp only
  rw [hf, if_neg (fun h => h rfl), hb]

theorem faultF_other {l : List UInt8} {K A E : Nat} (h2 : K ≠ 2) (h3 : K ≠ 3) : faultF l K A E = (baseF l K A E).2.2.2 := by
  unfold faultF
  rw [if_neg (by intro h; rcases h.1 with h | h; exact h2 h; exact h3 h)]
theorem faultF_word {l : List UInt8} {K A E : Nat} (h : K = 2 ∨ K = 3) (hw : wordB (bAt l E) = true) : faultF l K A E = 12 := by
  unfold faultF
  rw [if_pos ⟨h, hw⟩]
theorem faultF_noword {l : List UInt8} {K A E : Nat} (hw : wordB (bAt l E) = false) : faultF l K A E = (baseF l K A E).2.2.2 := by
  unfold faultF
  rw [if_neg (by intro h; rw [hw] at h; cases h.2)]
theorem spanE_zero {l : List UInt8} {A E : Nat} (h : spanE l A = (0, E)) : E = A := by
  unfold spanE numEnd at h
  split at h
  · simp at h
  · split at h
    · split at h
      · simp at h
      · split at h <;> simp at h
    · split at h
      · simp at h
      · split at h
        · simp at h
        · simp at h; exact h.symm

section
variable {a : Option Addr} {n cap i A E : Nat} {l : List UInt8} {w : World}
end
end Go.Proofs.YtddeoemkjedonaaDoor
