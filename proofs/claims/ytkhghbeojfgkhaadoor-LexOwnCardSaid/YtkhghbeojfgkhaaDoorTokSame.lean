/- The scanner's token and the reference's at one place: the same, or the same error: no program. -/
import Derived.Test.YtkhghbeojfgkhaaDoorRefTokAll
namespace Go.Proofs.YtkhghbeojfgkhaaDoor
open Go.RowKit

/-- the same token, or the same error -/
def SameT (t u : Tok × Nat) : Prop := t.2 = u.2 ∧ (t.2 = 0 → t.1 = u.1)

theorem two_one (c : UInt8) : isMarkB [c] = oneMark c := all_u8 (fun c => isMarkB [c] = oneMark c) (by decide +kernel) c
theorem two_two (c d : UInt8) : isMarkB [c, d] = twoMark c d := by
  unfold isMarkB twoMark
  simp [Bool.or_assoc]

theorem same_name {l : List UInt8} {A : Nat} (h : letterB (bAt l A) = true) : SameT (tokAt l A) (refName l A) := by
  have hs : spanE l A = (1, A + 1 + tw wordB l (A + 1)) := by unfold spanE; rw [if_pos h]
  have e : A + 1 + tw wordB l (A + 1) - A = 1 + tw wordB l (A + 1) := by omega
  unfold tokAt faultF refName
  rw [hs]
  simp only [baseF, pieceOf, e]
  by_cases h32 : 1 + tw wordB l (A + 1) ≤ 32
  · have h33 : ¬ 32 < 1 + tw wordB l (A + 1) := by omega
    simp [h32, h33, SameT]
  · have h33 : 32 < 1 + tw wordB l (A + 1) := by omega
    simp [h32, h33, SameT]

theorem tok_five {l : List UInt8} {A m : Nat} (hs : spanE l A = (5, A + m)) : tokAt l A = (⟨5, (l.drop A).take m, 0, 0, A, m⟩, 0) := by
  unfold tokAt faultF
  rw [hs]
  simp [baseF, pieceOf]
theorem tok_none {l : List UInt8} {A : Nat} (hs : spanE l A = (0, A)) (hA : A < l.length) : tokAt l A = (⟨0, [], 0, 0, A, 0⟩, 10) := by
  unfold tokAt faultF
  rw [hs]
  simp [baseF, hA]
theorem same_mark {l : List UInt8} {A : Nat} (hA : A < l.length) (h : letterB (bAt l A) = false) (hd : digitB (bAt l A) = false) (hq : bAt l A ≠ 34) : SameT (tokAt l A) (refMarkT l A) := by
  have hs : spanE l A = if 0 < markLen (l.drop A) then (5, A + markLen (l.drop A)) else (0, A) := by
    unfold spanE; rw [if_neg (by simp [h]), if_neg (by simp [hd]), if_neg hq]
  have hdr := drop_bAt hA
  have hlen : (l.drop A).length = l.length - A := List.length_drop
  unfold refMarkT
  generalize bAt l A = c at *
  rcases hr : l.drop (A + 1) with _ | ⟨d, r⟩
  · rw [hr] at hdr
    have h2 : ¬ A + 2 ≤ l.length := by rw [hdr] at hlen; simp at hlen; omega
    have hm : markLen (l.drop A) = if oneMark c = true then 1 else 0 := by rw [hdr]; rfl
    have t1 : isMarkB ((l.drop A).take 1) = oneMark c := by rw [hdr]; exact two_one c
    rw [if_neg (fun h => h2 h.1), t1]
    cases ho : oneMark c
    · rw [hm, ho] at hs
      rw [tok_none (by simpa using hs) hA]
      simp [SameT]
    · rw [hm, ho] at hs
      rw [tok_five (m := 1) (by simpa using hs)]
      simp [SameT]
  · rw [hr] at hdr
    have h2 : A + 2 ≤ l.length := by rw [hdr] at hlen; simp at hlen; omega
    have hm : markLen (l.drop A) = if twoMark c d = true then 2 else if oneMark c = true then 1 else 0 := by rw [hdr]; rfl
    have t1 : isMarkB ((l.drop A).take 1) = oneMark c := by rw [hdr]; exact two_one c
    have t2 : isMarkB ((l.drop A).take 2) = twoMark c d := by rw [hdr]; exact two_two c d
    rw [t1, t2]
    cases ht : twoMark c d
    · cases ho : oneMark c
      · rw [hm, ht, ho] at hs
        rw [tok_none (by simpa using hs) hA]
        simp [SameT]
      · rw [hm, ht, ho] at hs
        rw [tok_five (m := 1) (by simpa using hs)]
        simp [SameT]
    · rw [hm, ht] at hs
      rw [tok_five (m := 2) (by simpa using hs)]
      simp [SameT, h2]
end Go.Proofs.YtkhghbeojfgkhaaDoor
