/- The reference's walk over a text, as steps of a plain invariant: no program. -/
import Derived.Test.YtkhghbeojfgkhaaDoorSeqSame
namespace Go.Proofs.YtkhghbeojfgkhaaDoor
open Go.RowKit

/-- the reference's tokens, where the next one (or the end) stands at P -/
def seqS (f : Nat) (l : List UInt8) (P : Nat) : List Tok × Nat × Nat :=
  if l.length ≤ P then ([], 0, 0)
  else if (refTok l P).2 ≠ 0 then ([], P, (refTok l P).2)
  else ((refTok l P).1 :: (seqR f l (P + (refTok l P).1.size)).1, (seqR f l (P + (refTok l P).1.size)).2)
theorem seqR_S (f : Nat) (l : List UInt8) (i : Nat) : seqR (f + 1) l i = seqS f l (i + skipS false (l.drop i)) := rfl

/-- on the way: at a place, in a comment or not, behind so many tokens -/
def RAt (l : List UInt8) (done : List Tok) (i : Nat) (c : Bool) : Prop :=
  i ≤ l.length ∧ ∃ f, l.length ≤ f + i ∧ seqR (l.length + 1) l 0 = (done ++ (seqS f l (i + skipS c (l.drop i))).1, (seqS f l (i + skipS c (l.drop i))).2)

theorem RAt.init (l : List UInt8) : RAt l [] 0 false := ⟨Nat.zero_le _, l.length, Nat.le_refl _, by rw [seqR_S]; rfl⟩
theorem RAt.blank {l : List UInt8} {done : List Tok} {i : Nat} (h : RAt l done i false) (hi : i < l.length) (hb : blankB (bAt l i) = true) : RAt l done (i + 1) false := by
  obtain ⟨_, f, hf, e⟩ := h
  rw [drop_bAt hi, skipS, if_pos hb, ← Nat.add_assoc] at e
  exact ⟨hi, f, by omega, e⟩
theorem RAt.hash {l : List UInt8} {done : List Tok} {i : Nat} (h : RAt l done i false) (hi : i < l.length) (hc : bAt l i = 35) : RAt l done i true := by
  obtain ⟨h1, f, hf, e⟩ := h
  rw [drop_bAt hi, hc, skipS, if_neg (by decide), if_pos rfl] at e
  refine ⟨h1, f, hf, ?_⟩
  rw [drop_bAt hi, hc, skipS, if_neg (by decide)]
  exact e
theorem RAt.inside {l : List UInt8} {done : List Tok} {i : Nat} (h : RAt l done i true) (hi : i < l.length) (hc : bAt l i ≠ 10) : RAt l done (i + 1) true := by
  obtain ⟨_, f, hf, e⟩ := h
  rw [drop_bAt hi, skipS, if_neg hc, ← Nat.add_assoc] at e
  exact ⟨hi, f, by omega, e⟩
theorem RAt.out {l : List UInt8} {done : List Tok} {i : Nat} (h : RAt l done i true) (hc : i < l.length → bAt l i = 10) : RAt l done i false := by
  obtain ⟨h1, f, hf, e⟩ := h
  refine ⟨h1, f, hf, ?_⟩
  rcases Nat.lt_or_ge i l.length with hi | hi
  · rw [drop_bAt hi, hc hi, skipS, if_pos rfl] at e
    rw [drop_bAt hi, hc hi, skipS, if_pos (by decide)]
    exact e
  · rw [List.drop_eq_nil_of_le hi] at e ⊢
    exact e
theorem RAt.stop {l : List UInt8} {done : List Tok} {i : Nat} (h : RAt l done i false) (hi : l.length ≤ i) : seqR (l.length + 1) l 0 = (done, 0, 0) := by
  obtain ⟨_, f, _, e⟩ := h
  rw [e]
  unfold seqS
  rw [if_pos (by omega)]
  simp
theorem RAt.here {l : List UInt8} {i : Nat} (hi : i < l.length) (hb : blankB (bAt l i) = false) (hc : bAt l i ≠ 35) : skipS false (l.drop i) = 0 := by
  rw [drop_bAt hi, skipS, if_neg (by simp [hb]), if_neg hc]
theorem RAt.bad {l : List UInt8} {done : List Tok} {i : Nat} (h : RAt l done i false) (hi : i < l.length) (hb : blankB (bAt l i) = false) (hc : bAt l i ≠ 35) (he : (refTok l i).2 ≠ 0) :
    seqR (l.length + 1) l 0 = (done, i, (refTok l i).2) := by
  obtain ⟨_, f, _, e⟩ := h
  rw [RAt.here hi hb hc, Nat.add_zero i] at e
  rw [e]
  unfold seqS
  rw [if_neg (by omega), if_pos he]
  simp
/-- a token that is there: its place, its size -/
theorem refTok_size {l : List UInt8} {i : Nat} (hi : i < l.length) (he : (refTok l i).2 = 0) : 0 < (refTok l i).1.size ∧ i + (refTok l i).1.size ≤ l.length ∧ (refTok l i).1.at_ = i ∧ (refTok l i).1.kind ≤ 5 ∧ 0 < (refTok l i).1.kind := by
  obtain ⟨s1, s2⟩ := same_tok hi
  have he' : (tokAt l i).2 = 0 := by rw [s1, he]
  obtain ⟨k1, k2, k3, k4⟩ := tok_kind hi he'
  have hp := spanE_pos (Nat.le_of_lt hi) k1
  have hb := spanE_bounds l i (Nat.le_of_lt hi)
  rw [← s2 he', k2, k3, k4]
  omega
theorem RAt.token {l : List UInt8} {done : List Tok} {i : Nat} (h : RAt l done i false) (hi : i < l.length) (hb : blankB (bAt l i) = false) (hc : bAt l i ≠ 35) (he : (refTok l i).2 = 0) :
    RAt l (done ++ [(refTok l i).1]) (i + (refTok l i).1.size) false := by
  obtain ⟨_, f, hf, e⟩ := h
  obtain ⟨z1, z2, _⟩ := refTok_size hi he
  rw [RAt.here hi hb hc, Nat.add_zero i] at e
  unfold seqS at e
  rw [if_neg (by omega), if_neg (fun h => h he)] at e
  obtain ⟨g, rfl⟩ : ∃ g, f = g + 1 := ⟨f - 1, by omega⟩
  rw [seqR_S g] at e
  refine ⟨z2, g, by omega, ?_⟩
  rw [e]
  simp
/-- so many tokens at the most -/
theorem seqR_few {l : List UInt8} : ∀ (f : Nat) (i : Nat), i ≤ l.length → (seqR f l i).1.length + i ≤ l.length
  | 0, i, h => by unfold seqR; simpa using h
  | f + 1, i, h => by
    rw [seqR_S]
    obtain ⟨P, hP⟩ : ∃ P, P = i + skipS false (l.drop i) := ⟨_, rfl⟩
    rw [← hP]
    unfold seqS
    by_cases h1 : l.length ≤ P
    · rw [if_pos h1]; simpa using h
    · rw [if_neg h1]
      by_cases h2 : (refTok l P).2 ≠ 0
      · rw [if_pos h2]; simpa using h
      · rw [if_neg h2]
        obtain ⟨z1, z2, _⟩ := refTok_size (l := l) (i := P) (by omega) (Classical.not_not.1 h2)
        have := seqR_few f (P + (refTok l P).1.size) z2
        simp only [List.length_cons]
        omega
end Go.Proofs.YtkhghbeojfgkhaaDoor
