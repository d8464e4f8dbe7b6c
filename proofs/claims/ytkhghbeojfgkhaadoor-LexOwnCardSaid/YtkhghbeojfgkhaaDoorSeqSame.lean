/- The scanner's tokens and the reference's: the same, up to the same fault at the same place: no program. -/
import Derived.Test.YtkhghbeojfgkhaaDoorTextSame
import Derived.Test.YtkhghbeojfgkhaaDoorNumSame
namespace Go.Proofs.YtkhghbeojfgkhaaDoor
open Go.RowKit

/-- whichever token it is -/
theorem same_tok {l : List UInt8} {A : Nat} (hA : A < l.length) : SameT (tokAt l A) (refTok l A) := by
  unfold refTok
  by_cases h1 : letterB (bAt l A) = true
  · rw [if_pos h1]; exact same_name h1
  · rw [if_neg h1]
    have h1' : letterB (bAt l A) = false := by simpa using h1
    by_cases h2 : digitB (bAt l A) = true
    · rw [if_pos h2]; exact same_num hA h1' h2
    · rw [if_neg h2]
      have h2' : digitB (bAt l A) = false := by simpa using h2
      by_cases h3 : bAt l A = 34
      · rw [if_pos h3]; exact same_text hA h3
      · rw [if_neg h3]; exact same_mark hA h1' h2' h3

/-- the reference's tokens from a place on; with a fault: those ahead of it, its place, its error -/
def seqR : Nat → List UInt8 → Nat → List Tok × Nat × Nat
  | 0, _, _ => ([], 0, 0)
  | f + 1, l, i =>
    if l.length ≤ i + skipS false (l.drop i) then ([], 0, 0)
    else if (refTok l (i + skipS false (l.drop i))).2 ≠ 0 then ([], i + skipS false (l.drop i), (refTok l (i + skipS false (l.drop i))).2)
    else ((refTok l (i + skipS false (l.drop i))).1 :: (seqR f l (i + skipS false (l.drop i) + (refTok l (i + skipS false (l.drop i))).1.size)).1,
      (seqR f l (i + skipS false (l.drop i) + (refTok l (i + skipS false (l.drop i))).1.size)).2)

theorem tok_last (l : List UInt8) : tokAt l l.length = (⟨0, [], 0, 0, l.length, 0⟩, 0) := by
  have hd : l.drop l.length = [] := List.drop_length
  have hs : spanE l l.length = (0, l.length) := by
    unfold spanE
    rw [bAt_ge (Nat.le_refl _), letter0, digit0, hd]
    rfl
  unfold tokAt faultF
  rw [hs]
  simp [baseF]
theorem tok_kind {l : List UInt8} {A : Nat} (hA : A < l.length) (h : (tokAt l A).2 = 0) : (spanE l A).1 ≠ 0 ∧ (tokAt l A).1.at_ = A ∧ (tokAt l A).1.kind = (spanE l A).1 ∧ (tokAt l A).1.size = (spanE l A).2 - A := by
  rcases tokAt_cases l A (Nat.le_of_lt hA) with ⟨h1, _⟩ | ⟨_, h2, h3, h4⟩
  · exact absurd h h1
  · refine ⟨fun h0 => ?_, h2, h3, h4⟩
    have hf : faultF l (spanE l A).1 A (spanE l A).2 = 10 := by
      rw [h0]
      unfold faultF
      simp [baseF, hA]
    unfold tokAt at h
    rw [hf] at h
    simp at h

/-- the tokens that are told, out of the reference's -/
def toldR (r : List Tok × Nat × Nat) : List (Tok × Nat) := r.1.map (fun t => (t, 0)) ++ (if r.2.2 = 0 then [] else [(⟨0, [], 0, 0, r.2.1, 0⟩, r.2.2)])
theorem same_seq : ∀ (f : Nat) (l : List UInt8) (i : Nat), i ≤ l.length → seqF f l i = toldR (seqR f l i)
  | 0, l, i, _ => by unfold seqF seqR toldR; rfl
  | f + 1, l, i, hi => by
    have hp := next_place l i hi
    unfold seqF seqR nextF
    generalize i + skipS false (l.drop i) = A at *
    by_cases hA : l.length ≤ A
    · have e : A = l.length := by omega
      subst e
      rw [tok_last, if_neg (by simp), if_pos rfl, if_pos (Nat.le_refl _)]
      rfl
    · rw [if_neg hA]
      obtain ⟨s1, s2⟩ := same_tok (l := l) (A := A) (by omega)
      by_cases he : (tokAt l A).2 = 0
      · obtain ⟨k1, k2, k3, k4⟩ := tok_kind (by omega) he
        have hb := spanE_bounds l A (by omega)
        rw [if_neg (fun h => h he), if_neg (by rw [k3]; exact k1), if_neg (fun h => h (by rw [← s1, he]))]
        have e := s2 he
        rw [← e, same_seq f l _ (by rw [k2, k4]; omega), k2]
        unfold toldR
        simp only [List.map_cons, List.cons_append]
        congr 1
        exact Prod.ext rfl he
      · rw [if_pos he, if_pos (fun h => he (by rw [s1, h]))]
        rcases tokAt_cases l A (by omega) with ⟨_, h2⟩ | ⟨h2, _⟩
        · unfold toldR
          simp only [List.map_nil, List.nil_append]
          rw [if_neg (by rw [← s1]; exact he)]
          congr 1
          exact Prod.ext h2 s1
        · exact absurd h2 he
/-- a whole text's -/
def allR (l : List UInt8) : List Tok × Nat × Nat := if 32768 < l.length then ([], 0, 3) else seqR (l.length + 1) l 0
theorem same_all (l : List UInt8) : allF l = toldR (allR l) := by
  unfold allF allR
  by_cases h : 32768 < l.length
  · rw [if_pos h, if_pos h]; rfl
  · rw [if_neg h, if_neg h]; exact same_seq _ l 0 (Nat.zero_le _)
end Go.Proofs.YtkhghbeojfgkhaaDoor
