/- A text's token and the reference's at one place: the same, or the same error: no program. -/
import Derived.Test.YtkhghbeojfgkhaaDoorTokSame
import Derived.Test.YtkhghbeojfgkhaaDoorQuotesPlain
namespace Go.Proofs.YtkhghbeojfgkhaaDoor
open Go.RowKit

/-- the parts from a place on: what they are the quotes of, and where they end -/
theorem parts_back : ∀ (f : Nat) (l : List UInt8) (i : Nat), i ≤ l.length → l.length + 1 ≤ f + i →
    i ≤ (partsF f l i).2 ∧ (partsF f l i).2 ≤ l.length ∧ l.drop i = (partsF f l i).1.flatMap qPart ++ l.drop (partsF f l i).2
  | 0, l, i, h, hf => by omega
  | f + 1, l, i, h, hf => by
    have hle := (partF_le (l.drop i)).1
    rw [List.length_drop] at hle
    unfold partsF
    by_cases h0 : (partF (l.drop i)).2 = 0
    · rw [if_pos h0]
      exact ⟨Nat.le_refl _, h, by simp⟩
    · rw [if_neg h0]
      obtain ⟨h1, h2, h3⟩ := parts_back f l (i + (partF (l.drop i)).2) (by omega) (by omega)
      refine ⟨by simp only; omega, h2, ?_⟩
      simp only [List.flatMap_cons, List.append_assoc]
      rw [← h3, ← part_take _ h0, ← List.drop_drop, List.take_append_drop]

theorem part_end (t : List UInt8) : (partF (34 :: t)).2 = 0 := by
  unfold partF
  simp [bAt]

/-- quotes of parts and a quote's end: the parts are found -/
theorem parts_on : ∀ (s : List UInt8) (f : Nat) (l : List UInt8) (i : Nat) (t : List UInt8), i ≤ l.length → l.length + 1 ≤ f + i → l.drop i = s.flatMap qPart ++ 34 :: t →
    partsF f l i = (s, i + (s.flatMap qPart).length)
  | [], f, l, i, t, h, hf, e => by
    obtain ⟨g, rfl⟩ : ∃ g, f = g + 1 := ⟨f - 1, by omega⟩
    unfold partsF
    rw [e]
    simp [part_end]
  | c :: s, f, l, i, t, h, hf, e => by
    obtain ⟨g, rfl⟩ : ∃ g, f = g + 1 := ⟨f - 1, by omega⟩
    obtain ⟨h1, _, h3⟩ := part_on c (s.flatMap qPart ++ 34 :: t)
    rw [List.flatMap_cons, List.append_assoc] at e
    have hlen : (l.drop i).length = l.length - i := List.length_drop
    rw [e, List.length_append] at hlen
    unfold partsF
    rw [e, h1]
    simp only
    rw [if_neg (by omega), parts_on s g l (i + (qPart c).length) t (by omega) (by omega) (by rw [← List.drop_drop, e, List.drop_left])]
    simp only [List.flatMap_cons, List.length_append]
    rw [Nat.add_assoc]

theorem quoteLen_parts : ∀ (s t : List UInt8), quoteLen (s.flatMap qPart ++ 34 :: t) = (s.flatMap qPart).length + 1
  | [], t => by simp [quoteLen_cons]
  | c :: s, t => by
    rw [List.flatMap_cons, List.append_assoc, quoteLen_part, quoteLen_parts s t, List.length_append]; omega

/-- a text's token, where it is closed -/
theorem tok_text {l : List UInt8} {A : Nat} {s t : List UInt8} (hA : A < l.length) (h : bAt l A = 34) (e : l.drop (A + 1) = s.flatMap qPart ++ 34 :: t) :
    tokAt l A = if s.length ≤ 256 then (⟨4, s, 0, 0, A, (s.flatMap qPart).length + 2⟩, 0) else (⟨0, [], 0, 0, A, 0⟩, 11) := by
  have hlen : (l.drop (A + 1)).length = l.length - (A + 1) := List.length_drop
  rw [e, List.length_append, List.length_cons] at hlen
  have hs : spanE l A = (4, A + ((s.flatMap qPart).length + 2)) := by
    unfold spanE
    rw [h, if_neg (by decide), if_neg (by decide), if_pos rfl, e, quoteLen_parts, Nat.min_eq_left (by omega)]
    congr 1
    omega
  have hp : pieceOf l A (A + ((s.flatMap qPart).length + 2)) = 34 :: (s.flatMap qPart ++ [34]) := by
    unfold pieceOf
    rw [drop_bAt hA, h, e, Nat.add_sub_cancel_left, List.take_succ_cons, List.take_append, List.take_of_length_le (by omega),
      show (s.flatMap qPart).length + 1 - (s.flatMap qPart).length = 1 by omega]
    rfl
  have hu : unquoteF (34 :: (s.flatMap qPart ++ [34])) = if s.length ≤ 256 then some s else none := by
    unfold unquoteF
    rw [List.drop_succ_cons, List.drop_zero, unq_on s _ (by simp; omega)]
  unfold tokAt faultF
  rw [hs]
  simp only [baseF, hp, hu]
  by_cases hl : s.length ≤ 256
  · simp [hl]
  · simp [hl]

theorem same_text {l : List UInt8} {A : Nat} (hA : A < l.length) (h : bAt l A = 34) : SameT (tokAt l A) (refText l A) := by
  obtain ⟨h1, h2, h3⟩ := parts_back (l.length + 1) l (A + 1) hA (by omega)
  by_cases hk : (partsF (l.length + 1) l (A + 1)).2 < l.length ∧ bAt l (partsF (l.length + 1) l (A + 1)).2 = 34
  · unfold refText
    generalize partsF (l.length + 1) l (A + 1) = p at *
    obtain ⟨s, k⟩ := p
    simp only at *
    rw [drop_bAt hk.1, hk.2] at h3
    have hlen := congrArg List.length h3
    simp only [List.length_drop, List.length_append, List.length_cons] at hlen
    rw [tok_text hA h h3]
    by_cases hl : s.length ≤ 256
    · rw [if_pos hl, if_pos ⟨hk.1, hk.2, hl⟩, show (s.flatMap qPart).length + 2 = k + 1 - A by omega]
      exact ⟨rfl, fun _ => rfl⟩
    · rw [if_neg hl, if_neg (fun h => hl h.2.2)]
      exact ⟨rfl, fun h => by cases h⟩
  · have hr : refText l A = (zeroTok, 11) := by
      unfold refText
      rw [if_neg (fun h => hk ⟨h.1, h.2.1⟩)]
    have hE : (spanE l A).1 = 4 := by
      unfold spanE
      rw [h, if_neg (by decide), if_neg (by decide), if_pos rfl]
    have hb := spanE_bounds l A (Nat.le_of_lt hA)
    have hAE := hb.2.2.2 hE
    have hu : unquoteF (pieceOf l A (spanE l A).2) = none := by
      cases hu : unquoteF (pieceOf l A (spanE l A).2) with
      | none => rfl
      | some s =>
        exfalso
        unfold unquoteF at hu
        cases ht : unqF ((pieceOf l A (spanE l A).2).length + 1) ((pieceOf l A (spanE l A).2).drop 1) with
        | none => rw [ht] at hu; cases hu
        | some t =>
          have hd := unq_back _ _ _ ht
          have hp : (pieceOf l A (spanE l A).2).drop 1 = (l.drop (A + 1)).take ((spanE l A).2 - (A + 1)) := by
            unfold pieceOf
            rw [List.drop_take, List.drop_drop, Nat.sub_sub]
          have e : l.drop (A + 1) = t.flatMap qPart ++ 34 :: (l.drop (A + 1)).drop ((spanE l A).2 - (A + 1)) := by
            conv => lhs; rw [← List.take_append_drop ((spanE l A).2 - (A + 1)) (l.drop (A + 1)), ← hp, hd, List.append_assoc]
            rfl
          have hlen := congrArg List.length e
          simp only [List.length_drop, List.length_append, List.length_cons] at hlen
          have hon := parts_on t (l.length + 1) l (A + 1) _ hA (by omega) e
          rw [hon] at hk
          have hlt : A + 1 + (t.flatMap qPart).length < l.length := by omega
          refine hk ⟨hlt, ?_⟩
          simp only
          have : bAt (l.drop (A + 1)) (t.flatMap qPart).length = 34 := by
            rw [e]; unfold bAt; simp
          rwa [bAt_drop] at this
    rw [hr]
    have hf : faultF l (spanE l A).1 A (spanE l A).2 = 11 := by
      unfold faultF
      rw [hE]
      simp [baseF, hu]
    unfold tokAt
    rw [if_pos (by rw [hf]; decide), hf]
    exact ⟨rfl, fun h => by cases h⟩
end Go.Proofs.YtkhghbeojfgkhaaDoor
