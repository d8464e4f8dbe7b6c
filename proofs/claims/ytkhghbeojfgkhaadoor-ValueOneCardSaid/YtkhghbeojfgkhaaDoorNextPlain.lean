/- The first token from a place on, as a plain function: no program. -/
import Derived.Test.YtkhghbeojfgkhaaDoorPiecePlain
import Derived.Lib.IndexLaws
namespace Go.Proofs.YtkhghbeojfgkhaaDoor
open Go.RowKit

structure Tok where
  kind : Nat
  text : List UInt8
  int : Int
  real : Nat
  at_ : Nat
  size : Nat
deriving DecidableEq

def pieceOf (l : List UInt8) (A E : Nat) : List UInt8 := (l.drop A).take (E - A)
/-- text, int, real and fault of a token of a kind -/
def baseF (l : List UInt8) (K A E : Nat) : List UInt8 × Int × Nat × Nat :=
  if K = 1 then (if E - A ≤ 32 then (pieceOf l A E, 0, 0, 0) else ([], 0, 0, 13))
  else if K = 2 then (match wholeF (pieceOf l A E) with | some v => ([], v, 0, 0) | none => ([], 0, 0, 12))
  else if K = 3 then (match scaledF (pieceOf l A E) with | some (m, e) => ([], 0, realBits m e, 0) | none => ([], 0, 0, 12))
  else if K = 4 then (match unquoteF (pieceOf l A E) with | some s => (s, 0, 0, 0) | none => ([], 0, 0, 11))
  else if K = 5 then (pieceOf l A E, 0, 0, 0)
  else ([], 0, 0, if A < l.length then 10 else 0)
def faultF (l : List UInt8) (K A E : Nat) : Nat := if (K = 2 ∨ K = 3) ∧ wordB (bAt l E) = true then 12 else (baseF l K A E).2.2.2
def tokAt (l : List UInt8) (A : Nat) : Tok × Nat :=
  if faultF l (spanE l A).1 A (spanE l A).2 ≠ 0 then (⟨0, [], 0, 0, A, 0⟩, faultF l (spanE l A).1 A (spanE l A).2)
  else (⟨(spanE l A).1, (baseF l (spanE l A).1 A (spanE l A).2).1, (baseF l (spanE l A).1 A (spanE l A).2).2.1, (baseF l (spanE l A).1 A (spanE l A).2).2.2.1, A, (spanE l A).2 - A⟩, 0)
/-- the first token at a place or behind it -/
def nextF (l : List UInt8) (i : Nat) : Tok × Nat := tokAt l (i + skipS false (l.drop i))

theorem skip_le (c : Bool) (l : List UInt8) : skipS c l ≤ l.length := by
  induction l generalizing c with
  | nil => simp [skipS]
  | cons x l ih =>
    cases c
    · unfold skipS
      split
      · have := ih false; simp; omega
      · split
        · have := ih true; simp; omega
        · simp
    · unfold skipS
      split
      · have := ih false; simp; omega
      · have := ih true; simp; omega
theorem quoteLen_le : ∀ (n : Nat) (r : List UInt8), r.length = n → quoteLen r ≤ r.length := by
  intro n
  induction n using Nat.strongRecOn with
  | _ n ih =>
    intro r hr
    match r with
    | [] => simp [quoteLen]
    | [c] => rw [quoteLen_cons]; split <;> (try split) <;> simp [quoteLen]
    | c :: d :: t =>
      have h1 := ih (d :: t).length (by simp at hr ⊢; omega) (d :: t) rfl
      have h2 := ih t.length (by simp at hr ⊢; omega) t rfl
      rw [quoteLen_cons]
      simp only [List.length_cons] at h1 ⊢
      split
      · omega
      · split <;> omega
theorem spanE_bounds (l : List UInt8) (A : Nat) (hA : A ≤ l.length) : A ≤ (spanE l A).2 ∧ (spanE l A).2 ≤ l.length ∧ (spanE l A).1 ≤ 5 ∧ ((spanE l A).1 = 4 → A < (spanE l A).2) := by
  have lt_of (p : UInt8 → Bool) (h0 : p 0 = false) (h : p (bAt l A) = true) : A < l.length := by
    rcases Nat.lt_or_ge A l.length with h' | h'
    · exact h'
    · rw [bAt_ge h', h0] at h; cases h
  unfold spanE
  split
  · rename_i h
    have h1 := lt_of letterB letter0 h
    have := tw_le wordB l (A + 1)
    simp only []
    omega
  · split
    · rename_i h
      have h1 := lt_of digitB digit0 h
      have h2 := tw_le digitB l (A + 1)
      generalize hd : A + 1 + tw digitB l (A + 1) = d
      unfold numEnd
      split
      · simp only []; omega
      · rename_i h3
        have h4 : d < l.length := by
          rcases Nat.lt_or_ge d l.length with h' | h'
          · exact h'
          · rw [bAt_ge h'] at h3; exact absurd h3 (by decide)
        split
        · rename_i h5
          have h6 : d + 1 < l.length := by
            rcases Nat.lt_or_ge (d + 1) l.length with h' | h'
            · exact h'
            · rw [bAt_ge h'] at h5; exact absurd h5 (by decide)
          have := tw_le digitB l (d + 2)
          simp only []; omega
        · have := tw_le digitB l (d + 1)
          simp only []; omega
    · split
      · rename_i h
        have h1 : A < l.length := by
          rcases Nat.lt_or_ge A l.length with h' | h'
          · exact h'
          · rw [bAt_ge h'] at h; exact absurd h (by decide)
        simp only []; omega
      · split
        · have h1 := markLen_le (l.drop A)
          simp at h1
          simp only []; omega
        · simp only []; omega

theorem bAt_piece {l : List UInt8} {A E k : Nat} : bAt (pieceOf l A E) k = if k < E - A then bAt l (A + k) else 0 := by
  unfold bAt pieceOf
  rw [List.getElem?_take]
  split
  · rw [List.getElem?_drop]
  · rfl
theorem bAt_drop {l : List UInt8} {j k : Nat} : bAt (l.drop j) k = bAt l (j + k) := by unfold bAt; rw [List.getElem?_drop]
theorem bAt_take {l : List UInt8} {j k : Nat} : bAt (l.take j) k = if k < j then bAt l k else 0 := by
  unfold bAt
  rw [List.getElem?_take]
  split <;> rfl
theorem wholeF_pos {l : List UInt8} {v : Int} (h : wholeF l = some v) (h0 : bAt l 0 ≠ 45) : 0 ≤ v := by
  unfold wholeF at h
  split at h
  · rename_i u hu
    split at h
    · cases h
    · injection h with h
      subst h
      unfold Lib.parseIntB at hu
      cases l with
      | nil => simp at hu
      | cons c r =>
        have hc : c.toNat ≠ 45 := by
          intro e
          apply h0
          show c = 45
          exact UInt8.toNat_inj.1 (by rw [e]; rfl)
        simp only at hu
        split at hu
        · cases hu
        · cases hu
        · simp [hc] at hu
          split at hu
          · cases hu
          · injection hu with hu; omega
  · cases h
theorem tw_in {p : UInt8 → Bool} {l : List UInt8} {j k : Nat} (h : k < tw p l j) : p (bAt l (j + k)) = true := by
  unfold tw at h
  have h1 : (l.drop j).takeWhile p <+: l.drop j := List.takeWhile_prefix p
  have h2 : ((l.drop j).takeWhile p)[k] = (l.drop j)[k]'(Nat.lt_of_lt_of_le h h1.length_le) := List.IsPrefix.getElem h1 h
  have h3 := List.all_takeWhile (l := l.drop j) (p := p)
  rw [List.all_eq_true] at h3
  have h4 := h3 _ (List.getElem_mem h)
  rw [h2] at h4
  have h5 : bAt l (j + k) = (l.drop j)[k]'(Nat.lt_of_lt_of_le h h1.length_le) := by
    rw [← bAt_drop, bAt_lt]
  rw [h5]
  exact h4
theorem tw_stop {p : UInt8 → Bool} {l : List UInt8} {j : Nat} (h0 : p 0 = false) : p (bAt l (j + tw p l j)) = false := by
  cases hp : p (bAt l (j + tw p l j))
  · rfl
  · exfalso
    have hlt : j + tw p l j < l.length := by
      rcases Nat.lt_or_ge (j + tw p l j) l.length with h | h
      · exact h
      · rw [bAt_ge h, h0] at hp; cases hp
    have h1 : tw p l j = tw p l j + (1 + tw p l (j + tw p l j + 1)) := by
      have h2 := (tw_yes hp h0).2
      have h3 : tw p l j = ((l.drop j).takeWhile p).length := rfl
      have h4 : l.drop j = (l.drop j).takeWhile p ++ (l.drop j).dropWhile p := List.takeWhile_append_dropWhile.symm
      have h5 : (l.drop j).dropWhile p = l.drop (j + tw p l j) := by
        rw [← List.drop_drop]
        conv => rhs; rw [h4]
        rw [h3, List.drop_left']
        rfl
      have h6 : (l.drop j).dropWhile p = bAt l (j + tw p l j) :: l.drop (j + tw p l j + 1) := by rw [h5, drop_bAt hlt]
      have h7 := List.head?_dropWhile_not p (l.drop j)
      rw [h6] at h7
      simp [hp] at h7
    omega

/-- where the p of a real stands, and what is behind it -/
theorem real_shape {l : List UInt8} {A E : Nat} (h : spanE l A = (3, E)) : ∃ d, A < d ∧ d < E ∧ E ≤ l.length ∧ (∀ k, A ≤ k → k < d → digitB (bAt l k) = true) ∧ bAt l d = 112 ∧
    ((bAt l (d + 1) = 45 ∧ E = d + 2 + tw digitB l (d + 2)) ∨ (bAt l (d + 1) ≠ 45 ∧ E = d + 1 + tw digitB l (d + 1))) := by
  have hE : E ≤ l.length := by
    rcases Nat.lt_or_ge l.length A with hA | hA
    · exfalso
      have hnil : l.drop A = [] := List.drop_eq_nil_of_le (by omega)
      unfold spanE at h
      rw [bAt_ge (by omega), letter0, digit0, hnil] at h
      simp [markLen] at h
    · have := (spanE_bounds l A hA).2.1
      rw [h] at this
      exact this
  unfold spanE at h
  split at h
  · simp at h
  · split at h
    · rename_i hd
      generalize hdd : A + 1 + tw digitB l (A + 1) = d at h
      unfold numEnd at h
      split at h
      · simp at h
      · rename_i h3
        have hdig : ∀ k, A ≤ k → k < d → digitB (bAt l k) = true := by
          intro k hk hkd
          rcases Nat.eq_or_lt_of_le hk with rfl | hk'
          · exact hd
          · have := tw_in (p := digitB) (l := l) (j := A + 1) (k := k - (A + 1)) (by omega)
            rwa [show A + 1 + (k - (A + 1)) = k by omega] at this
        split at h
        · rename_i h4
          simp only [Prod.mk.injEq, true_and] at h
          exact ⟨d, by omega, by omega, hE, hdig, by simpa using h3, .inl ⟨h4, h.symm⟩⟩
        · rename_i h4
          simp only [Prod.mk.injEq, true_and] at h
          exact ⟨d, by omega, by omega, hE, hdig, by simpa using h3, .inr ⟨h4, h.symm⟩⟩
    · split at h
      · simp at h
      · split at h <;> simp at h
theorem digit_ne {c k : UInt8} (h : digitB c = true) (hk : digitB k = false) : c ≠ k := by
  intro e; rw [e, hk] at h; cases h
theorem piece_getElem? {l : List UInt8} {A E k : Nat} (hk : k < E - A) (hE : E ≤ l.length) : (pieceOf l A E)[k]? = some (bAt l (A + k)) := by
  unfold pieceOf
  rw [List.getElem?_take, if_pos hk, List.getElem?_drop, bAt_lt (by omega)]
  exact List.getElem?_eq_getElem (by omega)
theorem real_index {l : List UInt8} {A E : Nat} (h : spanE l A = (3, E)) : ∃ d, A < d ∧ d < E ∧ E ≤ l.length ∧ digitB (bAt l A) = true ∧ Lib.indexByte (pieceOf l A E) 112 = ((d - A : Nat) : Int) ∧
    ((bAt l (d + 1) = 45 ∧ E = d + 2 + tw digitB l (d + 2)) ∨ (bAt l (d + 1) ≠ 45 ∧ E = d + 1 + tw digitB l (d + 1))) := by
  obtain ⟨d, h1, h2, h3, h4, h5, h6⟩ := real_shape h
  refine ⟨d, h1, h2, h3, h4 A (Nat.le_refl _) h1, ?_, h6⟩
  have hge := Lib.indexByte_ge (pieceOf l A E) 112
  have hp : (pieceOf l A E)[d - A]? = some 112 := by rw [piece_getElem? (by omega) h3, show A + (d - A) = d by omega, h5]
  by_cases hm : Lib.indexByte (pieceOf l A E) 112 = -1
  · exact absurd hp (Lib.indexByte_none hm _)
  · obtain ⟨o, ho⟩ : ∃ o : Nat, Lib.indexByte (pieceOf l A E) 112 = o := ⟨(Lib.indexByte (pieceOf l A E) 112).toNat, by omega⟩
    obtain ⟨g1, g2⟩ := Lib.indexByte_some ho
    rw [ho]
    have hlt : o ≤ d - A := by
      rcases Nat.lt_or_ge (d - A) o with g | g
      · exact absurd hp (g2 _ g)
      · exact g
    rcases Nat.eq_or_lt_of_le hlt with g | g
    · rw [g]
    · exfalso
      rw [piece_getElem? (by omega) h3] at g1
      have := h4 (A + o) (by omega) (by omega)
      exact digit_ne this (by decide) (Option.some.inj g1)
theorem real_ok {l : List UInt8} {A E : Nat} (h : spanE l A = (3, E)) :
    (∀ m, wholeF (cutAt (pieceOf l A E)).1 = some m → 0 ≤ m) ∧
    ∀ e, wholeF (if bAt (cutAt (pieceOf l A E)).2 0 = 45 then (cutAt (pieceOf l A E)).2.drop 1 else (cutAt (pieceOf l A E)).2) = some e → 0 ≤ e := by
  obtain ⟨d, h1, h2, h3, h4, h5, h6⟩ := real_index h
  have hcut : cutAt (pieceOf l A E) = ((pieceOf l A E).take (d - A), (pieceOf l A E).drop (d - A + 1)) := by
    unfold cutAt
    rw [h5, if_pos (by omega)]
    simp
  rw [hcut]
  refine ⟨fun m hm => wholeF_pos hm ?_, fun e he => ?_⟩
  · rw [bAt_take, if_pos (by omega), bAt_piece, if_pos (by omega)]
    exact digit_ne h4 (by decide)
  · by_cases hn : bAt ((pieceOf l A E).drop (d - A + 1)) 0 = 45
    · rw [if_pos hn] at he
      refine wholeF_pos he ?_
      rw [bAt_drop, bAt_drop, bAt_piece]
      split
      · rename_i hlt
        rw [bAt_drop, bAt_piece] at hn
        rw [if_pos (by omega), show A + (d - A + 1 + 0) = d + 1 by omega] at hn
        rcases h6 with ⟨_, h7⟩ | ⟨h7, _⟩
        · have := tw_in (p := digitB) (l := l) (j := d + 2) (k := 0) (by omega)
          rw [show A + (d - A + 1 + (1 + 0)) = d + 2 + 0 by omega]
          exact digit_ne this (by decide)
        · exact absurd hn h7
      · decide
    · rw [if_neg hn] at he
      exact wholeF_pos he hn
end Go.Proofs.YtkhghbeojfgkhaaDoor
