/- A text that is one name, by the reference's scan: no program. -/
import Derived.Test.YtddeoemkjedonaaDoorMTokSame
import Derived.Test.YtddeoemkjedonaaDoorMExPlain
namespace Go.Proofs.YtddeoemkjedonaaDoor
open Go.RowKit

theorem tw_all {l : List UInt8} : ∀ {j : Nat}, tw wordB l j = (l.drop j).length ↔ (l.drop j).all wordB = true := by
  intro j
  unfold tw
  generalize l.drop j = r
  induction r with
  | nil => simp
  | cons c r ih =>
    rw [List.takeWhile_cons, List.all_cons]
    cases hc : wordB c with
    | true => simp only [if_true, List.length_cons, Nat.add_right_cancel_iff, Bool.true_and]; exact ih
    | false => simp
theorem letter_blank {c : UInt8} (h : letterB c = true) : blankB c = false ∧ c ≠ 35 := by
  have : ∀ c : UInt8, letterB c = true → blankB c = false ∧ c ≠ 35 := fun c => by
    have := all_u8 (fun c => (!letterB c || (!blankB c && !(c == 35))) = true) (by decide +kernel) c
    intro hl
    rw [hl] at this
    simp only [Bool.not_true, Bool.false_or, Bool.and_eq_true, Bool.not_eq_true', beq_eq_false_iff_ne] at this
    exact this
  exact this c h
/-- a text is one name just where the reference's scan says so -/
theorem named_iff (l : List UInt8) : ((allR l).2.2 = 0 ∧ (allR l).1.length = 1 ∧ ((allR l).1.getD 0 zeroTok).kind = 1 ∧ ((allR l).1.getD 0 zeroTok).size = l.length) ↔ nameB l = true := by
  constructor
  · rintro ⟨h1, h2, h3, h4⟩
    unfold allR at h1 h2 h3 h4
    by_cases hb : 32768 < l.length
    · rw [if_pos hb] at h1; cases h1
    rw [if_neg hb, seqR_S] at h1 h2 h3 h4
    generalize hP : 0 + skipS false (l.drop 0) = P at h1 h2 h3 h4
    unfold seqS at h1 h2 h3 h4
    by_cases hle : l.length ≤ P
    · rw [if_pos hle] at h2; cases h2
    rw [if_neg hle] at h1 h2 h3 h4
    by_cases he : (refTok l P).2 ≠ 0
    · rw [if_pos he] at h1; exact absurd h1 he
    rw [if_neg he] at h1 h2 h3 h4
    have he0 := Classical.not_not.1 he
    have h3' : (refTok l P).1.kind = 1 := h3
    have h4' : (refTok l P).1.size = l.length := h4
    obtain ⟨z1, z2, _⟩ := refTok_size (l := l) (i := P) (by omega) he0
    obtain rfl : P = 0 := by omega
    obtain ⟨s1, s2⟩ := same_tok (l := l) (A := 0) (by omega)
    have he' : (tokAt l 0).2 = 0 := by rw [s1, he0]
    obtain ⟨k1, k2, k3, k4⟩ := tok_kind (l := l) (A := 0) (by omega) he'
    have hk : (spanE l 0).1 = 1 := by rw [← k3, s2 he', h3']
    have hlet : letterB (bAt l 0) = true := by
      cases hl : letterB (bAt l 0) with
      | true => rfl
      | false =>
        exfalso
        unfold spanE at hk
        rw [hl, if_neg (by decide)] at hk
        split at hk
        · unfold numEnd at hk
          split at hk
          · cases hk
          · split at hk <;> cases hk
        · split at hk
          · cases hk
          · split at hk <;> cases hk
    have hrt : refTok l 0 = refName l 0 := by unfold refTok; rw [if_pos hlet]
    rw [hrt] at he0 h4'
    unfold refName at he0 h4'
    by_cases h32 : 32 < 1 + tw wordB l (0 + 1)
    · rw [if_pos h32] at he0; cases he0
    have h32b : ¬ 32 < 1 + tw wordB l 1 := h32
    rw [if_neg h32] at h4'
    have h5 : 1 + tw wordB l 1 = l.length := h4'
    have hall : (l.drop 1).all wordB = true := tw_all.1 (by rw [List.length_drop]; omega)
    have h0 : 0 < l.length := by omega
    have hd := drop_bAt h0
    rw [List.drop_zero] at hd
    unfold nameB
    rw [decide_eq_true h0, decide_eq_true (show l.length ≤ 32 by omega), hlet]
    simp only [Bool.true_and]
    rw [hd, List.all_cons, hall]
    unfold wordB
    rw [hlet]
    rfl
  · intro h
    unfold nameB at h
    simp only [Bool.and_eq_true, decide_eq_true_eq] at h
    obtain ⟨⟨⟨h0, h32⟩, hlet⟩, hall⟩ := h
    have hd := drop_bAt h0
    rw [List.drop_zero] at hd
    have hall1 : (l.drop 1).all wordB = true := by rw [hd, List.all_cons] at hall; exact (Bool.and_eq_true _ _ ▸ hall).2
    have htw := tw_all.2 hall1
    rw [List.length_drop] at htw
    obtain ⟨hbl, h35⟩ := letter_blank hlet
    have hskip : skipS false (l.drop 0) = 0 := RAt.here h0 hbl h35
    have hrt : refTok l 0 = (⟨1, (l.drop 0).take (1 + tw wordB l (0 + 1)), 0, 0, 0, 1 + tw wordB l (0 + 1)⟩, 0) := by
      unfold refTok
      rw [if_pos hlet]
      unfold refName
      rw [if_neg (by rw [Nat.zero_add, htw]; omega)]
    have hR : allR l = ([(refTok l 0).1], 0, 0) := by
      unfold allR
      rw [if_neg (by omega), seqR_S, hskip]
      unfold seqS
      rw [if_neg (by omega), hrt, if_neg (fun x => x rfl)]
      have e : (0 : Nat) + 0 + (1 + tw wordB l (0 + 1)) = l.length := by rw [Nat.zero_add 1, htw]; omega
      show (_ :: (seqR l.length l (0 + 0 + (1 + tw wordB l (0 + 1)))).1, (seqR l.length l (0 + 0 + (1 + tw wordB l (0 + 1)))).2) = _
      rw [e]
      obtain ⟨m, hm⟩ : ∃ m, l.length = m + 1 := ⟨l.length - 1, by omega⟩
      have hs : seqR l.length l l.length = ([], 0, 0) := by
        generalize hL : l.length = N at *
        obtain rfl : N = m + 1 := hm
        rw [seqR_S]
        unfold seqS
        rw [if_pos (by omega)]
      rw [hs]
    rw [hR, hrt]
    refine ⟨rfl, rfl, rfl, ?_⟩
    show 1 + tw wordB l (0 + 1) = l.length
    rw [Nat.zero_add, htw]
    omega
end Go.Proofs.YtddeoemkjedonaaDoor
