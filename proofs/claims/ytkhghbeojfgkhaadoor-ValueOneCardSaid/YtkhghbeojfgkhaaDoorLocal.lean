/- A token hangs on its own bytes and on the byte behind them alone. -/
import Derived.Test.YtkhghbeojfgkhaaDoorQuotesPlain
namespace Go.Proofs.YtkhghbeojfgkhaaDoor

/-- what a byte behind a token may be: the one that was there, a blank, or none -/
def Behind (c c' : UInt8) : Prop := c' = c ∨ blankB c' = true ∨ c' = 0
theorem blank_cases {c : UInt8} (h : blankB c = true) : c = 32 ∨ c = 9 ∨ c = 10 ∨ c = 13 := by
  unfold blankB at h
  simp only [Bool.or_eq_true, beq_iff_eq] at h
  rcases h with ((h | h) | h) | h
  · exact .inl h
  · exact .inr (.inl h)
  · exact .inr (.inr (.inl h))
  · exact .inr (.inr (.inr h))
theorem Behind.no {p : UInt8 → Bool} {c c' : UInt8} (h : Behind c c') (h0 : p 0 = false) (h1 : p 32 = false) (h2 : p 9 = false) (h3 : p 10 = false) (h4 : p 13 = false) (hc : p c = false) : p c' = false := by
  rcases h with rfl | h | rfl
  · exact hc
  · rcases blank_cases h with rfl | rfl | rfl | rfl <;> assumption
  · exact h0
theorem Behind.ne {c c' : UInt8} (h : Behind c c') (b : UInt8) (hb : b ≠ 0 ∧ b ≠ 32 ∧ b ≠ 9 ∧ b ≠ 10 ∧ b ≠ 13) (hc : c ≠ b) : c' ≠ b := by
  rcases h with rfl | h | rfl
  · exact hc
  · rcases blank_cases h with rfl | rfl | rfl | rfl
    · exact hb.2.1.symm
    · exact hb.2.2.1.symm
    · exact hb.2.2.2.1.symm
    · exact hb.2.2.2.2.symm
  · exact hb.1.symm
theorem word_no : wordB 0 = false ∧ wordB 32 = false ∧ wordB 9 = false ∧ wordB 10 = false ∧ wordB 13 = false := by decide
theorem digit_no : digitB 0 = false ∧ digitB 32 = false ∧ digitB 9 = false ∧ digitB 10 = false ∧ digitB 13 = false := by decide

theorem tw_none {p : UInt8 → Bool} {l : List UInt8} {j : Nat} (h : p (bAt l j) = false) : tw p l j = 0 := by
  unfold tw
  rcases Nat.lt_or_ge j l.length with hj | hj
  · rw [drop_bAt hj, List.takeWhile_cons, h]; simp
  · rw [List.drop_eq_nil_of_le hj]; rfl
theorem tw_on {p : UInt8 → Bool} (h0 : p 0 = false) {l : List UInt8} : ∀ (n j : Nat), (∀ i, i < n → p (bAt l (j + i)) = true) → p (bAt l (j + n)) = false → tw p l j = n
  | 0, j, _, h => tw_none h
  | n + 1, j, h, h' => by
    have h1 := tw_yes (h 0 (Nat.succ_pos _)) h0
    rw [Nat.add_zero] at h1
    rw [h1.2, tw_on h0 n (j + 1) (fun i hi => by rw [show j + 1 + i = j + (i + 1) by omega]; exact h (i + 1) (by omega)) (by rw [show j + 1 + n = j + (n + 1) by omega]; exact h')]
    omega
theorem tw_facts {p : UInt8 → Bool} (h0 : p 0 = false) {l : List UInt8} : ∀ (k j : Nat), l.length - j ≤ k → (∀ i, i < tw p l j → p (bAt l (j + i)) = true) ∧ p (bAt l (j + tw p l j)) = false
  | 0, j, hk => by
    have hb : bAt l j = 0 := bAt_ge (by omega)
    have h1 : tw p l j = 0 := tw_none (by rw [hb]; exact h0)
    rw [h1]
    exact ⟨fun i hi => by omega, by rw [Nat.add_zero, hb]; exact h0⟩
  | k + 1, j, hk => by
    cases hp : p (bAt l j) with
    | false =>
      rw [tw_none hp]
      exact ⟨fun i hi => by omega, hp⟩
    | true =>
      obtain ⟨g1, g2⟩ := tw_yes hp h0
      have hk' : l.length - (j + 1) ≤ k := by omega
      obtain ⟨i1, i2⟩ := tw_facts h0 k (j + 1) hk'
      rw [g2]
      refine ⟨fun i hi => ?_, by rw [show j + (1 + tw p l (j + 1)) = j + 1 + tw p l (j + 1) by omega]; exact i2⟩
      cases i with
      | zero => exact hp
      | succ i => rw [show j + (i + 1) = j + 1 + i by omega]; exact i1 i (by omega)

theorem mark_bytes (m : List UInt8) : markLen m = if twoMark (bAt m 0) (bAt m 1) = true then 2 else if oneMark (bAt m 0) = true then 1 else 0 := by
  match m with
  | [] => decide
  | [c] =>
    have h : twoMark c 0 = false := by unfold twoMark; simp
    simp [markLen, bAt, h]
  | c :: d :: m => simp [markLen, bAt]
theorem two_blank (c d : UInt8) (h : blankB d = true ∨ d = 0) : twoMark c d = false := by
  rcases h with h | rfl
  · rcases blank_cases h with rfl | rfl | rfl | rfl <;> (unfold twoMark; simp)
  · unfold twoMark; simp

theorem bAt_tk (l : List UInt8) (s i : Nat) (h : i < s) : bAt (l.take s) i = bAt l i := by simp [bAt, h]

theorem baseF_same {l r : List UInt8} {K A E B F : Nat} (hK : K = 1 ∨ K = 2 ∨ K = 3 ∨ K = 4 ∨ K = 5) (hs : F - B = E - A) (hp : pieceOf r B F = pieceOf l A E) : baseF r K B F = baseF l K A E := by
  unfold baseF
  rw [hs, hp]
  rcases hK with rfl | rfl | rfl | rfl | rfl <;> simp

theorem quoteLen_text (t : List UInt8) : ∀ rest, quoteLen (t.flatMap qPart ++ 34 :: rest) = (t.flatMap qPart).length + 1 := by
  induction t with
  | nil => intro rest; rw [List.flatMap_nil, List.nil_append, quoteLen_cons, if_pos rfl]; rfl
  | cons c t ih =>
    intro rest
    rw [List.flatMap_cons, List.append_assoc, quoteLen_part, ih rest, List.length_append]
    omega

theorem span_kind (l : List UInt8) (A : Nat) : (spanE l A).1 = 0 ∨ (spanE l A).1 = 1 ∨ (spanE l A).1 = 2 ∨ (spanE l A).1 = 3 ∨ (spanE l A).1 = 4 ∨ (spanE l A).1 = 5 := by
  unfold spanE
  split
  · simp
  · split
    · unfold numEnd
      split
      · simp
      · split <;> simp
    · split
      · simp
      · split <;> simp

/-- the span, at a place where the same bytes stand -/
theorem span_local {l r : List UInt8} {A B s : Nat} (hA : A ≤ l.length) (hk : (spanE l A).1 ≠ 0) (hs : (spanE l A).2 = A + s) (hq : (spanE l A).1 = 4 → ∃ t, pieceOf l A (A + s) = quoted t)
    (hp : (r.drop B).take s = (l.drop A).take s) (hr : B + s ≤ r.length) (hb : Behind (bAt l (A + s)) (bAt r (B + s))) : spanE r B = ((spanE l A).1, B + s) := by
  have hpos : 0 < s := by have := spanE_pos hA hk; omega
  have same : ∀ i, i < s → bAt r (B + i) = bAt l (A + i) := fun i hi => by
    rw [← bAt_drop, ← bAt_drop, ← bAt_tk _ s i hi, ← bAt_tk (l.drop A) s i hi, hp]
  have s0 : bAt r B = bAt l A := same 0 hpos
  obtain ⟨d0, d1, d2, d3, d4⟩ := digit_no
  obtain ⟨w0, w1, w2, w3, w4⟩ := word_no
  unfold spanE at hk hs hq ⊢
  rw [s0]
  split
  · rename_i hc
    rw [if_pos hc] at hs
    simp only at hs ⊢
    obtain ⟨f1, f2⟩ := tw_facts w0 (l := l) (l.length - (A + 1)) (A + 1) (Nat.le_refl _)
    have hn : tw wordB l (A + 1) = s - 1 := by omega
    rw [hn] at f1 f2
    have ht : tw wordB r (B + 1) = s - 1 := tw_on w0 _ _ (fun i hi => by rw [show B + 1 + i = B + (1 + i) by omega, same (1 + i) (by omega), show A + (1 + i) = A + 1 + i by omega]; exact f1 i hi)
      (by rw [show B + 1 + (s - 1) = B + s by omega]; rw [show A + 1 + (s - 1) = A + s by omega] at f2; exact hb.no w0 w1 w2 w3 w4 f2)
    rw [ht]
    congr 1
    omega
  · rename_i hc
    rw [if_neg hc] at hk hs hq
    split
    · rename_i hd
      rw [if_pos hd] at hk hs hq
      obtain ⟨f1, f2⟩ := tw_facts d0 (l := l) (l.length - (A + 1)) (A + 1) (Nat.le_refl _)
      obtain ⟨n, hn⟩ : ∃ n, n = tw digitB l (A + 1) := ⟨_, rfl⟩
      rw [← hn] at f1 f2 hs hk hq ⊢
      unfold numEnd at hs hk ⊢
      by_cases hpp : bAt l (A + 1 + n) ≠ 112
      · rw [if_pos hpp] at hs ⊢
        simp only at hs ⊢
        have hns : A + 1 + n = A + s := hs
        have ht : tw digitB r (B + 1) = n := tw_on d0 _ _ (fun i hi => by rw [show B + 1 + i = B + (1 + i) by omega, same (1 + i) (by omega), show A + (1 + i) = A + 1 + i by omega]; exact f1 i hi)
          (by rw [show B + 1 + n = B + s by omega]; rw [hns] at f2; exact hb.no d0 d1 d2 d3 d4 f2)
        have hne : bAt r (B + 1 + n) ≠ 112 := by
          rw [show B + 1 + n = B + s by omega]
          rw [hns] at hpp
          exact hb.ne 112 (by decide) hpp
        rw [ht, if_pos hne]
        congr 1
        omega
      · rw [if_neg hpp] at hs ⊢
        have hpe : bAt l (A + 1 + n) = 112 := by simpa using hpp
        have hlt : 1 + n < s := by split at hs <;> (simp only at hs; omega)
        have hrp : bAt r (B + 1 + n) = 112 := by rw [show B + 1 + n = B + (1 + n) by omega, same (1 + n) hlt, show A + (1 + n) = A + 1 + n by omega, hpe]
        have ht : tw digitB r (B + 1) = n := tw_on d0 _ _ (fun i hi => by rw [show B + 1 + i = B + (1 + i) by omega, same (1 + i) (by omega), show A + (1 + i) = A + 1 + i by omega]; exact f1 i hi)
          (by rw [hrp]; decide)
        rw [ht, if_neg (by simp [hrp])]
        by_cases hm : bAt l (A + 1 + n + 1) = 45
        · rw [if_pos hm] at hs ⊢
          simp only at hs ⊢
          obtain ⟨g1, g2⟩ := tw_facts d0 (l := l) (l.length - (A + 1 + n + 2)) (A + 1 + n + 2) (Nat.le_refl _)
          obtain ⟨k, hkk⟩ : ∃ k, k = tw digitB l (A + 1 + n + 2) := ⟨_, rfl⟩
          rw [← hkk] at g1 g2 hs
          have hrm : bAt r (B + 1 + n + 1) = 45 := by rw [show B + 1 + n + 1 = B + (1 + n + 1) by omega, same (1 + n + 1) (by omega), show A + (1 + n + 1) = A + 1 + n + 1 by omega, hm]
          have ht2 : tw digitB r (B + 1 + n + 2) = k := tw_on d0 _ _ (fun i hi => by rw [show B + 1 + n + 2 + i = B + (1 + n + 2 + i) by omega, same (1 + n + 2 + i) (by omega), show A + (1 + n + 2 + i) = A + 1 + n + 2 + i by omega]; exact g1 i hi)
            (by rw [show B + 1 + n + 2 + k = B + s by omega]; rw [hs] at g2; exact hb.no d0 d1 d2 d3 d4 g2)
          rw [if_pos hrm, ht2]
          congr 1
          omega
        · rw [if_neg hm] at hs ⊢
          simp only at hs ⊢
          obtain ⟨g1, g2⟩ := tw_facts d0 (l := l) (l.length - (A + 1 + n + 1)) (A + 1 + n + 1) (Nat.le_refl _)
          obtain ⟨k, hkk⟩ : ∃ k, k = tw digitB l (A + 1 + n + 1) := ⟨_, rfl⟩
          rw [← hkk] at g1 g2 hs
          have hrm : bAt r (B + 1 + n + 1) ≠ 45 := by
            rcases Nat.lt_or_ge (1 + n + 1) s with h' | h'
            · rw [show B + 1 + n + 1 = B + (1 + n + 1) by omega, same (1 + n + 1) h', show A + (1 + n + 1) = A + 1 + n + 1 by omega]; exact hm
            · rw [show B + 1 + n + 1 = B + s by omega]
              rw [show A + 1 + n + 1 = A + s by omega] at hm
              exact hb.ne 45 (by decide) hm
          have ht2 : tw digitB r (B + 1 + n + 1) = k := tw_on d0 _ _ (fun i hi => by rw [show B + 1 + n + 1 + i = B + (1 + n + 1 + i) by omega, same (1 + n + 1 + i) (by omega), show A + (1 + n + 1 + i) = A + 1 + n + 1 + i by omega]; exact g1 i hi)
            (by rw [show B + 1 + n + 1 + k = B + s by omega]; rw [hs] at g2; exact hb.no d0 d1 d2 d3 d4 g2)
          rw [if_neg hrm, ht2]
          congr 1
          omega
    · rename_i hd
      rw [if_neg hd] at hk hs hq
      split
      · rename_i h34
        rw [if_pos h34] at hk hs hq
        obtain ⟨t, ht⟩ := hq rfl
        have hpr : (r.drop B).take s = quoted t := by rw [hp]; unfold pieceOf at ht; rwa [Nat.add_sub_cancel_left] at ht
        have hlen : s = (t.flatMap qPart).length + 2 := by
          have := congrArg List.length hpr
          rw [List.length_take, List.length_drop] at this
          have e : (quoted t).length = (t.flatMap qPart).length + 2 := by unfold quoted qHead; simp
          omega
        have hsplit : r.drop B = quoted t ++ r.drop (B + s) := by
          rw [← hpr, ← List.drop_drop, List.take_append_drop]
        have hd1 : r.drop (B + 1) = t.flatMap qPart ++ 34 :: r.drop (B + s) := by
          rw [← List.drop_drop, hsplit]
          unfold quoted qHead
          simp
        rw [hd1, quoteLen_text]
        congr 1
        omega
      · rename_i h34
        rw [if_neg h34] at hk hs hq
        rw [mark_bytes, bAt_drop, bAt_drop, Nat.add_zero] at hs hk
        rw [mark_bytes (r.drop B), bAt_drop, bAt_drop, Nat.add_zero, s0]
        by_cases htw : twoMark (bAt l A) (bAt l (A + 1)) = true
        · rw [if_pos htw, if_pos (by decide)] at hs
          simp only at hs
          have hs2 : s = 2 := by omega
          subst hs2
          rw [same 1 (by decide), if_pos htw, if_pos (by decide), if_pos (by rw [mark_bytes, bAt_drop, bAt_drop, Nat.add_zero, if_pos htw]; decide)]
        · rw [if_neg htw] at hs hk
          by_cases hon : oneMark (bAt l A) = true
          · rw [if_pos hon, if_pos (by decide)] at hs
            simp only at hs
            have hs1 : s = 1 := by omega
            subst hs1
            have hnt : ¬ twoMark (bAt l A) (bAt r (B + 1)) = true := by
              rcases hb with h | h | h
              · rw [h]; exact htw
              · rw [two_blank _ _ (.inl h)]; simp
              · rw [two_blank _ _ (.inr h)]; simp
            rw [if_neg hnt, if_pos hon, if_pos (by decide), if_pos (by rw [mark_bytes, bAt_drop, bAt_drop, Nat.add_zero, if_neg htw, if_pos hon]; decide)]
          · rw [if_neg hon, if_neg (by decide)] at hk
            exact absurd rfl hk

/-- the token, at a place where the same bytes stand -/
theorem tok_local {l r : List UInt8} {A B s : Nat} (hA : A ≤ l.length) (h0 : (tokAt l A).2 = 0) (hk : (tokAt l A).1.kind ≠ 0) (hs : (tokAt l A).1.size = s)
    (hp : (r.drop B).take s = (l.drop A).take s) (hr : B + s ≤ r.length) (hb : Behind (bAt l (A + s)) (bAt r (B + s))) : tokAt r B = ({ (tokAt l A).1 with at_ := B }, 0) := by
  obtain ⟨w0, w1, w2, w3, w4⟩ := word_no
  rcases tokAt_cases l A hA with ⟨h, _⟩ | ⟨_, h1, h2, h3⟩
  · exact absurd h0 h
  · rw [h2] at hk
    rw [h3] at hs
    have hbd := spanE_bounds l A hA
    have hpos := spanE_pos hA hk
    have hE : (spanE l A).2 = A + s := by omega
    have hf0 : faultF l (spanE l A).1 A (spanE l A).2 = 0 := by
      unfold tokAt at h0
      split at h0
      · rename_i hf; exact absurd h0 hf
      · rename_i hf; simpa using hf
    have hK : (spanE l A).1 = 1 ∨ (spanE l A).1 = 2 ∨ (spanE l A).1 = 3 ∨ (spanE l A).1 = 4 ∨ (spanE l A).1 = 5 := by
      rcases span_kind l A with h | h
      · exact absurd h hk
      · exact h
    have hbase0 : (baseF l (spanE l A).1 A (spanE l A).2).2.2.2 = 0 := by
      unfold faultF at hf0
      split at hf0
      · cases hf0
      · exact hf0
    have hq : (spanE l A).1 = 4 → ∃ t, pieceOf l A (A + s) = quoted t := by
      intro h4
      rw [← hE]
      rw [h4] at hbase0
      have hq34 : bAt l A = 34 := by
        unfold spanE at h4
        split at h4
        · simp at h4
        · split at h4
          · unfold numEnd at h4
            split at h4
            · simp at h4
            · split at h4 <;> simp at h4
          · split at h4
            · assumption
            · split at h4 <;> simp at h4
      unfold baseF at hbase0
      rw [if_neg (by decide), if_neg (by decide), if_neg (by decide), if_pos rfl] at hbase0
      cases hu : unquoteF (pieceOf l A (spanE l A).2) with
      | none => rw [hu] at hbase0; cases hbase0
      | some t =>
        unfold unquoteF at hu
        split at hu
        · rename_i t' ht'
          have hd := unq_back _ _ _ ht'
          refine ⟨t', ?_⟩
          have hhead : pieceOf l A (spanE l A).2 = 34 :: (pieceOf l A (spanE l A).2).drop 1 := by
            unfold pieceOf
            rw [drop_bAt (by omega), hq34, show (spanE l A).2 - A = ((spanE l A).2 - A - 1) + 1 by omega, List.take_succ_cons]
            rfl
          rw [hhead, hd]
          rfl
        · cases hu
    have hsp := span_local hA hk hE hq hp hr hb
    have hpc : pieceOf r B (B + s) = pieceOf l A (spanE l A).2 := by
      unfold pieceOf
      rw [hE, Nat.add_sub_cancel_left, Nat.add_sub_cancel_left]
      exact hp
    have hbs := baseF_same hK (show B + s - B = (spanE l A).2 - A by omega) hpc
    have hfr : faultF r (spanE l A).1 B (B + s) = 0 := by
      unfold faultF at hf0 ⊢
      rw [hbs]
      split at hf0
      · cases hf0
      · rename_i hn
        rw [if_neg]
        · exact hf0
        · rintro ⟨g1, g2⟩
          have : wordB (bAt l (spanE l A).2) = false := by
            cases hw : wordB (bAt l (spanE l A).2) with
            | false => rfl
            | true => exact absurd ⟨g1, hw⟩ hn
          rw [hE] at this
          rw [hb.no w0 w1 w2 w3 w4 this] at g2
          cases g2
    unfold tokAt
    rw [hsp]
    simp only
    rw [if_neg (by rw [hfr]; simp), if_neg (by rw [hf0]; simp), hbs]
    simp only
    congr 2
    omega
end Go.Proofs.YtkhghbeojfgkhaaDoor
