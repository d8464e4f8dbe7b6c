/- What is quoted is read back, and there is no other way to quote it. -/
import Derived.Test.YtkhghbeojfgkhaaDoorSeqPlain
import Derived.Test.YtkhghbeojfgkhaaDoorQuotePlain
namespace Go.Proofs.YtkhghbeojfgkhaaDoor

theorem hex_back (c : UInt8) : ∀ v, hexVal c = some v → hexDigit v = c :=
  all_u8 (fun c => ∀ v, hexVal c = some v → hexDigit v = c) (by
    have h : ∀ n : Fin 256, (match hexVal (UInt8.ofNat n.val) with | some v => decide (hexDigit v = UInt8.ofNat n.val) | none => true) = true := by decide +kernel
    intro n v hv
    have := h n
    rw [hv] at this
    simpa using this) c
theorem hex_on : ∀ v, v < 16 → hexVal (hexDigit v) = some v ∧ hexDigit v ≠ 34 ∧ hexDigit v ≠ 92 := by decide +kernel
theorem plain_no0 : plainB 0 = false := by decide
theorem plain_two : plainB 34 = true ∧ plainB 92 = true := by decide
theorem take_one {r : List UInt8} (h : 0 < r.length) : r.take 1 = [bAt r 0] := by
  cases r with
  | nil => simp at h
  | cons a r => simp [bAt]
theorem take_two {r : List UInt8} (h : 1 < r.length) : r.take 2 = [bAt r 0, bAt r 1] := by
  match r with
  | [] => simp at h
  | [a] => simp at h
  | a :: b :: r => simp [bAt]
theorem take_four {r : List UInt8} (h : 3 < r.length) : r.take 4 = [bAt r 0, bAt r 1, bAt r 2, bAt r 3] := by
  match r with
  | [] => simp at h
  | [a] => simp at h
  | [a, b] => simp at h
  | [a, b, c] => simp at h
  | a :: b :: c :: d :: r => simp [bAt]
theorem hex_pos {c : UInt8} {v : Nat} (h : hexVal c = some v) : c ≠ 0 := by
  rintro rfl
  rw [show hexVal 0 = none from by decide] at h
  cases h

theorem qp_plain {c : UInt8} (h1 : c ≠ 92) (h2 : c ≠ 34) (h : plainB c = true) : qPart c = [c] := by
  unfold qPart
  rw [if_neg, if_pos]
  · simpa [plainB] using h
  · rintro (e | e)
    · exact h2 (by apply UInt8.toNat_inj.1; simpa using e)
    · exact h1 (by apply UInt8.toNat_inj.1; simpa using e)
theorem qp_esc {c : UInt8} (h : c = 34 ∨ c = 92) : qPart c = [92, c] := by
  rcases h with rfl | rfl <;> decide
theorem qp_hex {c : UInt8} (h : plainB c = false) : qPart c = [92, 120, hexDigit (c.toNat / 16), hexDigit (c.toNat % 16)] := by
  unfold qPart
  have h' : ¬ (32 ≤ c.toNat ∧ c.toNat ≤ 126) := by simpa [plainB] using h
  rw [if_neg (by omega), if_neg h']

theorem part_take (r : List UInt8) (h : (partF r).2 ≠ 0) : r.take (partF r).2 = qPart (partF r).1 := by
  unfold partF at h ⊢
  split
  · rename_i hc
    obtain ⟨h1, h2, h3⟩ := hc
    rw [qp_plain h1 h2 h3]
    exact take_one (bAt_pos (by rintro e; rw [e, plain_no0] at h3; cases h3))
  · rename_i hn
    rw [if_neg hn] at h
    split
    · rename_i hc
      obtain ⟨h1, h2⟩ := hc
      rw [qp_esc h2]
      have : 1 < r.length := bAt_pos (by rintro e; rw [e] at h2; revert h2; decide)
      rw [take_two this, h1]
    · rename_i hn2
      rw [if_neg hn2] at h
      split
      · rename_i hc
        rw [if_pos hc] at h
        split
        · rename_i a b ha hb
          rw [ha, hb] at h
          simp only at h
          split
          · rename_i hp; rw [if_pos hp] at h; exact absurd rfl h
          · rename_i hp
            have hp' : plainB (UInt8.ofNat (16 * a + b)) = false := by simpa using hp
            have a1 := hexVal_lt ha
            have b1 := hexVal_lt hb
            have e : (UInt8.ofNat (16 * a + b)).toNat = 16 * a + b := by simp; omega
            rw [qp_hex hp', e, show (16 * a + b) / 16 = a by omega, show (16 * a + b) % 16 = b by omega, hex_back _ _ ha, hex_back _ _ hb]
            have : 3 < r.length := bAt_pos (hex_pos hb)
            rw [take_four this, hc.1, hc.2]
        · rename_i hne
          exfalso
          split at h
          · rename_i a b ha hb; exact hne a b ha hb
          · exact h rfl
      · rename_i hn3
        rw [if_neg hn3] at h
        exact absurd rfl h

theorem unq_back : ∀ (f : Nat) (r s : List UInt8), unqF f r = some s → r = s.flatMap qPart ++ [34]
  | 0, r, s, h => by cases h
  | f + 1, r, s, h => by
    unfold unqF at h
    split at h
    · rename_i hr; cases h; simpa using hr
    · split at h
      · cases h
      · rename_i hk
        cases hs : unqF f (r.drop (partF r).2) with
        | none => rw [hs] at h; cases h
        | some t =>
          rw [hs] at h
          simp only [Option.map_some, Option.some.injEq] at h
          subst h
          rw [List.flatMap_cons, List.append_assoc, ← unq_back f _ t hs, ← part_take r hk, List.take_append_drop]

theorem part_on (c : UInt8) (r : List UInt8) : partF (qPart c ++ r) = (c, (qPart c).length) ∧ qPart c ++ r ≠ [34] ∧ 0 < (qPart c).length := by
  by_cases h1 : c = 34 ∨ c = 92
  · rw [qp_esc h1]
    refine ⟨?_, by simp, by simp⟩
    unfold partF
    rw [if_neg (by simp [bAt]), if_pos ⟨by simp [bAt], by simpa [bAt] using h1⟩]
    simp [bAt]
  · have h2 : c ≠ 34 := fun e => h1 (.inl e)
    have h3 : c ≠ 92 := fun e => h1 (.inr e)
    cases hp : plainB c with
    | true =>
      rw [qp_plain h3 h2 hp]
      refine ⟨?_, by simp [h2], by simp⟩
      unfold partF
      rw [if_pos ⟨by simpa [bAt] using h3, by simpa [bAt] using h2, by simpa [bAt] using hp⟩]
      simp [bAt]
    | false =>
      rw [qp_hex hp]
      have hlt : c.toNat < 256 := c.toNat_lt
      refine ⟨?_, by simp, by simp⟩
      obtain ⟨a1, _, _⟩ := hex_on (c.toNat / 16) (by omega)
      obtain ⟨b1, _, _⟩ := hex_on (c.toNat % 16) (by omega)
      unfold partF
      rw [if_neg (by simp [bAt]), if_neg (by simp [bAt]), if_pos (by simp [bAt])]
      have e2 : bAt ([92, 120, hexDigit (c.toNat / 16), hexDigit (c.toNat % 16)] ++ r) 2 = hexDigit (c.toNat / 16) := by simp [bAt]
      have e3 : bAt ([92, 120, hexDigit (c.toNat / 16), hexDigit (c.toNat % 16)] ++ r) 3 = hexDigit (c.toNat % 16) := by simp [bAt]
      rw [e2, e3, a1, b1]
      have e : UInt8.ofNat (16 * (c.toNat / 16) + c.toNat % 16) = c := by rw [show 16 * (c.toNat / 16) + c.toNat % 16 = c.toNat by omega]; simp
      simp only [e, hp]
      simp
theorem unq_on : ∀ (s : List UInt8) (f : Nat), (s.flatMap qPart).length < f → unqF f (s.flatMap qPart ++ [34]) = some s
  | [], f, h => by
    obtain ⟨g, rfl⟩ : ∃ g, f = g + 1 := ⟨f - 1, by simp at h; omega⟩
    simp [unqF]
  | c :: s, f, h => by
    obtain ⟨g, rfl⟩ : ∃ g, f = g + 1 := ⟨f - 1, by omega⟩
    obtain ⟨h1, h2, h3⟩ := part_on c (s.flatMap qPart ++ [34])
    rw [List.flatMap_cons, List.append_assoc]
    unfold unqF
    rw [if_neg h2, h1, if_neg (by simp only; omega)]
    simp only [List.drop_left]
    rw [unq_on s g (by rw [List.flatMap_cons, List.length_append] at h; omega)]
    rfl

theorem quoteLen_part (c : UInt8) (r : List UInt8) : quoteLen (qPart c ++ r) = (qPart c).length + quoteLen r := by
  by_cases h1 : c = 34 ∨ c = 92
  · rw [qp_esc h1]
    simp only [List.cons_append, List.nil_append, List.length_cons, List.length_nil]
    rw [quoteLen_cons, if_neg (by decide), if_pos rfl]
  · have h2 : c ≠ 34 := fun e => h1 (.inl e)
    have h3 : c ≠ 92 := fun e => h1 (.inr e)
    cases hp : plainB c with
    | true =>
      rw [qp_plain h3 h2 hp]
      simp only [List.cons_append, List.nil_append, List.length_cons, List.length_nil]
      rw [quoteLen_cons, if_neg h2, if_neg h3]
    | false =>
      rw [qp_hex hp]
      have hlt : c.toNat < 256 := c.toNat_lt
      obtain ⟨_, a2, a3⟩ := hex_on (c.toNat / 16) (by omega)
      obtain ⟨_, b2, b3⟩ := hex_on (c.toNat % 16) (by omega)
      simp only [List.cons_append, List.nil_append, List.length_cons, List.length_nil]
      rw [quoteLen_cons, if_neg (by decide), if_pos rfl]
      simp only
      rw [quoteLen_cons, if_neg a2, if_neg a3, quoteLen_cons, if_neg b2, if_neg b3]
      omega
theorem quoteLen_all : ∀ (s : List UInt8), quoteLen (s.flatMap qPart ++ [34]) = (s.flatMap qPart ++ [34]).length
  | [] => by simp [quoteLen]
  | c :: s => by
    rw [List.flatMap_cons, List.append_assoc, quoteLen_part, quoteLen_all s]; simp
theorem qp_le (c : UInt8) : (qPart c).length ≤ 4 := by unfold qPart; split <;> (try split) <;> simp
theorem flat_le : ∀ s : List UInt8, (s.flatMap qPart).length ≤ 4 * s.length
  | [] => by simp
  | c :: s => by
    rw [List.flatMap_cons, List.length_append, List.length_cons]
    have := qp_le c
    have := flat_le s
    omega

theorem tok_end (l : List UInt8) : nextF l l.length = (⟨0, [], 0, 0, l.length, 0⟩, 0) := by
  have hd : l.drop l.length = [] := List.drop_length
  unfold nextF
  rw [hd]
  simp only [skipS, Nat.add_zero]
  have hs : spanE l l.length = (0, l.length) := by
    unfold spanE
    rw [bAt_ge (Nat.le_refl _), letter0, digit0, hd]
    rfl
  have hf : faultF l 0 l.length l.length = 0 := by
    unfold faultF baseF
    simp
  unfold tokAt
  rw [hs]
  simp only
  rw [hf, if_neg (by simp)]
  unfold baseF
  simp

theorem scan_quoted (s : List UInt8) (h : s.length ≤ 256) : allF (quoted s) = [(⟨4, s, 0, 0, 0, (quoted s).length⟩, 0)] := by
  have hq : quoted s = 34 :: (s.flatMap qPart ++ [34]) := rfl
  have hfl := flat_le s
  have hlen : (quoted s).length = (s.flatMap qPart).length + 2 := by rw [hq]; simp
  have hn0 : nextF (quoted s) 0 = (⟨4, s, 0, 0, 0, (quoted s).length⟩, 0) := by
    unfold nextF
    have hk : skipS false ((quoted s).drop 0) = 0 := by rw [hq]; rfl
    rw [hk]
    have hsp : spanE (quoted s) 0 = (4, (quoted s).length) := by
      unfold spanE
      have hb : bAt (quoted s) 0 = 34 := by rw [hq]; rfl
      rw [hb, if_neg (by decide), if_neg (by decide), if_pos rfl]
      have hd : (quoted s).drop (0 + 1) = s.flatMap qPart ++ [34] := by rw [hq]; rfl
      rw [hd, quoteLen_all]
      have : 0 + 1 + (s.flatMap qPart ++ [34]).length = (quoted s).length := by rw [hlen]; simp; omega
      rw [this, Nat.min_self]
    have hp : pieceOf (quoted s) 0 (quoted s).length = quoted s := by unfold pieceOf; simp
    have hu : unquoteF (quoted s) = some s := by
      unfold unquoteF
      have hd : (quoted s).drop 1 = s.flatMap qPart ++ [34] := by rw [hq]; rfl
      rw [hd, unq_on s _ (by rw [hlen]; omega)]
      simp [h]
    have hbase : baseF (quoted s) 4 0 (quoted s).length = (s, 0, 0, 0) := by
      unfold baseF
      rw [if_neg (by decide), if_neg (by decide), if_neg (by decide), if_pos rfl, hp, hu]
    have hf : faultF (quoted s) 4 0 (quoted s).length = 0 := by
      unfold faultF
      rw [if_neg (by simp), hbase]
    simp only [Nat.zero_add]
    unfold tokAt
    rw [hsp]
    simp only
    rw [hf, if_neg (by simp), hbase]
    rfl
  unfold allF
  rw [if_neg (by omega)]
  rw [seqF, hn0, if_neg (by simp), if_neg (by simp)]
  simp only [Nat.zero_add]
  obtain ⟨g, hg⟩ : ∃ g, (quoted s).length = g + 1 := ⟨(quoted s).length - 1, by omega⟩
  have he := tok_end (quoted s)
  conv => lhs; arg 2; rw [show seqF (quoted s).length (quoted s) (quoted s).length = seqF (g + 1) (quoted s) (quoted s).length by rw [← hg]]
  rw [seqF, he, if_neg (by simp), if_pos rfl]

theorem mem_seq : ∀ (f : Nat) (l : List UInt8) (i : Nat), i ≤ l.length → ∀ x ∈ seqF f l i, ∃ j, j ≤ l.length ∧ x = nextF l j
  | 0, _, _, _, x, h => by cases h
  | f + 1, l, i, hi, x, h => by
    unfold seqF at h
    split at h
    · simp at h; exact ⟨i, hi, h⟩
    · rename_i he
      split at h
      · cases h
      · rename_i hk
        rcases List.mem_cons.1 h with h | h
        · exact ⟨i, hi, h⟩
        · exact mem_seq f l _ (next_on hi (by omega) hk).2.1 x h
theorem piece_len (l : List UInt8) {A E : Nat} (h1 : A ≤ E) (h2 : E ≤ l.length) : (pieceOf l A E).length = E - A := by unfold pieceOf; simp; omega

/-- a text token's bytes are its text, quoted -/
theorem text_token (l : List UInt8) (x : Tok × Nat) (hx : x ∈ allF l) (h0 : x.2 = 0) (hk : x.1.kind = 4) :
    x.1.text.length ≤ 256 ∧ pieceOf l x.1.at_ (x.1.at_ + x.1.size) = quoted x.1.text ∧ x.1.at_ + x.1.size ≤ l.length := by
  unfold allF at hx
  split at hx
  · simp at hx; rw [hx] at h0; cases h0
  · obtain ⟨j, hj, rfl⟩ := mem_seq _ l 0 (Nat.zero_le _) x hx
    have hA := next_place l j hj
    obtain ⟨A, hAe⟩ : ∃ A, A = j + skipS false (l.drop j) := ⟨_, rfl⟩
    have hn : nextF l j = tokAt l A := by rw [hAe]; rfl
    rw [← hAe] at hA
    rw [hn] at h0 hk ⊢
    rcases tokAt_cases l A hA with ⟨h, _⟩ | ⟨_, h1, h2, h3⟩
    · exact absurd h0 h
    · rw [h2] at hk
      have hb := spanE_bounds l A hA
      have hpos := spanE_pos hA (by rw [hk]; decide)
      rw [h1, h3, Nat.add_sub_cancel' hb.1]
      have hq : bAt l A = 34 := by
        unfold spanE at hk
        split at hk
        · simp at hk
        · split at hk
          · unfold numEnd at hk
            split at hk
            · simp at hk
            · split at hk <;> simp at hk
          · split at hk
            · assumption
            · split at hk <;> simp at hk
      have htext : (tokAt l A).1.text = (baseF l 4 A (spanE l A).2).1 ∧ (baseF l 4 A (spanE l A).2).2.2.2 = 0 := by
        unfold tokAt at h0 ⊢
        split at h0
        · rename_i hf; exact absurd h0 hf
        · rename_i hf
          rw [if_neg hf]
          refine ⟨by rw [hk], ?_⟩
          unfold faultF at hf
          rw [hk] at hf
          simpa using hf
      obtain ⟨t1, t2⟩ := htext
      rw [t1]
      unfold baseF at t2 ⊢
      rw [if_neg (by decide), if_neg (by decide), if_neg (by decide), if_pos rfl] at t2 ⊢
      cases hu : unquoteF (pieceOf l A (spanE l A).2) with
      | none => rw [hu] at t2; cases t2
      | some s =>
        simp only
        unfold unquoteF at hu
        split at hu
        · rename_i t ht
          split at hu
          · rename_i hle
            cases hu
            refine ⟨hle, ?_, hb.2.1⟩
            have hd := unq_back _ _ _ ht
            have hpl := piece_len l (Nat.le_of_lt hpos) hb.2.1
            have hhead : pieceOf l A (spanE l A).2 = 34 :: (pieceOf l A (spanE l A).2).drop 1 := by
              unfold pieceOf
              rw [drop_bAt (by omega), hq, show (spanE l A).2 - A = ((spanE l A).2 - A - 1) + 1 by omega, List.take_succ_cons]
              rfl
            rw [hhead, hd]
            rfl
          · cases hu
        · cases hu
end Go.Proofs.YtkhghbeojfgkhaaDoor
