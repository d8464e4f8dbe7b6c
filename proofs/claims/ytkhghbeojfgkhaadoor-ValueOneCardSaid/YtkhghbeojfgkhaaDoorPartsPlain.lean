/- What follows from a token's being local: scanned alone; ahead of a fault; joined with blanks. -/
import Derived.Test.YtkhghbeojfgkhaaDoorLocal
namespace Go.Proofs.YtkhghbeojfgkhaaDoor

theorem first_u8 (c : UInt8) : (letterB c = true ∨ digitB c = true ∨ c = 34 ∨ oneMark c = true ∨ c = 61 ∨ c = 33 ∨ c = 60 ∨ c = 62 ∨ c = 38 ∨ c = 124 ∨ c = 45) → blankB c = false ∧ c ≠ 35 :=
  all_u8 (fun c => (letterB c = true ∨ digitB c = true ∨ c = 34 ∨ oneMark c = true ∨ c = 61 ∨ c = 33 ∨ c = 60 ∨ c = 62 ∨ c = 38 ∨ c = 124 ∨ c = 45) → blankB c = false ∧ c ≠ 35) (by decide +kernel) c
theorem two_first {c d : UInt8} (h : twoMark c d = true) : c = 61 ∨ c = 33 ∨ c = 60 ∨ c = 62 ∨ c = 38 ∨ c = 124 ∨ c = 45 := by
  unfold twoMark at h
  simp only [Bool.or_eq_true, Bool.and_eq_true, beq_iff_eq] at h
  rcases h with (((((h | h) | h) | h) | h) | h) | h
  · exact .inl h.1
  · exact .inr (.inl h.1)
  · exact .inr (.inr (.inl h.1))
  · exact .inr (.inr (.inr (.inl h.1)))
  · exact .inr (.inr (.inr (.inr (.inl h.1))))
  · exact .inr (.inr (.inr (.inr (.inr (.inl h.1)))))
  · exact .inr (.inr (.inr (.inr (.inr (.inr h.1)))))
/-- a token begins with neither a blank nor a comment -/
theorem first_on {l : List UInt8} {A : Nat} (hk : (spanE l A).1 ≠ 0) : blankB (bAt l A) = false ∧ bAt l A ≠ 35 := by
  apply first_u8
  unfold spanE at hk
  split at hk
  · rename_i h; exact .inl h
  · split at hk
    · rename_i h; exact .inr (.inl h)
    · split at hk
      · rename_i h; exact .inr (.inr (.inl h))
      · split at hk
        · rename_i h
          rw [mark_bytes, bAt_drop, bAt_drop, Nat.add_zero] at h
          split at h
          · rename_i h2; exact .inr (.inr (.inr (.inr (two_first h2))))
          · split at h
            · rename_i h2; exact .inr (.inr (.inr (.inl h2)))
            · omega
        · exact absurd rfl hk
theorem skip_none {m : List UInt8} (h : blankB (bAt m 0) = false ∧ bAt m 0 ≠ 35) : skipS false m = 0 := by
  cases m with
  | nil => rfl
  | cons c m =>
    have e : bAt (c :: m) 0 = c := rfl
    rw [e] at h
    unfold skipS
    rw [if_neg (by rw [h.1]; simp), if_neg h.2]

/-- what is said of a token, but for its place -/
def zT (x : Tok × Nat) : Tok × Nat := ({ x.1 with at_ := 0 }, x.2)

theorem mem_kind : ∀ (f : Nat) (l : List UInt8) (i : Nat), ∀ x ∈ seqF f l i, x.2 ≠ 0 ∨ x.1.kind ≠ 0
  | 0, _, _, x, h => by cases h
  | f + 1, l, i, x, h => by
    unfold seqF at h
    split at h
    · rename_i he; simp at h; rw [h]; exact .inl he
    · split at h
      · cases h
      · rename_i hk
        rcases List.mem_cons.1 h with h | h
        · rw [h]; exact .inr hk
        · exact mem_kind f l _ x h
/-- a token of a text stands at a place of its own -/
theorem mem_place (l : List UInt8) (x : Tok × Nat) (hx : x ∈ allF l) (h0 : x.2 = 0) : ∃ A, A < l.length ∧ x = tokAt l A ∧ x.1.at_ = A ∧ x.1.kind ≠ 0 ∧ 0 < x.1.size ∧ A + x.1.size ≤ l.length ∧ (spanE l A).1 ≠ 0 := by
  unfold allF at hx
  split at hx
  · simp at hx; rw [hx] at h0; cases h0
  · have hk : x.1.kind ≠ 0 := by
      rcases mem_kind _ _ _ x hx with h | h
      · exact absurd h0 h
      · exact h
    obtain ⟨j, hj, rfl⟩ := mem_seq _ l 0 (Nat.zero_le _) x hx
    have hA := next_place l j hj
    refine ⟨j + skipS false (l.drop j), ?_⟩
    obtain ⟨A, hAe⟩ : ∃ A, A = j + skipS false (l.drop j) := ⟨_, rfl⟩
    have hn : nextF l j = tokAt l A := by rw [hAe]; rfl
    rw [← hAe] at hA ⊢
    rw [hn] at h0 hk ⊢
    rcases tokAt_cases l A hA with ⟨h, _⟩ | ⟨_, h1, h2, h3⟩
    · exact absurd h0 h
    · have hk' : (spanE l A).1 ≠ 0 := by rw [← h2]; exact hk
      have hb := spanE_bounds l A hA
      have hpos := spanE_pos hA hk'
      exact ⟨by omega, rfl, h1, hk, by omega, by omega, hk'⟩

/-- the token at a place where its bytes stand, from a place ahead of which there is nothing to skip -/
theorem next_local {l r : List UInt8} {A B : Nat} {x : Tok × Nat} (hx : x = tokAt l A) (hA : A ≤ l.length) (h0 : x.2 = 0) (hk : x.1.kind ≠ 0) (hk' : (spanE l A).1 ≠ 0) (hpos : 0 < x.1.size)
    (hp : (r.drop B).take x.1.size = (l.drop A).take x.1.size) (hr : B + x.1.size ≤ r.length) (hb : Behind (bAt l (A + x.1.size)) (bAt r (B + x.1.size))) : nextF r B = ({ x.1 with at_ := B }, 0) := by
  have s0 : bAt r B = bAt l A := by
    have h1 := bAt_tk (r.drop B) x.1.size 0 hpos
    have h2 := bAt_tk (l.drop A) x.1.size 0 hpos
    rw [bAt_drop, Nat.add_zero] at h1 h2
    rw [← h1, ← h2, hp]
  have hsk : skipS false (r.drop B) = 0 := skip_none (by rw [bAt_drop, Nat.add_zero, s0]; exact first_on hk')
  unfold nextF
  rw [hsk, Nat.add_zero]
  subst hx
  exact tok_local hA h0 hk rfl hp hr hb

theorem seq_end (f : Nat) (l : List UInt8) : seqF f l l.length = [] := by
  cases f with
  | zero => rfl
  | succ f => rw [seqF, tok_end l, if_neg (by simp), if_pos rfl]

/-- a token's bytes, scanned alone -/
theorem scan_alone (l : List UInt8) (hl : l.length ≤ 32768) (x : Tok × Nat) (hx : x ∈ allF l) (h0 : x.2 = 0) : allF (pieceOf l x.1.at_ (x.1.at_ + x.1.size)) = [zT x] := by
  obtain ⟨A, hA, hxt, hat, hk, hpos, hE, hk'⟩ := mem_place l x hx h0
  rw [hat]
  have hlen := piece_len l (Nat.le_add_right A x.1.size) hE
  rw [Nat.add_sub_cancel_left] at hlen
  obtain ⟨r, hr⟩ : ∃ r, r = pieceOf l A (A + x.1.size) := ⟨_, rfl⟩
  rw [← hr] at hlen ⊢
  have hp : (r.drop 0).take x.1.size = (l.drop A).take x.1.size := by
    rw [hr]; unfold pieceOf; rw [Nat.add_sub_cancel_left, List.drop_zero, List.take_take, Nat.min_self]
  have hn := next_local (r := r) (B := 0) hxt (Nat.le_of_lt hA) h0 hk hk' hpos hp (by omega) (.inr (.inr (bAt_ge (by omega))))
  unfold allF
  rw [if_neg (by omega), seqF, hn, if_neg (by simp), if_neg (by simpa using hk)]
  simp only [Nat.zero_add]
  have he := seq_end r.length r
  rw [hlen] at he
  rw [hlen, he]
  unfold zT
  rw [h0]

/-- the bytes of some tokens, a blank ahead of each -/
def joinB (l : List UInt8) (xs : List (Tok × Nat)) : List UInt8 := xs.flatMap fun x => 32 :: pieceOf l x.1.at_ (x.1.at_ + x.1.size)
theorem joinB_cons (l : List UInt8) (x : Tok × Nat) (xs : List (Tok × Nat)) : joinB l (x :: xs) = 32 :: (pieceOf l x.1.at_ (x.1.at_ + x.1.size) ++ joinB l xs) := by simp [joinB]
theorem joinB_head (l : List UInt8) (xs : List (Tok × Nat)) : bAt (joinB l xs) 0 = 32 ∨ bAt (joinB l xs) 0 = 0 := by
  cases xs with
  | nil => exact .inr rfl
  | cons x xs => rw [joinB_cons]; exact .inl rfl

theorem seq_joined (l : List UInt8) : ∀ (xs : List (Tok × Nat)), (∀ x ∈ xs, x ∈ allF l ∧ x.2 = 0) → ∀ (r : List UInt8) (i f : Nat), i ≤ r.length → r.drop i = joinB l xs → xs.length ≤ f → (seqF f r i).map zT = xs.map zT
  | [], _, r, i, f, hi, hd, _ => by
    have : i = r.length := by
      have := congrArg List.length hd
      rw [List.length_drop] at this
      have e : (joinB l []).length = 0 := rfl
      omega
    rw [this, seq_end]
  | x :: xs, hxs, r, i, f, hi, hd, hf => by
    obtain ⟨g, rfl⟩ : ∃ g, f = g + 1 := ⟨f - 1, by simp at hf; omega⟩
    obtain ⟨hx, h0⟩ := hxs x (by simp)
    obtain ⟨A, hA, hxt, hat, hk, hpos, hE, hk'⟩ := mem_place l x hx h0
    have hlen := piece_len l (Nat.le_add_right A x.1.size) hE
    rw [Nat.add_sub_cancel_left] at hlen
    rw [joinB_cons, hat] at hd
    have hil : i < r.length := by
      have := congrArg List.length hd
      simp at this
      omega
    have hd1 : r.drop (i + 1) = pieceOf l A (A + x.1.size) ++ joinB l xs := by rw [← List.drop_drop, hd]; rfl
    have hd2 : r.drop (i + 1 + x.1.size) = joinB l xs := by rw [← List.drop_drop, hd1, List.drop_left' hlen]
    have hle : i + 1 + x.1.size ≤ r.length := by
      have := congrArg List.length hd1
      simp [hlen] at this
      omega
    have hp : (r.drop (i + 1)).take x.1.size = (l.drop A).take x.1.size := by
      rw [hd1, List.take_left' hlen]; unfold pieceOf; rw [Nat.add_sub_cancel_left]
    have hbb : bAt r (i + 1 + x.1.size) = bAt (joinB l xs) 0 := by rw [← hd2, bAt_drop]; rfl
    have hb : Behind (bAt l (A + x.1.size)) (bAt r (i + 1 + x.1.size)) := by
      rw [hbb]
      rcases joinB_head l xs with h | h
      · rw [h]; exact .inr (.inl (by decide))
      · rw [h]; exact .inr (.inr rfl)
    have hn := next_local (r := r) (B := i + 1) hxt (Nat.le_of_lt hA) h0 hk hk' hpos hp hle hb
    have hn' : nextF r i = ({ x.1 with at_ := i + 1 }, 0) := by
      have hs0 : bAt r (i + 1) = bAt l A := by
        have h1 := bAt_tk (r.drop (i + 1)) x.1.size 0 hpos
        have h2 := bAt_tk (l.drop A) x.1.size 0 hpos
        rw [bAt_drop, Nat.add_zero] at h1 h2
        rw [← h1, ← h2, hp]
      have hsk1 : skipS false (r.drop (i + 1)) = 0 := skip_none (by rw [bAt_drop, Nat.add_zero, hs0]; exact first_on hk')
      have hsk : skipS false (r.drop i) = 1 := by
        rw [hd, ← hd1]
        unfold skipS
        rw [if_pos (by decide), hsk1]
      unfold nextF at hn ⊢
      rw [hsk1, Nat.add_zero] at hn
      rw [hsk]
      exact hn
    rw [seqF, hn', if_neg (by simp), if_neg (by simpa using hk)]
    simp only
    rw [List.map_cons, List.map_cons, seq_joined l xs (fun y hy => hxs y (List.mem_cons_of_mem _ hy)) r (i + 1 + x.1.size) g hle hd2 (by simp at hf; omega)]
    congr 1
    unfold zT
    simp [h0]

/-- joined with blanks: the same tokens -/
theorem scan_joined (l : List UInt8) (xs : List (Tok × Nat)) (hxs : ∀ x ∈ xs, x ∈ allF l ∧ x.2 = 0) (hb : ((joinB l xs).drop 1).length ≤ 32768) : (allF ((joinB l xs).drop 1)).map zT = xs.map zT := by
  cases xs with
  | nil =>
    have e : (joinB l []).drop 1 = [] := rfl
    rw [e]
    decide
  | cons x xs =>
    obtain ⟨hx, h0⟩ := hxs x (by simp)
    obtain ⟨A, hA, hxt, hat, hk, hpos, hE, hk'⟩ := mem_place l x hx h0
    have hlen := piece_len l (Nat.le_add_right A x.1.size) hE
    rw [Nat.add_sub_cancel_left] at hlen
    obtain ⟨r, hr⟩ : ∃ r, r = (joinB l (x :: xs)).drop 1 := ⟨_, rfl⟩
    rw [← hr] at hb ⊢
    have hd1 : r = pieceOf l A (A + x.1.size) ++ joinB l xs := by rw [hr, joinB_cons, hat]; rfl
    have hd2 : r.drop (0 + x.1.size) = joinB l xs := by rw [Nat.zero_add, hd1, List.drop_left' hlen]
    have hle : 0 + x.1.size ≤ r.length := by rw [hd1]; simp [hlen]
    have hp : (r.drop 0).take x.1.size = (l.drop A).take x.1.size := by
      rw [List.drop_zero, hd1, List.take_left' hlen]; unfold pieceOf; rw [Nat.add_sub_cancel_left]
    have hbb : bAt r (0 + x.1.size) = bAt (joinB l xs) 0 := by rw [← hd2, bAt_drop]; rfl
    have hbh : Behind (bAt l (A + x.1.size)) (bAt r (0 + x.1.size)) := by
      rw [hbb]
      rcases joinB_head l xs with h | h
      · rw [h]; exact .inr (.inl (by decide))
      · rw [h]; exact .inr (.inr rfl)
    have hn := next_local (r := r) (B := 0) hxt (Nat.le_of_lt hA) h0 hk hk' hpos hp hle hbh
    have hxl : xs.length ≤ (joinB l xs).length := by
      have : ∀ ys : List (Tok × Nat), ys.length ≤ (joinB l ys).length := by
        intro ys
        induction ys with
        | nil => simp
        | cons y ys ih => rw [joinB_cons]; simp; omega
      exact this xs
    have hrl : r.length = x.1.size + (joinB l xs).length := by rw [hd1]; simp [hlen]
    unfold allF
    rw [if_neg (by omega), seqF, hn, if_neg (by simp), if_neg (by simpa using hk)]
    simp only
    rw [List.map_cons, List.map_cons, seq_joined l xs (fun y hy => hxs y (List.mem_cons_of_mem _ hy)) r (0 + x.1.size) r.length hle hd2 (by omega)]
    congr 1
    unfold zT
    simp [h0]

/-- the tokens' bytes lie apart -/
theorem sum_sizes : ∀ (f : Nat) (l : List UInt8) (i : Nat), i ≤ l.length → (∀ x ∈ seqF f l i, x.2 = 0) → i + ((seqF f l i).map fun x => x.1.size).sum ≤ l.length
  | 0, l, i, hi, _ => by simpa [seqF] using hi
  | f + 1, l, i, hi, h => by
    unfold seqF at h ⊢
    split
    · rename_i he
      rw [if_pos he] at h
      exact absurd (h _ (by simp)) he
    · rename_i he
      rw [if_neg he] at h
      split
      · simpa using hi
      · rename_i hk
        rw [if_neg hk] at h
        obtain ⟨g1, g2, g3⟩ := next_on hi (by omega) hk
        have ih := sum_sizes f l _ g2 (fun x hx => h x (List.mem_cons_of_mem _ hx))
        simp only [List.map_cons, List.sum_cons]
        omega
theorem joinB_len (l : List UInt8) : ∀ (xs : List (Tok × Nat)), (∀ x ∈ xs, x ∈ allF l ∧ x.2 = 0) → (joinB l xs).length = xs.length + (xs.map fun x => x.1.size).sum ∧ xs.length ≤ (xs.map fun x => x.1.size).sum
  | [], _ => by simp [joinB]
  | x :: xs, h => by
    obtain ⟨hx, h0⟩ := h x (by simp)
    obtain ⟨A, hA, hxt, hat, hk, hpos, hE, hk'⟩ := mem_place l x hx h0
    have hlen := piece_len l (Nat.le_add_right A x.1.size) hE
    rw [Nat.add_sub_cancel_left] at hlen
    obtain ⟨i1, i2⟩ := joinB_len l xs (fun y hy => h y (List.mem_cons_of_mem _ hy))
    rw [joinB_cons, hat]
    simp only [List.length_cons, List.length_append, List.map_cons, List.sum_cons, hlen, i1]
    omega
/-- joined, a text is at most twice as long -/
theorem joined_len (l : List UInt8) (hz : ∀ x ∈ allF l, x.2 = 0) : l.length ≤ 32768 ∧ (joinB l (allF l)).length ≤ 2 * l.length := by
  have hs : l.length ≤ 32768 := by
    rcases Nat.lt_or_ge 32768 l.length with h | h
    · have e : allF l = [(zeroTok, 3)] := by unfold allF; rw [if_pos h]
      have := hz (zeroTok, 3) (by rw [e]; simp)
      cases this
    · exact h
  refine ⟨hs, ?_⟩
  obtain ⟨i1, i2⟩ := joinB_len l (allF l) (fun x hx => ⟨hx, hz x hx⟩)
  have e : allF l = seqF (l.length + 1) l 0 := by unfold allF; rw [if_neg (by omega)]
  have h := sum_sizes (l.length + 1) l 0 (Nat.zero_le _) (by rw [← e]; exact hz)
  rw [← e] at h
  omega
end Go.Proofs.YtkhghbeojfgkhaaDoor
