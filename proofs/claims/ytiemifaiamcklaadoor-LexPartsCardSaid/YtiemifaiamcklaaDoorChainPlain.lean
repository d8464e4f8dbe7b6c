/- LexParts' plain facts: tokens one behind the other, with blanks and comments between; what stands ahead of a fault. -/
import Derived.Test.YtiemifaiamcklaaDoorPartsPlain
namespace Go.Proofs.YtiemifaiamcklaaDoor
open Go.RowKit

/-- blanks and comments alone; in a comment already, or not; none: something else -/
def gapB : Bool → List UInt8 → Option Bool
  | c, [] => some c
  | true, x :: r => gapB (x != 10) r
  | false, x :: r => if x = 35 then gapB true r else if blankB x = true then gapB false r else none

theorem gap_skip : ∀ (m : List UInt8) (c : Bool), ∃ d, gapB c (m.take (skipS c m)) = some d ∧ (skipS c m < m.length → d = false) ∧ (skipS c m = m.length → d = false ∨ d = true)
  | [], c => ⟨c, by cases c <;> rfl, by simp, fun _ => by cases c <;> simp⟩
  | x :: r, true => by
    unfold skipS
    by_cases h : x = 10
    · rw [if_pos h, Nat.add_comm, List.take_succ_cons]
      obtain ⟨d, h1, h2, h3⟩ := gap_skip r false
      refine ⟨d, ?_, fun h => h2 (by simp at h; omega), fun _ => by cases d <;> simp⟩
      unfold gapB
      have : (x != 10) = false := by simp [h]
      rw [this, h1]
    · rw [if_neg h, Nat.add_comm, List.take_succ_cons]
      obtain ⟨d, h1, h2, h3⟩ := gap_skip r true
      refine ⟨d, ?_, fun h => h2 (by simp at h; omega), fun _ => by cases d <;> simp⟩
      unfold gapB
      have : (x != 10) = true := by simp [h]
      rw [this, h1]
  | x :: r, false => by
    unfold skipS
    by_cases h : blankB x = true
    · have hx : x ≠ 35 := by rintro rfl; revert h; decide
      rw [if_pos h, Nat.add_comm, List.take_succ_cons]
      obtain ⟨d, h1, h2, h3⟩ := gap_skip r false
      refine ⟨d, ?_, fun h => h2 (by simp at h; omega), fun _ => by cases d <;> simp⟩
      unfold gapB
      rw [if_neg hx, if_pos h, h1]
    · rw [if_neg h]
      by_cases hx : x = 35
      · rw [if_pos hx, Nat.add_comm, List.take_succ_cons]
        obtain ⟨d, h1, h2, h3⟩ := gap_skip r true
        refine ⟨d, ?_, fun h => h2 (by simp at h; omega), fun _ => by cases d <;> simp⟩
        unfold gapB
        rw [if_pos hx, h1]
      · rw [if_neg hx]
        exact ⟨false, rfl, fun _ => rfl, fun _ => .inl rfl⟩

theorem skip_take : ∀ (m : List UInt8) (c : Bool) (k : Nat), skipS c (m.take k) = min k (skipS c m)
  | [], c, k => by cases c <;> simp [skipS]
  | x :: r, c, 0 => by cases c <;> simp [skipS]
  | x :: r, true, k + 1 => by
    rw [List.take_succ_cons]
    unfold skipS
    rw [skip_take r false k, skip_take r true k]
    split <;> omega
  | x :: r, false, k + 1 => by
    rw [List.take_succ_cons]
    unfold skipS
    rw [skip_take r false k, skip_take r true k]
    split
    · omega
    · split <;> omega

/-- tokens from a place on up to an end, blanks and comments between -/
def Chain (l : List UInt8) : Nat → List (Tok × Nat) → Nat → Bool → Prop
  | i, [], E, last => i ≤ E ∧ E ≤ l.length ∧ ∃ d, gapB false ((l.drop i).take (E - i)) = some d ∧ (last = true ∨ d = false)
  | i, x :: xs, E, last => i ≤ x.1.at_ ∧ 0 < x.1.size ∧ x.1.at_ + x.1.size ≤ E ∧ gapB false ((l.drop i).take (x.1.at_ - i)) = some false ∧ Chain l (x.1.at_ + x.1.size) xs E last
theorem Chain.le {l : List UInt8} : ∀ {xs : List (Tok × Nat)} {i E : Nat} {last : Bool}, Chain l i xs E last → i ≤ E ∧ E ≤ l.length
  | [], _, _, _, h => ⟨h.1, h.2.1⟩
  | x :: xs, i, E, last, h => by
    obtain ⟨h1, h2, h3, _, h5⟩ := h
    have := h5.le
    omega
theorem gap_at {l : List UInt8} {i : Nat} (hi : i ≤ l.length) : ∃ d, gapB false ((l.drop i).take (skipS false (l.drop i))) = some d ∧ (i + skipS false (l.drop i) < l.length → d = false) := by
  obtain ⟨d, h1, h2, _⟩ := gap_skip (l.drop i) false
  exact ⟨d, h1, fun h => h2 (by rw [List.length_drop]; omega)⟩

theorem fault_end (l : List UInt8) : (tokAt l l.length).2 = 0 := by
  have := tok_end l
  unfold nextF at this
  rw [List.drop_length] at this
  simp only [skipS, Nat.add_zero] at this
  rw [this]
theorem end_of {l : List UInt8} {A : Nat} (hA : A ≤ l.length) (h0 : (tokAt l A).2 = 0) (hk : (tokAt l A).1.kind = 0) : A = l.length := by
  rcases Nat.lt_or_ge A l.length with h | h
  · exfalso
    rcases tokAt_cases l A hA with ⟨h', _⟩ | ⟨_, h1, h2, h3⟩
    · exact h' h0
    · rw [hk] at h2
      have hf : faultF l (spanE l A).1 A (spanE l A).2 = 0 := by
        unfold tokAt at h0
        split at h0
        · exact h0
        · rename_i hn; omega
      rw [← h2] at hf
      unfold faultF at hf
      rw [if_neg (by omega)] at hf
      unfold baseF at hf
      rw [if_neg (by omega), if_neg (by omega), if_neg (by omega), if_neg (by omega), if_neg (by omega), if_pos h] at hf
      cases hf
  · omega

theorem chain_ok (l : List UInt8) : ∀ (f i : Nat), i ≤ l.length → l.length < i + f → (∀ x ∈ seqF f l i, x.2 = 0) → Chain l i (seqF f l i) l.length true
  | 0, i, hi, hf, _ => by omega
  | f + 1, i, hi, hf, h => by
    unfold seqF at h ⊢
    split
    · rename_i he
      rw [if_pos he] at h
      exact absurd (h _ (by simp)) he
    · rename_i he
      rw [if_neg he] at h
      obtain ⟨d, g1, g2⟩ := gap_at hi
      have hp := next_place l i hi
      split
      · rename_i hk
        have := end_of hp (by unfold nextF at he; omega) hk
        refine ⟨hi, Nat.le_refl _, d, ?_, .inl rfl⟩
        rw [show l.length - i = skipS false (l.drop i) by omega]
        exact g1
      · rename_i hk
        rw [if_neg hk] at h
        obtain ⟨n1, n2, n3⟩ := next_on hi (by omega) hk
        have hat : (nextF l i).1.at_ = i + skipS false (l.drop i) := by
          unfold nextF at he ⊢
          rcases tokAt_cases l _ hp with ⟨h', _⟩ | ⟨_, h1, _⟩
          · exact absurd h' he
          · exact h1
        have hps : 0 < (nextF l i).1.size := by
          unfold nextF at he hk ⊢
          rcases tokAt_cases l _ hp with ⟨h', _⟩ | ⟨_, h1, h2, h3⟩
          · exact absurd h' he
          · rw [h2] at hk
            have := spanE_pos hp hk
            omega
        refine ⟨n3, hps, n2, ?_, chain_ok l f _ n2 (by omega) (fun x hx => h x (List.mem_cons_of_mem _ hx))⟩
        rw [hat, Nat.add_sub_cancel_left, g1, g2 (by omega)]

/-- ahead of a fault -/
theorem chain_bad (l : List UInt8) : ∀ (f i : Nat), i ≤ l.length → ∀ (p r : List (Tok × Nat)) (x : Tok × Nat), seqF f l i = p ++ x :: r → (∀ y ∈ p, y.2 = 0) → x.2 ≠ 0 → Chain l i p x.1.at_ false ∧ x.1.at_ < l.length ∧ x.2 ≠ 3
  | 0, i, hi, p, r, x, h, _, _ => by simp [seqF] at h
  | f + 1, i, hi, p, r, x, h, hz, hx => by
    unfold seqF at h
    obtain ⟨d, g1, g2⟩ := gap_at hi
    have hp := next_place l i hi
    split at h
    · rename_i he
      have hpx : p = [] ∧ x = nextF l i := by
        cases p with
        | nil => simp at h; exact ⟨rfl, h.1.symm⟩
        | cons y p => simp at h
      obtain ⟨rfl, rfl⟩ := hpx
      have hat : (nextF l i).1.at_ = i + skipS false (l.drop i) := by
        unfold nextF at he ⊢
        rcases tokAt_cases l _ hp with ⟨_, h1⟩ | ⟨h', _⟩
        · rw [h1]
        · exact absurd h' he
      have hlt : i + skipS false (l.drop i) < l.length := by
        rcases Nat.lt_or_ge (i + skipS false (l.drop i)) l.length with h' | h'
        · exact h'
        · exfalso
          apply he
          unfold nextF
          rw [show i + skipS false (l.drop i) = l.length by omega]
          exact fault_end l
      refine ⟨⟨by omega, by omega, d, ?_, .inr (g2 hlt)⟩, by omega, ?_⟩
      · rw [hat, Nat.add_sub_cancel_left]; exact g1
      · unfold nextF tokAt
        split
        · simp only
          unfold faultF
          split
          · omega
          · unfold baseF
            split
            · split <;> simp
            · split
              · split <;> simp
              · split
                · split <;> simp
                · split
                  · split <;> simp
                  · split
                    · simp
                    · simp
        · simp
    · rename_i he
      split at h
      · simp at h
      · rename_i hk
        cases p with
        | nil => simp at h; exact absurd h.1.symm (fun e => by subst e; exact he hx)
        | cons y p =>
          simp only [List.cons_append, List.cons.injEq] at h
          obtain ⟨rfl, h⟩ := h
          obtain ⟨n1, n2, n3⟩ := next_on hi (by omega) hk
          have hat : (nextF l i).1.at_ = i + skipS false (l.drop i) := by
            unfold nextF at he ⊢
            rcases tokAt_cases l _ hp with ⟨h', _⟩ | ⟨_, h1, _⟩
            · exact absurd h' he
            · exact h1
          have hps : 0 < (nextF l i).1.size := by
            unfold nextF at he hk ⊢
            rcases tokAt_cases l _ hp with ⟨h', _⟩ | ⟨_, h1, h2, h3⟩
            · exact absurd h' he
            · rw [h2] at hk
              have := spanE_pos hp hk
              omega
          obtain ⟨c1, c2, c3⟩ := chain_bad l f _ n2 p r x h (fun z hz' => hz z (List.mem_cons_of_mem _ hz')) hx
          refine ⟨⟨n3, hps, c1.le.1, ?_, c1⟩, c2, c3⟩
          rw [hat, Nat.add_sub_cancel_left, g1, g2 (by omega)]

/-- what stands ahead of a fault, scanned alone -/
theorem seq_cut (l : List UInt8) : ∀ (f g i : Nat), i ≤ l.length → ∀ (p r : List (Tok × Nat)) (x : Tok × Nat), seqF f l i = p ++ x :: r → (∀ y ∈ p, y.2 = 0) → x.2 ≠ 0 → x.1.at_ < i + g → seqF g (l.take x.1.at_) i = p
  | 0, g, i, hi, p, r, x, h, _, _, _ => by simp [seqF] at h
  | f + 1, g, i, hi, p, r, x, h, hz, hx, hg => by
    obtain ⟨cc, hlt, _⟩ := chain_bad l (f + 1) i hi p r x h hz hx
    have hle := cc.le.1
    obtain ⟨g', rfl⟩ : ∃ g', g = g' + 1 := ⟨g - 1, by omega⟩
    have hlen : (l.take x.1.at_).length = x.1.at_ := by rw [List.length_take]; omega
    have hp := next_place l i hi
    have hdt : (l.take x.1.at_).drop i = (l.drop i).take (x.1.at_ - i) := List.drop_take ..
    unfold seqF at h
    split at h
    · rename_i he
      have hpx : p = [] ∧ x = nextF l i := by
        cases p with
        | nil => simp at h; exact ⟨rfl, h.1.symm⟩
        | cons y p => simp at h
      obtain ⟨rfl, rfl⟩ := hpx
      have hat : (nextF l i).1.at_ = i + skipS false (l.drop i) := by
        unfold nextF at he ⊢
        rcases tokAt_cases l _ hp with ⟨_, h1⟩ | ⟨h', _⟩
        · rw [h1]
        · exact absurd h' he
      generalize hr : l.take (nextF l i).1.at_ = r' at *
      have hn : nextF r' i = nextF r' r'.length := by
        unfold nextF
        rw [hdt, skip_take, List.drop_length]
        have e0 : skipS false [] = 0 := rfl
        rw [e0, hlen]
        congr 1
        omega
      rw [seqF, hn, tok_end, if_neg (by simp), if_pos rfl]
    · rename_i he
      split at h
      · simp at h
      · rename_i hk
        cases p with
        | nil => simp at h; exact absurd h.1.symm (fun e => by subst e; exact he hx)
        | cons y p =>
          simp only [List.cons_append, List.cons.injEq] at h
          obtain ⟨rfl, h⟩ := h
          obtain ⟨n1, n2, n3⟩ := next_on hi (by omega) hk
          obtain ⟨_, hps, _, _, c1⟩ := cc
          have hcl := c1.le.1
          obtain ⟨A, hA⟩ : ∃ A, A = i + skipS false (l.drop i) := ⟨_, rfl⟩
          have hn1 : nextF l i = tokAt l A := by rw [hA]; rfl
          rw [← hA] at hp
          have hat : (nextF l i).1.at_ = A := by
            rw [hn1] at he ⊢
            rcases tokAt_cases l A hp with ⟨h', _⟩ | ⟨_, h1, _⟩
            · exact absurd h' he
            · exact h1
          obtain ⟨r', hr⟩ : ∃ r', r' = l.take x.1.at_ := ⟨_, rfl⟩
          have ih := seq_cut l f g' _ n2 p r x h (fun z hz' => hz z (List.mem_cons_of_mem _ hz')) hx (by omega)
          rw [← hr] at hlen hdt ih ⊢
          rw [hat] at hcl
          have hn : nextF r' i = nextF l i := by
            have h1 : nextF r' i = tokAt r' A := by
              unfold nextF
              rw [hdt, skip_take]
              congr 1
              omega
            rw [h1]
            have hb : Behind (bAt l (A + (tokAt l A).1.size)) (bAt r' (A + (tokAt l A).1.size)) := by
              rw [← hn1]
              rcases Nat.lt_or_ge (A + (nextF l i).1.size) x.1.at_ with h' | h'
              · left
                rw [bAt_lt (by omega), bAt_lt (by omega)]
                simp [hr]
              · exact .inr (.inr (bAt_ge (by omega)))
            have hpp : (r'.drop A).take (tokAt l A).1.size = (l.drop A).take (tokAt l A).1.size := by
              rw [hr, List.drop_take, List.take_take, ← hn1, Nat.min_eq_left (by omega)]
            have ht := tok_local (l := l) (r := r') (B := A) hp (by rw [← hn1]; omega) (by rw [← hn1]; exact hk) rfl hpp (by rw [← hn1]; omega) hb
            rw [ht, hn1]
            rw [hn1] at he hat
            have e2 : (tokAt l A).2 = 0 := by omega
            obtain ⟨t, ht2⟩ : ∃ t, t = tokAt l A := ⟨_, rfl⟩
            rw [← ht2] at hat e2 ⊢
            obtain ⟨⟨k1, k2, k3, k4, k5, k6⟩, k7⟩ := t
            simp only at hat e2
            rw [hat, e2]
          rw [seqF, hn, if_neg he, if_neg hk, ih]

/-- a text without a fault -/
theorem parts_ok (l : List UInt8) (h : ∀ x ∈ allF l, x.2 = 0) : l.length ≤ 32768 ∧ Chain l 0 (allF l) l.length true := by
  have hs : l.length ≤ 32768 := (joined_len l h).1
  have e : allF l = seqF (l.length + 1) l 0 := by unfold allF; rw [if_neg (by omega)]
  refine ⟨hs, ?_⟩
  rw [e] at h ⊢
  exact chain_ok l _ 0 (Nat.zero_le _) (by omega) h
/-- a text with one -/
theorem parts_bad (l : List UInt8) (p r : List (Tok × Nat)) (x : Tok × Nat) (h : allF l = p ++ x :: r) (hp : ∀ y ∈ p, y.2 = 0) (hx : x.2 ≠ 0) :
    (32768 < l.length ∧ x.2 = 3 ∧ x.1.at_ = 0) ∨ (l.length ≤ 32768 ∧ x.2 ≠ 3 ∧ x.1.at_ < l.length ∧ allF (l.take x.1.at_) = p ∧ Chain l 0 p x.1.at_ false) := by
  rcases Nat.lt_or_ge 32768 l.length with hl | hl
  · left
    have e : allF l = [(zeroTok, 3)] := by unfold allF; rw [if_pos hl]
    rw [e] at h
    cases p with
    | nil => simp at h; rw [← h.1]; exact ⟨hl, rfl, rfl⟩
    | cons y p => simp at h
  · right
    have e : allF l = seqF (l.length + 1) l 0 := by unfold allF; rw [if_neg (by omega)]
    rw [e] at h
    obtain ⟨c1, c2, c3⟩ := chain_bad l _ 0 (Nat.zero_le _) p r x h hp hx
    refine ⟨hl, c3, c2, ?_, c1⟩
    unfold allF
    have hlen : (l.take x.1.at_).length = x.1.at_ := by rw [List.length_take]; omega
    rw [hlen, if_neg (by omega)]
    exact seq_cut l _ _ 0 (Nat.zero_le _) p r x h hp hx (by omega)
end Go.Proofs.YtiemifaiamcklaaDoor
